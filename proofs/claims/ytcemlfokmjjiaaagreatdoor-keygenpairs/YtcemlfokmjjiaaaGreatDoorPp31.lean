/- Put together of: Iva4 Law6 Law10. -/
import Derived.Test.YtcemlfokmjjiaaaGreatDoorPp30

namespace Go.Proofs.YtcemlfokmjjiaaaGreatDoor
set_option maxRecDepth 100000
set_option maxHeartbeats 4000000
open Go.RowKit

def xD (n:Nat):Nat→List Ev
 | 0=>[]
 | k+1=>xD n k ++ kT n

def oJ (n:Nat):List Ev:=xD n (stp n) ++ (List.replicate 3 (1,((n+1:Nat):Int),0) ++ (List.replicate 3 (1,(n:Int),0) ++ List.replicate 2 (1,(n:Int),0)))

structure BtwI (w0:World) (o0:Tr) (w:World) (o:Tr) (tp:Value) (n M a pb k N:Nat) (s:Int × Int × Int) (G:Prop) (uo vo fo go:Option Addr) (uc vc fc gc U V:Nat):Prop where
 wrt:Wr w0 o0 (xD n k) w o tp (12*(N-k)+20)
 box:w.heap[pb]? = some (.cells #[.slice uo n uc,.slice vo n vc,.slice fo (n+1) fc,.slice go (n+1) gc,.int .u64 (tcN 18446744073709551616 (dS s k).1:Nat)] 194 (0,0))
 nu:NumN w o (.slice uo n uc) n U
 nv:NumN w o (.slice vo n vc) n V
 nf:NumN w o (.slice fo (n+1) fc) (n+1) (tcN (18446744073709551616^(n+1)) (dS s k).2.1)
 ng:NumN w o (.slice go (n+1) gc) (n+1) (tcN (18446744073709551616^(n+1)) (dS s k).2.2)
 co:G→CoOk M a U V (dS s k)

theorem TrIn.put {w w':World} {o:Tr} {p:Nat} (h:TrIn w o) (k:Kept (fun b=>b=p) w w') (hf:¬ dx o p):TrIn w' o:=by
 rcases o with _ | ⟨q,g,l⟩
 ·trivial
 ·exact ⟨h.1.kept k (fun e=>hf (.inl e.symm)) (fun x hx e=>hf (.inr (by rw [← e];exact hx))),h.2⟩

theorem ve {B:Nat} {F:Int}:aL (sgN F) (tcN B (-F)) (tcN B F)=F.natAbs:=by
 unfold aL sgN tcN;by_cases h:F<0
 ·rw [if_pos h,if_pos (by decide),if_neg (by omega)];omega
 ·rw [if_neg h,if_neg (by decide),if_neg h];omega

theorem vj {n:Nat} {F:Int} (hF:-((18446744073709551616^n:Nat):Int)<F∧F<((18446744073709551616^n:Nat):Int)):cJ 0 (tcN (18446744073709551616^(n+1)) F) (n+1)=tcN (18446744073709551616^(n+1)) (-F):=by
 unfold cJ;rw [← B64];exact Ae hF (by rw [Nat.pow_succ];omega)

theorem vS {n M A U V D is Z Y:Nat} {s:Int × Int × Int} (i:0<n) (hn:n≤130) (hM:M<18446744073709551616^n) (f:M%2=1) (h2:2≤M) (hA:A<M) (hs:s=dS (1,(M:Int),(A:Int)) (stp n)) (g:CoOk M A U V s) (hD:D=s.2.1.natAbs) (e:is=be (decide (D=1))) (hZ:Z=aL (sgN s.2.1) (eY 0 U M) U) (hY:Y=aL is Z 0) :
  (Nat.gcd A M=1→Y<M∧A*Y%M=1∧is=1)∧(Nat.gcd A M≠1→Y=0∧is=0):=by
 rw [B64] at hM;have he:=(rM (M:=M) (a:=A) (n:=n) i hn f (by omega) hM).2;rw [← hs,← hD] at he;rw [Nat.gcd_comm,← he];constructor
 ·intro h1;rw [h1,bd rfl] at e;have b:is=1:=e;have hf:=xZ (d:=s.1) (F:=s.2.1) (G:=s.2.2) g h2 (by omega);have k:Z=if s.2.1<0 then eY 0 U M else U:=by
   rw [hZ];unfold aL sgN;by_cases h:s.2.1<0
   ·rw [if_pos h,if_pos h];rfl
   ·rw [if_neg h,if_neg h];rfl
  rw [← k] at hf;have j:Y=Z:=by rw [hY,b];rfl
  rw [j];exact ⟨hf.1,hf.2,b⟩
 ·intro h1;rw [aF h1] at e;have c:is=0:=e;exact ⟨by rw [hY,c];rfl,c⟩

theorem nL {w0:World} {o0:Tr} {m:List Ev} {tp:Value} {k:Nat} (a n:Nat) (u v:Value) (xs ys:List Nat) {w:World} {o:Tr} (s:Wr w0 o0 m w o tp (k+1)) (hb:a≤1) (hu:RowT w o u xs) (hv:RowT w o v ys) (b:Digs xs) (c:Digs ys) (hl:max xs.length ys.length=n) (hn:n≤1000) :
  Calls Tryz.prog 187 #[tp,.int .u64 (a:Nat),u,v] w fun e w'=>∃ (v':Value),e=.returned v'∧∃ (Z:Nat) (o':Tr),Hid (Z=aL a (val xs) (val ys))∧NumN w' o' v' n Z∧Fresh w v'∧Did w o [(1,(n:Int),0)] w' o'∧Wr w0 o0 (m ++ [(1,(n:Int),0)]) w' o' tp k:=by
 have h:=pI o a (by omega) u v xs ys w (s.room.less (by omega)) hu hv b c (by omega) (by omega);rw [s.ptr,hl] at h;refine h.mono ?_;rintro e w' ⟨v',rfl,ho,o',d⟩;exact ⟨v',rfl,_,o',rfl,NumN.own ho (lF (bV b (by omega)) (bV c (by omega))) (d.room (k:=0) (s.room.less (by simp))).1,Fresh.own ho (leR _),d,s.next d (by simp;omega)⟩

theorem xH {w0:World} {o0:Tr} {m:List Ev} {tp:Value} {k:Nat} (n X:Nat) (u v:Value) {w:World} {o:Tr} (s:Wr w0 o0 m w o tp (k+1)) (hu:NumT w o u n X) (hv:RowT w o v [1]) (a:0<n) (hn:n≤1000) :
  Calls Tryz.prog 188 #[tp,u,v] w fun e w'=>∃ c:Nat,e=.returned (.int .u64 (c:Nat))∧∃ (o':Tr),Hid (c=be (decide (X=1)))∧c≤1∧Did w o [(1,(n:Int),0)] w' o'∧Wr w0 o0 (m ++ [(1,(n:Int),0)]) w' o' tp k:=by
 have h:=lZ o u v _ [1] w (s.room.less (by omega)) hu.1 hv (ai (by omega) _ _) (Digs.one (by omega)) (by rw [af];omega) (by simp);rw [s.ptr,af,bJ hu.2,show ([1]:List Nat).length=1 from rfl,show max n 1=n by omega,show val [1]=1 from rfl] at h;refine h.mono ?_;rintro e w' ⟨rfl,o',d⟩;exact ⟨_,rfl,o',rfl,oV _,d,s.next d (by simp;omega)⟩

theorem Ca (o:Tr) (ao bo xo:Option Addr) (n l K a c xc A:Nat) (ms rs:List Nat) (w:World) (ht:TrRoom w o (12*stp n+30)) (hm:RowT w o (.slice ao n a) ms) (hr:RowT w o (.slice bo l c) rs) (hx:NumT w o (.slice xo n xc) n A) (bc:Digs ms) (bt:Digs rs) (hK:K<18446744073709551616) (an:0<n) (hn:n≤130) (bz:okMod ms K rs∨o=none) :
  Calls Tryz.prog 145 #[aD o,.agg #[.slice ao n a,.int .u64 (K:Nat),.slice bo l c],.slice xo n xc] w fun e w'=>∃ (v':Value) (is:Nat),e=.returned (.tuple #[v',.int .u64 (is:Nat)])∧∃ (Y:Nat) (m:List Ev) (o':Tr),NumN w' o' v' n Y∧Fresh w v'∧Did w o m w' o'∧(okMod ms K rs→m=oJ n∧(A<val ms→(Nat.gcd A (val ms)=1→Y<val ms∧A*Y%val ms=1∧is=1)∧(Nat.gcd A (val ms)≠1→Y=0∧is=0))):=by
 obtain ⟨po,bd⟩:=aH o;obtain ⟨_,_,_,e1,bL,_,_,_,_⟩:=hm.1.open;cases e1
 obtain ⟨M,hM⟩:∃ M,M=val ms:=⟨_,rfl⟩
 have aq:NumT w o (.slice ao n a) n M:=by rw [hM];exact NumT.of hm bc bL.out
 obtain ⟨W,hW⟩:∃ W,W=w.alloc (.cells #[.slice ao n a,.int .u64 (K:Nat),.slice bo l c] 130):=⟨_,rfl⟩
 have k0:Kept ae w W:=by rw [hW];exact (ah ae w).alloc _
 have b1:W.heap[w.heap.size]? = some (.cells #[.slice ao n a,.int .u64 (K:Nat),.slice bo l c] 130 (0,0)):=by rw [hW];exact heap_alloc_new _ _
 have hB:=Cr n M A ao bo xo a l K c xc W o (ht.1.grew k0) (aq.grew k0) (hx.grew k0) an hn;have al:=fun W'=>Al (64*(n:Int)) W'
 rw [qR an hn] at al;have bE:IntKind.i64.wrap (64*(n:Int))=64*(n:Int):=by simp [IntKind.wrap,IntKind.bits,IntKind.signed];omega
 have HW:=aa hW;have bj:=aa k0;have HT:=aa ht;have aZ:=aa b1;obtain ⟨c0,c1,c2⟩:=ay b1;obtain ⟨N,hN⟩:∃ N,N=stp n:=⟨_,rfl⟩
 have bP:N≤30000:=by rw [hN];unfold stp;omega
 rw [← hN] at al HT;have HN:=aa hN;rw [bd];clear hW k0 ht b1 hN;go_enter Tryz.func145,Tryz.ntmps145;go_wp2_with (rw [← HW.out]);refine hB.mono ?_;rintro e w1 ⟨uo,uc,vo,vc,fo,fc,go,gc,rfl,nu,nv,nf,ng,k1⟩;clear hB c0 c1 c2;go_wp2_with fail;refine (al _).mono ?_;rintro e w2 ⟨rfl,aF⟩;have b2:w2.heap[w1.heap.size]? = some (.cells #[.slice uo n uc,.slice vo n vc,.slice fo (n+1) fc,.slice go (n+1) gc,.int .u64 1] 194 (0,0)):=by rw [aF];exact heap_alloc_new _ _
 have k2:Kept ae w1 w2:=by rw [aF];exact (ah ae w1).alloc _
 have E:=bj.out.trans k1;have ap:=HT.out.grew E;have bw:=aa (hm.grew E);have aO:=aa (aq.grew E);have bn:=aa (hr.grew E);have aR:=(k1.block _ (lt_of_block aZ.out) (fun f=>f)).trans aZ.out;have JC:Hid (∀ W' m' o',Did w1 o m' W' o'→W'.heap[w.heap.size]? = some (.cells #[.slice ao n a,.int .u64 (K:Nat),.slice bo l c] 130 (0,0))):=fun W' m' o' d=>d.cells aR ap.1 (by decide) (by decide)
 have bu:w.heap.size≠w1.heap.size:=by have:=lt_of_block aR;omega
 obtain ⟨s0,q⟩:∃ s0:Int × Int × Int,s0=(1,(M:Int),(A:Int)):=⟨_,rfl⟩
 have O:StIn (18446744073709551616^n) 0 s0:=by
  have h1:=aq.2;have h2:=hx.2;rw [q];unfold StIn;dsimp only;generalize 18446744073709551616^n=Q at *;omega
 have a4:=aa (StIn.all O);have aU:Hid (okMod ms K rs→CoOk M A 0 1 s0):=fun h=>by
  have:=eu h.1;rw [← hM] at this;rw [q];refine ⟨by omega,by omega,?_,?_⟩
  ·exact ⟨-1,by dsimp only;omega⟩
  ·exact ⟨0,by dsimp only;omega⟩
 have ab:Hid (okMod ms K rs→M<18446744073709551616^n∧M%2=1∧∀ k,(dS s0 k).2.1%2=1):=fun h=>by
  have:=eu h.1;rw [← hM] at this;refine ⟨aq.2,by omega,fun k=>(kY (s:=s0) (by rw [q];dsimp only;omega) k).1⟩
 have v:BtwI w1 o w2 o (.pointer po) n M A w1.heap.size 0 N s0 (okMod ms K rs) uo vo fo go uc vc fc gc 0 1:=by
  refine ⟨⟨Did.of_kept k2 ap.1,(ap.less (by omega)).grew k2,bd⟩,?_,nu.grew k2,nv.grew k2,?_,?_,aU.out⟩
  ·rw [q];exact b2
  ·rw [q];have:=nf.grew k2;rw [← sV (18446744073709551616^(n+1)) M] at this;exact this
  ·rw [q];have:=ng.grew k2;rw [← sV (18446744073709551616^(n+1)) A] at this;exact this
 have x:=aa v;have bi:=aa q;have a6:=aa E;clear al aF b2 k2 E ap aR O v nu nv nf ng k1 q;go_wp2_with fail;go_loopw [24] (fun i wr=>∃ (k:Nat) (o1:Tr) (uo vo fo go:Option Addr) (uc vc fc gc U V:Nat),k≤N∧i=.int .i64 (k:Int)∧Hid (BtwI w1 o wr o1 (.pointer po) n M A w1.heap.size k N s0 (okMod ms K rs) uo vo fo go uc vc fc gc U V)) (fun i _=>N-(intOf i).toNat)
 case atStart=>exact ⟨0,o,uo,vo,fo,go,uc,vc,fc,gc,0,1,by omega,rfl,x.out⟩
 case round=>
  clear x;obtain ⟨k,o1,uo,vo,fo,go,uc,vc,fc,gc,U,V,hk,rfl,HB⟩:=hrel;by_cases hkn:k<N
  ·have g1:(k:Int)<(N:Int):=by omega
   obtain ⟨c0,c1,c2⟩:=ay (JC.out wr _ o1 HB.out.wrt.did);obtain ⟨p0,p1,p2,p3,p4⟩:=dJ HB.out.box;have hS:=BC n M U V k A (dS s0 k).1 (dS s0 k).2.1 (dS s0 k).2.2 uo vo fo go ao bo uc vc fc gc a l K c (k:=12*(N-(k+1))+20) (HB.out.wrt.less (by omega)) (a4.out k) (by omega) (aO.out.did HB.out.wrt.did) HB.out.nu.1 HB.out.nv.1 HB.out.nf.1 HB.out.ng.1 an (by omega);have aY:dst ((dS s0 k).1,(dS s0 k).2.1,(dS s0 k).2.2)=dS s0 (k+1):=rfl;rw [aY] at hS;have ba:=aa HB.out.co;have TI:=aa HB.out.wrt.room.1;have aP:=aa HB.out.box;obtain ⟨T1,aw⟩:∃ T1,T1=tcN 18446744073709551616 (dS s0 k).1:=⟨_,rfl⟩
   rw [← aw] at hS p4;have bm:=aa aw;clear aY aw HB;go_wp2_with fail;refine hS.mono ?_;rintro e w5 ⟨u',v',f',g',rfl,U',V',o5,q5,aQ,aG,aB,aM,d5,s5⟩;obtain ⟨aj,ac,rfl⟩:=aQ.1.shape;obtain ⟨G,ak,rfl⟩:=aG.1.shape;obtain ⟨X,T,rfl⟩:=aB.1.shape;obtain ⟨J,L,rfl⟩:=aM.1.shape;have p:=d5.cells aP.out TI.out (by decide) (by decide);rw [← bm.out] at p;obtain ⟨f0,f1,f2,f3,f4⟩:=lV p;obtain ⟨g0,bN,g2,g3,g4⟩:=dJ p;obtain ⟨T2,aJ⟩:∃ T2,T2=tcN 18446744073709551616 (dS s0 (k+1)).1:=⟨_,rfl⟩
   rw [← aJ];have bb:=Az p (.slice aj n ac) (.slice G n ak) (.slice X (n+1) T) (.slice J (n+1) L) (.int .u64 (T2:Int));have kp:=uq w5 w1.heap.size (.slice aj n ac) (.slice G n ak) (.slice X (n+1) T) (.slice J (n+1) L) (.int .u64 (T2:Int));have au:=ax p s5.room.1 (by decide) (by decide);have bA:=s5.room
   have aK:Hid (BtwI w1 o (((((w5.setCell ⟨w1.heap.size,0,none⟩ (.slice aj n ac)).setCell ⟨w1.heap.size,1,none⟩ (.slice G n ak)).setCell ⟨w1.heap.size,2,none⟩ (.slice X (n+1) T)).setCell ⟨w1.heap.size,3,none⟩ (.slice J (n+1) L)).setCell ⟨w1.heap.size,4,none⟩ (.int .u64 (T2:Int))) o5 (.pointer po) n M A w1.heap.size (k+1) N s0 (okMod ms K rs) aj G X J ac ak T L U' V'):=by
    have dw:=s5.did.wroteNew kp (leR _) au;refine ⟨⟨dw,⟨s5.room.1.put kp au,s5.room.2⟩,s5.ptr⟩,?_,aQ.put p (by decide) kp,aG.put p (by decide) kp,aB.put p (by decide) kp,aM.put p (by decide) kp,fun h=>?_⟩
    ·rw [← aJ];exact bb
    ·obtain ⟨i1,i2,i3⟩:=ab.out h;exact q5.out i1 i2 (i3 k) (ba.out h)
   clear hS aQ aG aB aM d5 s5 bb kp au bA aJ q5 ba c0 c1 c2 p0 p1 p2 p3 p4;go_wp2_with fail;go_roundw
   case rel=>exact ⟨k+1,o5,aj,G,X,J,ac,ak,T,L,U',V',by omega,by go_num,aK.out⟩
   case measure=>simp [intOf];omega
  ·have g1:¬ (k:Int)<(N:Int):=by omega
   obtain rfl:k=N:=by omega
   have hF:=a4.out k;obtain ⟨F,am⟩:∃ F,F=(dS s0 k).2.1:=⟨_,rfl⟩
   have a3:-((18446744073709551616^n:Nat):Int)<F∧F<((18446744073709551616^n:Nat):Int):=by rw [am];exact hF.2.1
   have a9:sgN F=tcN (18446744073709551616^(n+1)) F/(9223372036854775808*18446744073709551616^n):=(pT (Q:=18446744073709551616^n) (by omega) (by rw [Nat.pow_succ];omega) (by omega) (Nat.mul_pos (by omega) (Nat.pow_pos (by omega)))).symm;have y:sgN F≤1:=by unfold sgN;split <;> omega
   have nf:=HB.out.nf;rw [← am] at nf;have az:=yw n _ _ _ wr o1 nf.1 (by omega) a9;have s6:=HB.out.wrt;have h7:=Bh (n+1) _ _ (k:=19) (s6.less (by omega)) nf.1 (by omega);obtain ⟨c0,c1,c2⟩:=ay (JC.out wr _ o1 s6.did);obtain ⟨p0,p1,p2,p3,p4⟩:=dJ HB.out.box;have bC:=aa nf;have a5:=aa am;have bB:=aa a3;obtain ⟨sg,z⟩:∃ sg,sg=sgN F:=⟨_,rfl⟩
   rw [← z] at y az;have a0:=aa z;have TI:=aa s6.room.1;have aP:=aa HB.out.box;clear nf am a3 hF a9 s6 z;go_wp2_with fail;refine az.mono ?_;rintro e w6 ⟨rfl,rfl⟩;clear az;go_wp2_with fail;refine h7.mono ?_;rintro e w7 ⟨v7,b7,rfl,Z7,o7,q7,n7,d7,s7⟩;have aL:=d7.cells aP.out TI.out (by decide) (by decide);have bD:=JC.out w7 _ o7 s7.did;obtain ⟨P0,P1,P2,P3,P4⟩:=dJ aL;have h8:=jr sg (n+1) Z7 _ v7 _ (k:=18) s7 y n7.1 (bC.out.1.did d7) (by omega);have T7:=aa s7.room.1;clear h7 n7 c0 c1 c2 p0 p1 p2 p3 p4 bD;go_wp2_with fail;refine h8.mono ?_;rintro e w8 ⟨v8,rfl,D,o8,q8,n8,d8,s8⟩;have aS:=d8.cells aL T7.out (by decide) (by decide)
   have T8:=aa s8.room.1;have kA:Kept ae w8 (w8.alloc (.cells #[.int .u64 1] 23)):=(ah ae w8).alloc _;have r1:Row .u64 (w8.alloc (.cells #[.int .u64 1] 23)) (.slice (some ⟨w8.heap.size,0,none⟩) 1 1) [1]:=Row.of_block (k:=.u64) (w:=w8.alloc (.cells #[.int .u64 1] 23)) (g:=w8.heap.size) (zs:=[1]) (t:=23) (heap_alloc_new _ _) rfl (by unfold maxLen;omega);have a7:RowT (w8.alloc (.cells #[.int .u64 1] 23)) o8 (.slice (some ⟨w8.heap.size,0,none⟩) 1 1) [1]:=⟨r1,fun _ b hb f=>by
    have e':w8.heap.size=b:=by simpa [Value.ownBlock] using hb
    have:=T8.out.foot b f;omega⟩
   have h9:=xH (n+1) D v8 _ (k:=17) (s8.grew kA) (n8.1.grew kA) a7 (by omega) (by omega);have ad:=(kA.block _ (lt_of_block aS) (fun f=>f)).trans aS;have D8:=aa ((d7.trans d8).grew kA);have bG:=aa (T8.out.grew kA);clear h8 n8 P0 P1 P2 P3 P4 r1 a7 kA d7 d8 aL;go_wp2_with fail;refine h9.mono ?_;rintro e w9 ⟨is,rfl,o9,q9,aE,d9,s9⟩;have aT:=d9.cells ad bG.out (by decide) (by decide);obtain ⟨c0,c1,c2⟩:=ay (JC.out w9 _ o9 s9.did);obtain ⟨P0,P1,P2,P3,P4⟩:=dJ aT;have ar:=HB.out.nu.1.did (D8.out.trans d9)
   have av:=Cp o9 ao bo uo n l K a c n uc ms rs (ag U n) w9 (s9.room.less (by omega)) (bw.out.did s9.did) (bn.out.did s9.did) ar.1 bc bt (ai (by omega) _ _) hK (by omega) (by omega);rw [s9.ptr,bJ ar.2,← hM] at av;have T9:=aa s9.room.1;clear h9 aS ad;go_wp2_with fail;refine av.mono ?_;rintro e a2 ⟨bk,bU,rfl,zs,bg,aA,aX,a8,C,P,S⟩;have r:okMod ms K rs→(okMod ms K rs∧True∧U<M):=fun h=>⟨h,trivial,(HB.out.co h).1⟩
   have aI:Digs zs∧zs.length≤n∧(okMod ms K rs→zs=ag (eY 0 U M) n∧bg=List.replicate 3 (1,(n:Int),0))∧TrRoom a2 aA 10:=by
    by_cases h:okMod ms K rs
    ·obtain ⟨⟨e1,_⟩,e2⟩:=P (r h);refine ⟨by rw [e1];exact ai (by omega) _ _,by rw [e1,af];omega,fun _=>⟨e1,e2⟩,C.room ?_⟩;rw [e2];exact s9.room.less (by simp)
    ·have I:o=none:=bz.resolve_left h;obtain ⟨e1,_⟩:=S (fun hh=>h hh.1);have e9:o9=none:=by have:=s9.did;rw [I] at this;exact this.none.1
     have bl:aA=none:=by have:=C;rw [e9] at this;exact this.none.1
     refine ⟨by rw [e1];exact Digs.nil _,by rw [e1];simp,fun hh=>absurd hh h,by rw [bl];exact TrRoom.none _ _ (by omega)⟩
   obtain ⟨br,bs,H,j⟩:=aI;have HZ:=aa H;have bx:Wr w1 o (xD n k ++ [(1,((n+1:Nat):Int),0)] ++ [(1,((n+1:Nat):Int),0)] ++ [(1,((n+1:Nat):Int),0)] ++ bg) a2 aA (.pointer po) 10:=⟨s9.did.trans C,j,C.ptr.trans s9.ptr⟩
   have R:=C.cells aT T9.out (by decide) (by decide);obtain ⟨Q0,Q1,Q2,Q3,Q4⟩:=dJ R;have B:=ar.did C;have bf:=nL sg n bk _ zs (ag U n) (k:=9) bx y ((a8 rfl).2.rowT aX j.1) B.1 br (ai (by omega) _ _) (by rw [af];omega) (by omega);have HU:=aa B.2;clear av P0 P1 P2 P3 P4 c0 c1 c2 aT R P S a8 aX H j bs ar B r;go_wp2_with fail;refine bf.mono ?_;rintro e bM ⟨bv,rfl,be,bT,bH,aN,_,bQ,aW⟩;have aC:=nL is n bv (.slice none 0 0) (ag be n) [] (k:=8) aW aE aN.1.1 ⟨Row.nil _ _,fun h=>absurd rfl h⟩ (ai (by omega) _ _) (Digs.nil _) (by rw [af];simp) (by omega)
   rw [bJ aN.1.2] at aC;have bp:=aa aW.did.size;clear bf aN Q0 Q1 Q2 Q3 Q4;go_wp2_with fail;refine aC.mono ?_;rintro e bS ⟨bO,rfl,Y,bq,bF,bI,bK,bR,bh⟩;clear aC;go_wp2_with fail;go_ret2;refine ⟨_,_,rfl,Y,_,bq,bI,?_,Did.after a6.out bh.did,fun r=>⟨?_,fun hA=>?_⟩⟩
   ·intro b hb;have h1:=bK b hb;have h2:=bp.out;have h3:=a6.out.size;omega
   ·rw [(HZ.out r).2];unfold oJ;rw [← HN.out];simp [List.append_assoc,List.replicate]
   ·obtain ⟨i1,i2,i3⟩:=ab.out r;have hE:=eu r.1;rw [← hM] at hE hA ⊢;have aV:=HB.out.co r;have hs:dS s0 k=dS (1,(M:Int),(A:Int)) (stp n):=by rw [bi.out,← HN.out]
    refine vS (D:=D) (is:=is) (Z:=be) (s:=dS s0 k) an hn i1 i2 hE.2.1 hA hs aV ?_ q9.out ?_ bF.out
    ·rw [q8.out,q7.out,vj bB.out,a0.out,← a5.out];exact ve
    ·have a1:=bH.out;rw [(HZ.out r).1,bJ (Nat.lt_trans (xr (by omega) aV.1) i1),bJ HU.out,a0.out,a5.out] at a1;exact a1

def AR (n:Nat):List Ev:=(1,(n:Int),0) :: oJ n

def yK (A M Y is:Nat):Prop:=(Nat.gcd A M=1→Y<M∧A*Y%M=1∧is=1)∧(Nat.gcd A M≠1→Y=0∧is=0)

def mE (w:World) (o:Tr) (P:Prop) (n A M:Nat) (w':World) (v':Value) (is c:Nat):Prop:=
 ∃ (zs:List Nat) (m:List Ev) (o':Tr),Row .u64 w' v' zs∧Lies true w w' v'∧Did w o m w' o'∧(P→c=0∧m=AR n∧∃ Y,zs=ag Y n∧yK A M Y is)∧(¬ P→zs=[]∧is=0∧c=1)

theorem iOf (o:Tr) (ao bo xo:Option Addr) (n l K a g N1 xc:Nat) (ms rs xs:List Nat) (w:World) (ht:TrRoom w o 400000) (hm:RowT w o (.slice ao n a) ms) (hr:RowT w o (.slice bo l g) rs) (hx:RowT w o (.slice xo N1 xc) xs) (r:Digs ms) (y:Digs rs) (E:Digs xs) (hK:K<18446744073709551616) (S:n≤1000000) (ab:okMod ms K rs∨o=none) :
  Calls Tryz.prog 102 #[aD o,.agg #[.slice ao n a,.int .u64 (K:Nat),.slice bo l g],.slice xo N1 xc] w fun e w'=>∃ (v':Value) (is c:Nat),e=.returned (.tuple #[v',.int .u64 (is:Nat),.int .i64 (c:Nat)])∧mE w o (okMod ms K rs∧(N1=n∧val xs<val ms)) n (val xs) (val ms) w' v' is c:=by
 obtain ⟨po,H⟩:=aH o;obtain ⟨_,_,_,e1,J,_,_,_,_⟩:=hm.1.open;cases e1
 obtain ⟨_,_,_,e1,L,_,_,_,_⟩:=hx.1.open;cases e1
 obtain ⟨_,_,_,e1,O,_,_,_,_⟩:=hr.1.open;cases e1
 obtain ⟨W,hW⟩:∃ W,W=w.alloc (.cells #[.slice ao n a,.int .u64 (K:Nat),.slice bo l g] 130):=⟨_,rfl⟩
 have k0:Kept ae w W:=by rw [hW];exact (ah ae w).alloc _
 have b1:W.heap[w.heap.size]? = some (.cells #[.slice ao n a,.int .u64 (K:Nat),.slice bo l g] 130 (0,0)):=by rw [hW];exact heap_alloc_new _ _
 obtain ⟨c0,c1,c2⟩:=ay b1;have HW:=aa hW;have ad:=aa k0;by_cases hok:0<n∧n≤130
 ·have aj:=hok.1;have hn:=hok.2;have g1:¬ (n:Int)<1:=by omega
  have g2:¬ (n:Int) > 130:=by omega
  have an:12*stp n+30+1≤400000:=by unfold stp;omega
  obtain ⟨M,hM⟩:∃ M,M=val ms:=⟨_,rfl⟩
  have P:NumT w o (.slice ao n a) n M:=by rw [hM];exact NumT.of hm r J.out
  obtain ⟨A,hA⟩:∃ A,A=val xs%18446744073709551616^n:=⟨_,rfl⟩
  have Q:N1=n→A=val xs:=fun h=>by rw [hA,al];rw [← h,← L.out];exact aq (by omega) E
  have F:=AI _ xs n W (hx.1.grew k0) E (by omega);rw [mN,← hA] at F;have lA:A<18446744073709551616^n:=by rw [hA];exact Nat.mod_lt _ (Nat.pow_pos (by omega))
  rw [← hM];have HM:=aa hm;have T:=aa P;have HR:=aa hr;have HT:=aa ht;have N:=aa b1;have Z:=aa Q;have HA:=aa hA;have R:=aa lA;rw [H];clear hW k0 b1 hm P hr ht hx L Q hA lA hok;go_enter Tryz.func102,Tryz.ntmps102;go_wp2_with (rw [← HW.out]);refine F.mono ?_;rintro e w1 ⟨rfl,U,k1⟩;have C:=ad.out.trans k1;have p:=HT.out.grew C;have x:=(k1.block _ (lt_of_block N.out) (fun f=>f)).trans N.out;obtain ⟨c0,c1,c2⟩:=ay x;have nx:=NumN.own U R.out p.1;have s1:Wr w1 o [] w1 o (.pointer po) 400000:=⟨Did.of_kept (ah ae w1) p.1,p,H⟩
  have B:=nV o _ _ _ _ w1 (p.less (by omega)) nx.1.1 (T.out.grew C).1 (ai (by omega) _ _) (ai (by omega) _ _) (by rw [af];omega) (by rw [af];omega);rw [H,af,af,Nat.max_self,bJ R.out,bJ T.out.2] at B;have JB:Hid (∀ W' m' o',Did w1 o m' W' o'→W'.heap[w.heap.size]? = some (.cells #[.slice ao n a,.int .u64 (K:Nat),.slice bo l g] 130 (0,0))):=fun W' m' o' d=>d.cells x p.1 (by decide) (by decide)
  have am:=aa nx;have ac:=aa s1;have s:=aa C;obtain ⟨bl,D⟩:∃ bl,bl=be (decide (A<M)):=⟨_,rfl⟩
  rw [← D] at B;have X:=aa D;clear F U k1 C p x nx s1 D;go_wp2_with fail;refine B.mono ?_;rintro e w2 ⟨rfl,o2,d2⟩;have s2:=ac.out.next (k:=12*stp n+30) d2 (by simp;omega)
  have I:=Ca o2 ao bo _ n l K a g n A ms rs w2 s2.room ((HM.out.grew s.out).did d2) ((HR.out.grew s.out).did d2) (am.out.1.did d2) r y hK aj hn (ab.elim Or.inl (fun h=>.inr (by have:=d2;rw [h] at this;exact this.none.1)));rw [s2.ptr,← hM] at I;obtain ⟨c0,c1,c2⟩:=ay (JB.out w2 _ o2 d2);clear B;go_wp2_with fail;refine I.mono ?_;rintro e w3 ⟨v3,is,rfl,Y,m3,o3,n3,f3,d3,hY⟩;have z:=d2.trans d3;obtain ⟨p0,p1,p2⟩:=ay (JB.out w3 _ o3 z);have m:=((HM.out.grew s.out).did z).1;have q:=((HR.out.grew s.out).did z).1;have V:=aa (Did.after s.out z)
  have j:Hid (∀ w':World,Kept ae w3 w'→¬ (okMod ms K rs∧(N1=n∧val xs<M))→mE w o (okMod ms K rs∧(N1=n∧val xs<M)) n (val xs) M w' (.slice none 0 0) 0 1):=fun w' k h=>⟨[],_,o3,Row.nil _ _,Lies.nil _ _ _,V.out.grew k,fun hp=>absurd hp h,fun _=>⟨rfl,rfl,rfl⟩⟩
  have i:Hid (∀ w':World,Kept ae w3 w'→okMod ms K rs→N1=n→A<M→mE w o (okMod ms K rs∧(N1=n∧val xs<M)) n (val xs) M w' v3 is 0):=fun w' k h1 h2 h3=>by
   have eA:=Z.out h2;obtain ⟨e1,e2⟩:=hY h1;refine ⟨ag Y n,_,o3,(n3.1.grew k).1.1,fun _=>⟨?_,n3.2.grew k⟩,V.out.grew k,fun _=>⟨rfl,?_,Y,rfl,?_⟩,fun hp=>absurd ⟨h1,h2,by rw [← eA];exact h3⟩ hp⟩
   ·intro b hb;have q1:=f3 b hb;have q2:=d2.size;have q3:=s.out.size;omega
   ·rw [e1];rfl
   ·rw [← eA];exact e2 h3
  clear I c0 c1 c2 n3 f3 d3 z hY s2 d2;by_cases hN:N1=n
  ·by_cases hlt:A<M
   ·have x:bl=1:=by rw [X.out,bd hlt];rfl
    subst x;by_cases hmd2:okMod ms K rs
    ·have t:=iP ao bo n l K a g ms rs true (by simp [hmd2]) w3 m q r y hK S;have HF:=aa (fun w' k=>i.out w' k hmd2 hN hlt);have G:(N1:Int)=(n:Int):=by omega
     clear i j m q hN;go_wp2_with fail;refine t.mono ?_;rintro e w4 ⟨rfl,k4⟩;clear t;go_wp2_with fail;go_ret3
     exact ⟨_,_,_,rfl,HF.out _ k4⟩
    ·have t:=iP ao bo n l K a g ms rs false (by simp [hmd2]) w3 m q r y hK S;have HF:=aa (fun w' k=>j.out w' k (fun h=>hmd2 h.1));have G:(N1:Int)=(n:Int):=by omega
     clear i j m q hN;go_wp2_with fail;refine t.mono ?_;rintro e w4 ⟨rfl,k4⟩;clear t;go_wp2_with fail;go_ret3
     exact ⟨_,0,1,rfl,HF.out _ k4⟩
   ·have ak:bl=0:=by rw [X.out,aF hlt];rfl
    subst ak;have HF:=aa (j.out w3 (ah _ _) (fun h=>hlt (by rw [Z.out h.2.1];exact h.2.2)));have G:(N1:Int)=(n:Int):=by omega
    clear i j m q hN;go_wp2_with fail;go_ret3
    exact ⟨_,0,1,rfl,HF.out⟩
  ·have HF:=aa (j.out w3 (ah _ _) (fun h=>hN h.2.1));have G:¬ (N1:Int)=(n:Int):=by omega
   clear i j m q hN;go_wp2_with fail;go_ret3
   exact ⟨_,0,1,rfl,HF.out⟩
 ·have v:¬ (okMod ms K rs∧(N1=n∧val xs<val ms)):=fun h=>by
   obtain ⟨_,f2,f3,_⟩:=h.1.facts J.out O.out r y hK;exact hok ⟨f2,f3⟩
  have HF:Hid (mE w o (okMod ms K rs∧(N1=n∧val xs<val ms)) n (val xs) (val ms) W (.slice none 0 0) 0 1):=⟨[],[],o,Row.nil _ _,Lies.nil _ _ _,Did.of_kept k0 ht.1,fun hp=>absurd hp v,fun _=>⟨rfl,rfl,rfl⟩⟩
  generalize aD o=tp at *;clear hm hr hx ht r y E v k0 b1 J L O hW;by_cases h0:n<1
  ·have g1:(n:Int)<1:=by omega
   clear hok;go_enter Tryz.func102,Tryz.ntmps102;go_wp2_with (rw [← HW.out]);go_ret3
   exact ⟨_,0,1,rfl,HF.out⟩
  ·have g1:¬ (n:Int)<1:=by omega
   have g2:(n:Int) > 130:=by omega
   clear hok h0;go_enter Tryz.func102,Tryz.ntmps102;go_wp2_with (rw [← HW.out]);go_ret3
   exact ⟨_,0,1,rfl,HF.out⟩

theorem nF {V K:Nat} (h:dF V=0) (hK:mh V K):okMod (eH V) K (eF V)∧(eH V).length=aj V∧(eF V).length=aj V∧val (eH V)=V∧Digs (eH V)∧Digs (eF V):=by
 have hM:eH V=ag V (aj V):=by unfold eH;rw [if_pos h]
 have hR:eF V=ag (2^(128*aj V)%V) (aj V):=by unfold eF;rw [if_pos h]
 have hv:val (eH V)=V:=by rw [hM,ak,al ((ap V _).1 (leR _))]
 refine ⟨?_,by rw [hM,af],by rw [hR,af],hv,by rw [hM];exact ai (by omega) _ _,by rw [hR];exact ai (by omega) _ _⟩;unfold okMod;rw [hv];exact ⟨h,rfl,hK,rfl⟩

def AO (P:Prop) (n A M E T F:Nat) (RL:List Nat):Prop:=((E=0∧P)∨(E=1∧¬ P))∧(E=0→yK A M T F)∧(E=1→F=0)∧RL=if E=0 then ag T n else []

theorem oR {w w':World} {P:Prop} {n A M is c:Nat} {v':Value} (h:mE w none P n A M w' v' is c):∃ T RL,Row .u64 w' v' RL∧Kept ae w w'∧AO P n A M c T is RL:=by
 obtain ⟨zs,m,o',h1,_,d,hp,hn⟩:=h;have k:=d.none.2;by_cases hP:P
 ·obtain ⟨rfl,_,Y,rfl,hY⟩:=hp hP;exact ⟨Y,_,h1,k,.inl ⟨rfl,hP⟩,fun _=>hY,fun h=>absurd h (by decide),rfl⟩
 ·obtain ⟨rfl,rfl,rfl⟩:=hn hP;exact ⟨0,[],h1,k,.inr ⟨rfl,hP⟩,fun h=>absurd h (by decide),fun _=>rfl,rfl⟩

theorem Bg (ao bo xo:Option Addr) (n l K a b N1 xc:Nat) (ms rs xs:List Nat) (w:World) (hm:Row .u64 w (.slice ao n a) ms) (hr:Row .u64 w (.slice bo l b) rs) (hx:Row .u64 w (.slice xo N1 xc) xs) (g:Digs ms) (i:Digs rs) (d:Digs xs) (hK:K<18446744073709551616) (f:n≤1000000) :
  Calls Tryz.prog 102 #[.pointer none,.agg #[.slice ao n a,.int .u64 (K:Nat),.slice bo l b],.slice xo N1 xc] w fun e w'=>∃ (v':Value) (F E:Nat),e=.returned (.tuple #[v',.int .u64 (F:Nat),.int .i64 (E:Nat)])∧∃ T RL,Row .u64 w' v' RL∧Kept ae w w'∧Hid (AO (okMod ms K rs∧(N1=n∧val xs<val ms)) n (val xs) (val ms) E T F RL):=by
 refine (iOf none ao bo xo n l K a b N1 xc ms rs xs w (TrRoom.none _ _ (by omega)) (RowT.none hm) (RowT.none hr) (RowT.none hx) g i d hK f (.inr rfl)).mono ?_;rintro e w' ⟨v',is,c,rfl,h⟩;obtain ⟨T,RL,h1,h2,h3⟩:=oR h;exact ⟨v',is,c,rfl,T,RL,h1,h2,h3⟩

end Go.Proofs.YtcemlfokmjjiaaaGreatDoor
