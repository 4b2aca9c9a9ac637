/- Put together of: Iva4 Law6 Law10. -/
import Derived.Test.YtcemlfokmjjiaaaGreatDoorPm34

namespace Go.Proofs.YtcemlfokmjjiaaaGreatDoor
set_option maxRecDepth 100000
set_option maxHeartbeats 4000000
open Go.RowKit

def yh (n:Nat):Nat→List Ev
 | 0=>[]
 | k+1=>yh n k ++ kX n

def pr (n:Nat):List Ev:=yh n (stp n) ++ (List.replicate 3 (1,((n+1:Nat):Int),0) ++ (List.replicate 3 (1,(n:Int),0) ++ List.replicate 2 (1,(n:Int),0)))

structure BtwI (w0:World) (o0:Tr) (w:World) (o:Tr) (tp:Value) (n M a pb k N:Nat) (s:Int × Int × Int) (G:Prop) (uo vo fo go:Option Addr) (uc vc fc gc U V:Nat):Prop where
 wrt:Wr w0 o0 (yh n k) w o tp (12*(N-k)+20)
 box:w.heap[pb]? = some (.cells #[.slice uo n uc,.slice vo n vc,.slice fo (n+1) fc,.slice go (n+1) gc,.int .u64 (tcN 18446744073709551616 (eu s k).1:Nat)] 194 (0,0))
 nu:NumN w o (.slice uo n uc) n U
 nv:NumN w o (.slice vo n vc) n V
 nf:NumN w o (.slice fo (n+1) fc) (n+1) (tcN (18446744073709551616^(n+1)) (eu s k).2.1)
 ng:NumN w o (.slice go (n+1) gc) (n+1) (tcN (18446744073709551616^(n+1)) (eu s k).2.2)
 co:G→CoOk M a U V (eu s k)

theorem TrIn.put {w w':World} {o:Tr} {p:Nat} (h:TrIn w o) (k:Kept (fun b=>b=p) w w') (hf:¬ dM o p):TrIn w' o:=by
 rcases o with _ | ⟨q,g,l⟩
 ·trivial
 ·exact ⟨h.1.kept k (fun e=>hf (.inl e.symm)) (fun x hx e=>hf (.inr (by rw [← e];exact hx))),h.2⟩

theorem xX {B:Nat} {F:Int}:aO (sgN F) (tcN B (-F)) (tcN B F)=F.natAbs:=by
 unfold aO sgN tcN;by_cases h:F<0
 ·rw [if_pos h,if_pos (by decide),if_neg (by omega)];omega
 ·rw [if_neg h,if_neg (by decide),if_neg h];omega

theorem zg {n:Nat} {F:Int} (hF:-((18446744073709551616^n:Nat):Int)<F∧F<((18446744073709551616^n:Nat):Int)):dg 0 (tcN (18446744073709551616^(n+1)) F) (n+1)=tcN (18446744073709551616^(n+1)) (-F):=by
 unfold dg;rw [← B64];exact Ae hF (by rw [Nat.pow_succ];omega)

theorem yU {n M A U V D is Z Y:Nat} {s:Int × Int × Int} (g:0<n) (hn:n≤130) (hM:M<18446744073709551616^n) (f:M%2=1) (h2:2≤M) (hA:A<M) (hs:s=eu (1,(M:Int),(A:Int)) (stp n)) (k:CoOk M A U V s) (hD:D=s.2.1.natAbs) (e:is=bC (decide (D=1))) (hZ:Z=aO (sgN s.2.1) (fy 0 U M) U) (hY:Y=aO is Z 0) :
  (Nat.gcd A M=1→Y<M∧A*Y%M=1∧is=1)∧(Nat.gcd A M≠1→Y=0∧is=0):=by
 rw [B64] at hM;have he:=(sK (M:=M) (a:=A) (n:=n) g hn f (by omega) hM).2;rw [← hs,← hD] at he;rw [Nat.gcd_comm,← he];constructor
 ·intro h1;rw [h1,aQ rfl] at e;have b:is=1:=e;have hf:=xh (d:=s.1) (F:=s.2.1) (G:=s.2.2) k h2 (by omega);have i:Z=if s.2.1<0 then fy 0 U M else U:=by
   rw [hZ];unfold aO sgN;by_cases h:s.2.1<0
   ·rw [if_pos h,if_pos h];rfl
   ·rw [if_neg h,if_neg h];rfl
  rw [← i] at hf;have j:Y=Z:=by rw [hY,b];rfl
  rw [j];exact ⟨hf.1,hf.2,b⟩
 ·intro h1;rw [aD h1] at e;have c:is=0:=e;exact ⟨by rw [hY,c];rfl,c⟩

theorem mM {w0:World} {o0:Tr} {m:List Ev} {tp:Value} {k:Nat} (a n:Nat) (u v:Value) (xs ys:List Nat) {w:World} {o:Tr} (s:Wr w0 o0 m w o tp (k+1)) (hb:a≤1) (hu:RowT w o u xs) (hv:RowT w o v ys) (b:Digs xs) (c:Digs ys) (hl:max xs.length ys.length=n) (hn:n≤1000) :
  Calls Tryz.prog 187 #[tp,.int .u64 (a:Nat),u,v] w fun e w'=>∃ (v':Value),e=.returned v'∧∃ (Z:Nat) (o':Tr),Hid (Z=aO a (val xs) (val ys))∧NumN w' o' v' n Z∧Fresh w v'∧Did w o [(1,(n:Int),0)] w' o'∧Wr w0 o0 (m ++ [(1,(n:Int),0)]) w' o' tp k:=by
 have h:=qf o a (by omega) u v xs ys w (s.room.less (by omega)) hu hv b c (by omega) (by omega);rw [s.ptr,hl] at h;refine h.mono ?_;rintro e w' ⟨v',rfl,ho,o',d⟩;exact ⟨v',rfl,_,o',rfl,NumN.own ho (mz (cF b (by omega)) (cF c (by omega))) (d.room (k:=0) (s.room.less (by simp))).1,Fresh.own ho (leR _),d,s.next d (by simp;omega)⟩

theorem zd {w0:World} {o0:Tr} {m:List Ev} {tp:Value} {k:Nat} (n X:Nat) (u v:Value) {w:World} {o:Tr} (s:Wr w0 o0 m w o tp (k+1)) (hu:NumT w o u n X) (hv:RowT w o v [1]) (a:0<n) (hn:n≤1000) :
  Calls Tryz.prog 188 #[tp,u,v] w fun e w'=>∃ c:Nat,e=.returned (.int .u64 (c:Nat))∧∃ (o':Tr),Hid (c=bC (decide (X=1)))∧c≤1∧Did w o [(1,(n:Int),0)] w' o'∧Wr w0 o0 (m ++ [(1,(n:Int),0)]) w' o' tp k:=by
 have h:=mH o u v _ [1] w (s.room.less (by omega)) hu.1 hv (aj (by omega) _ _) (Digs.one (by omega)) (by rw [ag];omega) (by simp);rw [s.ptr,ag,cE hu.2,show ([1]:List Nat).length=1 from rfl,show max n 1=n by omega,show val [1]=1 from rfl] at h;refine h.mono ?_;rintro e w' ⟨rfl,o',d⟩;exact ⟨_,rfl,o',rfl,py _,d,s.next d (by simp;omega)⟩

theorem C2 (o:Tr) (ao bo xo:Option Addr) (n l K a c xc A:Nat) (ms rs:List Nat) (w:World) (ht:TrRoom w o (12*stp n+30)) (hm:RowT w o (.slice ao n a) ms) (hr:RowT w o (.slice bo l c) rs) (hx:NumT w o (.slice xo n xc) n A) (a2:Digs ms) (bh:Digs rs) (hK:K<18446744073709551616) (ar:0<n) (hn:n≤130) (bE:okMod ms K rs∨o=none) :
  Calls Tryz.prog 145 #[aG o,.agg #[.slice ao n a,.int .u64 (K:Nat),.slice bo l c],.slice xo n xc] w fun e w'=>∃ (v':Value) (is:Nat),e=.returned (.tuple #[v',.int .u64 (is:Nat)])∧∃ (Y:Nat) (m:List Ev) (o':Tr),NumN w' o' v' n Y∧Fresh w v'∧Did w o m w' o'∧(okMod ms K rs→m=pr n∧(A<val ms→(Nat.gcd A (val ms)=1→Y<val ms∧A*Y%val ms=1∧is=1)∧(Nat.gcd A (val ms)≠1→Y=0∧is=0))):=by
 obtain ⟨po,a3⟩:=aN o;obtain ⟨_,_,_,e1,bu,_,_,_,_⟩:=hm.1.open;cases e1
 obtain ⟨M,hM⟩:∃ M,M=val ms:=⟨_,rfl⟩
 have aq:NumT w o (.slice ao n a) n M:=by rw [hM];exact NumT.of hm a2 bu.out
 obtain ⟨W,hW⟩:∃ W,W=w.alloc (.cells #[.slice ao n a,.int .u64 (K:Nat),.slice bo l c] 130):=⟨_,rfl⟩
 have k0:Kept af w W:=by rw [hW];exact (ah af w).alloc _
 have b1:W.heap[w.heap.size]? = some (.cells #[.slice ao n a,.int .u64 (K:Nat),.slice bo l c] 130 (0,0)):=by rw [hW];exact heap_alloc_new _ _
 have hB:=CV n M A ao bo xo a l K c xc W o (ht.1.grew k0) (aq.grew k0) (hx.grew k0) ar hn;have al:=fun W'=>Am (64*(n:Int)) W'
 rw [qK ar hn] at al;have bj:IntKind.i64.wrap (64*(n:Int))=64*(n:Int):=by simp [IntKind.wrap,IntKind.bits,IntKind.signed];omega
 have HW:=aa hW;have bt:=aa k0;have HT:=aa ht;have a4:=aa b1;obtain ⟨c0,c1,c2⟩:=ay b1;obtain ⟨N,hN⟩:∃ N,N=stp n:=⟨_,rfl⟩
 have bQ:N≤30000:=by rw [hN];unfold stp;omega
 rw [← hN] at al HT;have HN:=aa hN;rw [a3];clear hW k0 ht b1 hN;go_enter Tryz.func145,Tryz.ntmps145;go_wp2_with (rw [← HW.out]);refine hB.mono ?_;rintro e w1 ⟨uo,uc,vo,vc,fo,fc,go,gc,rfl,nu,nv,nf,ng,k1⟩;clear hB c0 c1 c2;go_wp2_with fail;refine (al _).mono ?_;rintro e w2 ⟨rfl,aw⟩;have b2:w2.heap[w1.heap.size]? = some (.cells #[.slice uo n uc,.slice vo n vc,.slice fo (n+1) fc,.slice go (n+1) gc,.int .u64 1] 194 (0,0)):=by rw [aw];exact heap_alloc_new _ _
 have k2:Kept af w1 w2:=by rw [aw];exact (ah af w1).alloc _
 have E:=bt.out.trans k1;have an:=HT.out.grew E;have bB:=aa (hm.grew E);have aM:=aa (aq.grew E);have bH:=aa (hr.grew E);have ax:=(k1.block _ (lt_of_block a4.out) (fun f=>f)).trans a4.out;have JC:Hid (∀ W' m' o',Did w1 o m' W' o'→W'.heap[w.heap.size]? = some (.cells #[.slice ao n a,.int .u64 (K:Nat),.slice bo l c] 130 (0,0))):=fun W' m' o' d=>d.cells ax an.1 (by decide) (by decide)
 have bp:w.heap.size≠w1.heap.size:=by have:=lt_of_block ax;omega
 obtain ⟨s0,r⟩:∃ s0:Int × Int × Int,s0=(1,(M:Int),(A:Int)):=⟨_,rfl⟩
 have P:StIn (18446744073709551616^n) 0 s0:=by
  have h1:=aq.2;have h2:=hx.2;rw [r];unfold StIn;dsimp only;generalize 18446744073709551616^n=Q at *;omega
 have a0:=aa (StIn.all P);have aI:Hid (okMod ms K rs→CoOk M A 0 1 s0):=fun h=>by
  have:=eO h.1;rw [← hM] at this;rw [r];refine ⟨by omega,by omega,?_,?_⟩
  ·exact ⟨-1,by dsimp only;omega⟩
  ·exact ⟨0,by dsimp only;omega⟩
 have S:Hid (okMod ms K rs→M<18446744073709551616^n∧M%2=1∧∀ k,(eu s0 k).2.1%2=1):=fun h=>by
  have:=eO h.1;rw [← hM] at this;refine ⟨aq.2,by omega,fun k=>(mi (s:=s0) (by rw [r];dsimp only;omega) k).1⟩
 have q:BtwI w1 o w2 o (.pointer po) n M A w1.heap.size 0 N s0 (okMod ms K rs) uo vo fo go uc vc fc gc 0 1:=by
  refine ⟨⟨Did.of_kept k2 an.1,(an.less (by omega)).grew k2,a3⟩,?_,nu.grew k2,nv.grew k2,?_,?_,aI.out⟩
  ·rw [r];exact b2
  ·rw [r];have:=nf.grew k2;rw [← tM (18446744073709551616^(n+1)) M] at this;exact this
  ·rw [r];have:=ng.grew k2;rw [← tM (18446744073709551616^(n+1)) A] at this;exact this
 have x:=aa q;have bD:=aa r;have a7:=aa E;clear al aw b2 k2 E an ax P q nu nv nf ng k1 r;go_wp2_with fail;go_loopw [24] (fun i wr=>∃ (k:Nat) (o1:Tr) (uo vo fo go:Option Addr) (uc vc fc gc U V:Nat),k≤N∧i=.int .i64 (k:Int)∧Hid (BtwI w1 o wr o1 (.pointer po) n M A w1.heap.size k N s0 (okMod ms K rs) uo vo fo go uc vc fc gc U V)) (fun i _=>N-(intOf i).toNat)
 case atStart=>exact ⟨0,o,uo,vo,fo,go,uc,vc,fc,gc,0,1,by omega,rfl,x.out⟩
 case round=>
  clear x;obtain ⟨k,o1,uo,vo,fo,go,uc,vc,fc,gc,U,V,hk,rfl,HB⟩:=hrel;by_cases hkn:k<N
  ·have g1:(k:Int)<(N:Int):=by omega
   obtain ⟨c0,c1,c2⟩:=ay (JC.out wr _ o1 HB.out.wrt.did);obtain ⟨p0,p1,p2,p3,p4⟩:=em HB.out.box;have hS:=Bx n M U V k A (eu s0 k).1 (eu s0 k).2.1 (eu s0 k).2.2 uo vo fo go ao bo uc vc fc gc a l K c (k:=12*(N-(k+1))+20) (HB.out.wrt.less (by omega)) (a0.out k) (by omega) (aM.out.did HB.out.wrt.did) HB.out.nu.1 HB.out.nv.1 HB.out.nf.1 HB.out.ng.1 ar (by omega);have bc:dst ((eu s0 k).1,(eu s0 k).2.1,(eu s0 k).2.2)=eu s0 (k+1):=rfl;rw [bc] at hS;have aW:=aa HB.out.co;have TI:=aa HB.out.wrt.room.1;have aR:=aa HB.out.box;obtain ⟨T1,aF⟩:∃ T1,T1=tcN 18446744073709551616 (eu s0 k).1:=⟨_,rfl⟩
   rw [← aF] at hS p4;have bx:=aa aF;clear bc aF HB;go_wp2_with fail;refine hS.mono ?_;rintro e w5 ⟨u',v',f',g',rfl,U',V',o5,q5,az,aQ,aS,aK,d5,s5⟩;obtain ⟨G,H,rfl⟩:=az.1.shape;obtain ⟨ae,O,rfl⟩:=aQ.1.shape;obtain ⟨R,X,rfl⟩:=aS.1.shape;obtain ⟨ad,I,rfl⟩:=aK.1.shape;have p:=d5.cells aR.out TI.out (by decide) (by decide);rw [← bx.out] at p;obtain ⟨f0,f1,f2,f3,f4⟩:=my p;obtain ⟨g0,bN,g2,g3,g4⟩:=em p;obtain ⟨T2,aC⟩:∃ T2,T2=tcN 18446744073709551616 (eu s0 (k+1)).1:=⟨_,rfl⟩
   rw [← aC];have be:=Bc p (.slice G n H) (.slice ae n O) (.slice R (n+1) X) (.slice ad (n+1) I) (.int .u64 (T2:Int));have kp:=sQ w5 w1.heap.size (.slice G n H) (.slice ae n O) (.slice R (n+1) X) (.slice ad (n+1) I) (.int .u64 (T2:Int));have aU:=aA p s5.room.1 (by decide) (by decide);have bz:=s5.room
   have aL:Hid (BtwI w1 o (((((w5.setCell ⟨w1.heap.size,0,none⟩ (.slice G n H)).setCell ⟨w1.heap.size,1,none⟩ (.slice ae n O)).setCell ⟨w1.heap.size,2,none⟩ (.slice R (n+1) X)).setCell ⟨w1.heap.size,3,none⟩ (.slice ad (n+1) I)).setCell ⟨w1.heap.size,4,none⟩ (.int .u64 (T2:Int))) o5 (.pointer po) n M A w1.heap.size (k+1) N s0 (okMod ms K rs) G ae R ad H O X I U' V'):=by
    have dw:=s5.did.wroteNew kp (leR _) aU;refine ⟨⟨dw,⟨s5.room.1.put kp aU,s5.room.2⟩,s5.ptr⟩,?_,az.put p (by decide) kp,aQ.put p (by decide) kp,aS.put p (by decide) kp,aK.put p (by decide) kp,fun h=>?_⟩
    ·rw [← aC];exact be
    ·obtain ⟨i1,i2,i3⟩:=S.out h;exact q5.out i1 i2 (i3 k) (aW.out h)
   clear hS az aQ aS aK d5 s5 be kp aU bz aC q5 aW c0 c1 c2 p0 p1 p2 p3 p4;go_wp2_with fail;go_roundw
   case rel=>exact ⟨k+1,o5,G,ae,R,ad,H,O,X,I,U',V',by omega,by go_num,aL.out⟩
   case measure=>simp [intOf];omega
  ·have g1:¬ (k:Int)<(N:Int):=by omega
   obtain rfl:k=N:=by omega
   have hF:=a0.out k;obtain ⟨F,am⟩:∃ F,F=(eu s0 k).2.1:=⟨_,rfl⟩
   have aV:-((18446744073709551616^n:Nat):Int)<F∧F<((18446744073709551616^n:Nat):Int):=by rw [am];exact hF.2.1
   have a1:sgN F=tcN (18446744073709551616^(n+1)) F/(9223372036854775808*18446744073709551616^n):=(pP (Q:=18446744073709551616^n) (by omega) (by rw [Nat.pow_succ];omega) (by omega) (Nat.mul_pos (by omega) (Nat.pow_pos (by omega)))).symm;have B:sgN F≤1:=by unfold sgN;split <;> omega
   have nf:=HB.out.nf;rw [← am] at nf;have aH:=zr n _ _ _ wr o1 nf.1 (by omega) a1;have s6:=HB.out.wrt;have h7:=Cj (n+1) _ _ (k:=19) (s6.less (by omega)) nf.1 (by omega);obtain ⟨c0,c1,c2⟩:=ay (JC.out wr _ o1 s6.did);obtain ⟨p0,p1,p2,p3,p4⟩:=em HB.out.box;have bC:=aa nf;have a6:=aa am;have br:=aa aV;obtain ⟨sg,z⟩:∃ sg,sg=sgN F:=⟨_,rfl⟩
   rw [← z] at B aH;have aY:=aa z;have TI:=aa s6.room.1;have aR:=aa HB.out.box;clear nf am aV hF a1 s6 z;go_wp2_with fail;refine aH.mono ?_;rintro e w6 ⟨rfl,rfl⟩;clear aH;go_wp2_with fail;refine h7.mono ?_;rintro e w7 ⟨v7,b7,rfl,Z7,o7,q7,n7,d7,s7⟩;have aP:=d7.cells aR.out TI.out (by decide) (by decide);have bs:=JC.out w7 _ o7 s7.did;obtain ⟨P0,P1,P2,P3,P4⟩:=em aP;have h8:=jL sg (n+1) Z7 _ v7 _ (k:=18) s7 B n7.1 (bC.out.1.did d7) (by omega);have T7:=aa s7.room.1;clear h7 n7 c0 c1 c2 p0 p1 p2 p3 p4 bs;go_wp2_with fail;refine h8.mono ?_;rintro e w8 ⟨v8,rfl,D,o8,q8,n8,d8,s8⟩;have aD:=d8.cells aP T7.out (by decide) (by decide)
   have T8:=aa s8.room.1;have kA:Kept af w8 (w8.alloc (.cells #[.int .u64 1] 23)):=(ah af w8).alloc _;have r1:Row .u64 (w8.alloc (.cells #[.int .u64 1] 23)) (.slice (some ⟨w8.heap.size,0,none⟩) 1 1) [1]:=Row.of_block (k:=.u64) (w:=w8.alloc (.cells #[.int .u64 1] 23)) (g:=w8.heap.size) (zs:=[1]) (t:=23) (heap_alloc_new _ _) rfl (by unfold maxLen;omega);have aX:RowT (w8.alloc (.cells #[.int .u64 1] 23)) o8 (.slice (some ⟨w8.heap.size,0,none⟩) 1 1) [1]:=⟨r1,fun _ b hb f=>by
    have e':w8.heap.size=b:=by simpa [Value.ownBlock] using hb
    have:=T8.out.foot b f;omega⟩
   have h9:=zd (n+1) D v8 _ (k:=17) (s8.grew kA) (n8.1.grew kA) aX (by omega) (by omega);have ab:=(kA.block _ (lt_of_block aD) (fun f=>f)).trans aD;have D8:=aa ((d7.trans d8).grew kA);have bJ:=aa (T8.out.grew kA);clear h8 n8 P0 P1 P2 P3 P4 r1 aX kA d7 d8 aP;go_wp2_with fail;refine h9.mono ?_;rintro e w9 ⟨is,rfl,o9,q9,aE,d9,s9⟩;have aJ:=d9.cells ab bJ.out (by decide) (by decide);obtain ⟨c0,c1,c2⟩:=ay (JC.out w9 _ o9 s9.did);obtain ⟨P0,P1,P2,P3,P4⟩:=em aJ;have ap:=HB.out.nu.1.did (D8.out.trans d9)
   have aO:=C5 o9 ao bo uo n l K a c n uc ms rs (ai U n) w9 (s9.room.less (by omega)) (bB.out.did s9.did) (bH.out.did s9.did) ap.1 a2 bh (aj (by omega) _ _) hK (by omega) (by omega);rw [s9.ptr,cE ap.2,← hM] at aO;have T9:=aa s9.room.1;clear h9 aD ab;go_wp2_with fail;refine aO.mono ?_;rintro e aZ ⟨bI,bS,rfl,zs,bg,aB,bb,a9,C,J,T⟩;have v:okMod ms K rs→(okMod ms K rs∧True∧U<M):=fun h=>⟨h,trivial,(HB.out.co h).1⟩
   have aT:Digs zs∧zs.length≤n∧(okMod ms K rs→zs=ai (fy 0 U M) n∧bg=List.replicate 3 (1,(n:Int),0))∧TrRoom aZ aB 10:=by
    by_cases h:okMod ms K rs
    ·obtain ⟨⟨e1,_⟩,e2⟩:=J (v h);refine ⟨by rw [e1];exact aj (by omega) _ _,by rw [e1,ag];omega,fun _=>⟨e1,e2⟩,C.room ?_⟩;rw [e2];exact s9.room.less (by simp)
    ·have ac:o=none:=bE.resolve_left h;obtain ⟨e1,_⟩:=T (fun hh=>h hh.1);have e9:o9=none:=by have:=s9.did;rw [ac] at this;exact this.none.1
     have bl:aB=none:=by have:=C;rw [e9] at this;exact this.none.1
     refine ⟨by rw [e1];exact Digs.nil _,by rw [e1];simp,fun hh=>absurd hh h,by rw [bl];exact TrRoom.none _ _ (by omega)⟩
   obtain ⟨bv,bm,ak,j⟩:=aT;have HZ:=aa ak;have bw:Wr w1 o (yh n k ++ [(1,((n+1:Nat):Int),0)] ++ [(1,((n+1:Nat):Int),0)] ++ [(1,((n+1:Nat):Int),0)] ++ bg) aZ aB (.pointer po) 10:=⟨s9.did.trans C,j,C.ptr.trans s9.ptr⟩
   have L:=C.cells aJ T9.out (by decide) (by decide);obtain ⟨Q0,Q1,Q2,Q3,Q4⟩:=em L;have y:=ap.did C;have bd:=mM sg n bI _ zs (ai U n) (k:=9) bw B ((a9 rfl).2.rowT bb j.1) y.1 bv (aj (by omega) _ _) (by rw [ag];omega) (by omega);have HU:=aa y.2;clear aO P0 P1 P2 P3 P4 c0 c1 c2 aJ L J T a9 bb ak j bm ap y v;go_wp2_with fail;refine bd.mono ?_;rintro e bO ⟨bK,rfl,a8,bR,bA,av,_,bP,bf⟩;have au:=mM is n bK (.slice none 0 0) (ai a8 n) [] (k:=8) bf aE av.1.1 ⟨Row.nil _ _,fun h=>absurd rfl h⟩ (aj (by omega) _ _) (Digs.nil _) (by rw [ag];simp) (by omega)
   rw [cE av.1.2] at au;have bi:=aa bf.did.size;clear bd av Q0 Q1 Q2 Q3 Q4;go_wp2_with fail;refine au.mono ?_;rintro e bL ⟨bM,rfl,Y,bF,bq,bG,bn,bT,bk⟩;clear au;go_wp2_with fail;go_ret2;refine ⟨_,_,rfl,Y,_,bF,bG,?_,Did.after a7.out bk.did,fun v=>⟨?_,fun hA=>?_⟩⟩
   ·intro b hb;have h1:=bn b hb;have h2:=bi.out;have h3:=a7.out.size;omega
   ·rw [(HZ.out v).2];unfold pr;rw [← HN.out];simp [List.append_assoc,List.replicate]
   ·obtain ⟨i1,i2,i3⟩:=S.out v;have hE:=eO v.1;rw [← hM] at hE hA ⊢;have a5:=HB.out.co v;have hs:eu s0 k=eu (1,(M:Int),(A:Int)) (stp n):=by rw [bD.out,← HN.out]
    refine yU (D:=D) (is:=is) (Z:=a8) (s:=eu s0 k) ar hn i1 i2 hE.2.1 hA hs a5 ?_ q9.out ?_ bq.out
    ·rw [q8.out,q7.out,zg br.out,aY.out,← a6.out];exact xX
    ·have ba:=bA.out;rw [(HZ.out v).1,cE (Nat.lt_trans (yX (by omega) a5.1) i1),cE HU.out,aY.out,a6.out] at ba;exact ba

def Ch (n:Nat):List Ev:=(1,(n:Int),0) :: pr n

def zI (A M Y is:Nat):Prop:=(Nat.gcd A M=1→Y<M∧A*Y%M=1∧is=1)∧(Nat.gcd A M≠1→Y=0∧is=0)

def mQ (w:World) (o:Tr) (P:Prop) (n A M:Nat) (w':World) (v':Value) (is c:Nat):Prop:=
 ∃ (zs:List Nat) (m:List Ev) (o':Tr),Row .u64 w' v' zs∧Lies true w w' v'∧Did w o m w' o'∧(P→c=0∧m=Ch n∧∃ Y,zs=ai Y n∧zI A M Y is)∧(¬ P→zs=[]∧is=0∧c=1)

theorem iOf (o:Tr) (ao bo xo:Option Addr) (n l K a g N1 xc:Nat) (ms rs xs:List Nat) (w:World) (ht:TrRoom w o 400000) (hm:RowT w o (.slice ao n a) ms) (hr:RowT w o (.slice bo l g) rs) (hx:RowT w o (.slice xo N1 xc) xs) (r:Digs ms) (t:Digs rs) (E:Digs xs) (hK:K<18446744073709551616) (X:n≤1000000) (ad:okMod ms K rs∨o=none) :
  Calls Tryz.prog 102 #[aG o,.agg #[.slice ao n a,.int .u64 (K:Nat),.slice bo l g],.slice xo N1 xc] w fun e w'=>∃ (v':Value) (is c:Nat),e=.returned (.tuple #[v',.int .u64 (is:Nat),.int .i64 (c:Nat)])∧mQ w o (okMod ms K rs∧(N1=n∧val xs<val ms)) n (val xs) (val ms) w' v' is c:=by
 obtain ⟨po,I⟩:=aN o;obtain ⟨_,_,_,e1,G,_,_,_,_⟩:=hm.1.open;cases e1
 obtain ⟨_,_,_,e1,H,_,_,_,_⟩:=hx.1.open;cases e1
 obtain ⟨_,_,_,e1,R,_,_,_,_⟩:=hr.1.open;cases e1
 obtain ⟨W,hW⟩:∃ W,W=w.alloc (.cells #[.slice ao n a,.int .u64 (K:Nat),.slice bo l g] 130):=⟨_,rfl⟩
 have k0:Kept af w W:=by rw [hW];exact (ah af w).alloc _
 have b1:W.heap[w.heap.size]? = some (.cells #[.slice ao n a,.int .u64 (K:Nat),.slice bo l g] 130 (0,0)):=by rw [hW];exact heap_alloc_new _ _
 obtain ⟨c0,c1,c2⟩:=ay b1;have HW:=aa hW;have al:=aa k0;by_cases hok:0<n∧n≤130
 ·have ak:=hok.1;have hn:=hok.2;have g1:¬ (n:Int)<1:=by omega
  have g2:¬ (n:Int) > 130:=by omega
  have an:12*stp n+30+1≤400000:=by unfold stp;omega
  obtain ⟨M,hM⟩:∃ M,M=val ms:=⟨_,rfl⟩
  have S:NumT w o (.slice ao n a) n M:=by rw [hM];exact NumT.of hm r G.out
  obtain ⟨A,hA⟩:∃ A,A=val xs%18446744073709551616^n:=⟨_,rfl⟩
  have P:N1=n→A=val xs:=fun h=>by rw [hA,am];rw [← h,← H.out];exact ar (by omega) E
  have D:=Be _ xs n W (hx.1.grew k0) E (by omega);rw [mW,← hA] at D;have lA:A<18446744073709551616^n:=by rw [hA];exact Nat.mod_lt _ (Nat.pow_pos (by omega))
  rw [← hM];have HM:=aa hm;have V:=aa S;have HR:=aa hr;have HT:=aa ht;have U:=aa b1;have Z:=aa P;have HA:=aa hA;have T:=aa lA;rw [I];clear hW k0 b1 hm S hr ht hx H P hA lA hok;go_enter Tryz.func102,Tryz.ntmps102;go_wp2_with (rw [← HW.out]);refine D.mono ?_;rintro e w1 ⟨rfl,O,k1⟩;have C:=al.out.trans k1;have s:=HT.out.grew C;have v:=(k1.block _ (lt_of_block U.out) (fun f=>f)).trans U.out;obtain ⟨c0,c1,c2⟩:=ay v;have nx:=NumN.own O T.out s.1;have s1:Wr w1 o [] w1 o (.pointer po) 400000:=⟨Did.of_kept (ah af w1) s.1,s,I⟩
  have B:=oJ o _ _ _ _ w1 (s.less (by omega)) nx.1.1 (V.out.grew C).1 (aj (by omega) _ _) (aj (by omega) _ _) (by rw [ag];omega) (by rw [ag];omega);rw [I,ag,ag,Nat.max_self,cE T.out,cE V.out.2] at B;have JB:Hid (∀ W' m' o',Did w1 o m' W' o'→W'.heap[w.heap.size]? = some (.cells #[.slice ao n a,.int .u64 (K:Nat),.slice bo l g] 130 (0,0))):=fun W' m' o' d=>d.cells v s.1 (by decide) (by decide)
  have ac:=aa nx;have ae:=aa s1;have p:=aa C;obtain ⟨bl,L⟩:∃ bl,bl=bC (decide (A<M)):=⟨_,rfl⟩
  rw [← L] at B;have Q:=aa L;clear D O k1 C s v nx s1 L;go_wp2_with fail;refine B.mono ?_;rintro e w2 ⟨rfl,o2,d2⟩;have s2:=ae.out.next (k:=12*stp n+30) d2 (by simp;omega)
  have F:=C2 o2 ao bo _ n l K a g n A ms rs w2 s2.room ((HM.out.grew p.out).did d2) ((HR.out.grew p.out).did d2) (ac.out.1.did d2) r t hK ak hn (ad.elim Or.inl (fun h=>.inr (by have:=d2;rw [h] at this;exact this.none.1)));rw [s2.ptr,← hM] at F;obtain ⟨c0,c1,c2⟩:=ay (JB.out w2 _ o2 d2);clear B;go_wp2_with fail;refine F.mono ?_;rintro e w3 ⟨v3,is,rfl,Y,m3,o3,n3,f3,d3,hY⟩;have x:=d2.trans d3;obtain ⟨p0,p1,p2⟩:=ay (JB.out w3 _ o3 x);have q:=((HM.out.grew p.out).did x).1;have m:=((HR.out.grew p.out).did x).1;have N:=aa (Did.after p.out x)
  have j:Hid (∀ w':World,Kept af w3 w'→¬ (okMod ms K rs∧(N1=n∧val xs<M))→mQ w o (okMod ms K rs∧(N1=n∧val xs<M)) n (val xs) M w' (.slice none 0 0) 0 1):=fun w' k h=>⟨[],_,o3,Row.nil _ _,Lies.nil _ _ _,N.out.grew k,fun hp=>absurd hp h,fun _=>⟨rfl,rfl,rfl⟩⟩
  have i:Hid (∀ w':World,Kept af w3 w'→okMod ms K rs→N1=n→A<M→mQ w o (okMod ms K rs∧(N1=n∧val xs<M)) n (val xs) M w' v3 is 0):=fun w' k h1 h2 h3=>by
   have eA:=Z.out h2;obtain ⟨e1,e2⟩:=hY h1;refine ⟨ai Y n,_,o3,(n3.1.grew k).1.1,fun _=>⟨?_,n3.2.grew k⟩,N.out.grew k,fun _=>⟨rfl,?_,Y,rfl,?_⟩,fun hp=>absurd ⟨h1,h2,by rw [← eA];exact h3⟩ hp⟩
   ·intro b hb;have q1:=f3 b hb;have q2:=d2.size;have q3:=p.out.size;omega
   ·rw [e1];rfl
   ·rw [← eA];exact e2 h3
  clear F c0 c1 c2 n3 f3 d3 x hY s2 d2;by_cases hN:N1=n
  ·by_cases hlt:A<M
   ·have v:bl=1:=by rw [Q.out,aQ hlt];rfl
    subst v;by_cases hmd2:okMod ms K rs
    ·have z:=jv ao bo n l K a g ms rs true (by simp [hmd2]) w3 q m r t hK X;have HF:=aa (fun w' k=>i.out w' k hmd2 hN hlt);have J:(N1:Int)=(n:Int):=by omega
     clear i j q m hN;go_wp2_with fail;refine z.mono ?_;rintro e w4 ⟨rfl,k4⟩;clear z;go_wp2_with fail;go_ret3
     exact ⟨_,_,_,rfl,HF.out _ k4⟩
    ·have z:=jv ao bo n l K a g ms rs false (by simp [hmd2]) w3 q m r t hK X;have HF:=aa (fun w' k=>j.out w' k (fun h=>hmd2 h.1));have J:(N1:Int)=(n:Int):=by omega
     clear i j q m hN;go_wp2_with fail;refine z.mono ?_;rintro e w4 ⟨rfl,k4⟩;clear z;go_wp2_with fail;go_ret3
     exact ⟨_,0,1,rfl,HF.out _ k4⟩
   ·have ab:bl=0:=by rw [Q.out,aD hlt];rfl
    subst ab;have HF:=aa (j.out w3 (ah _ _) (fun h=>hlt (by rw [Z.out h.2.1];exact h.2.2)));have J:(N1:Int)=(n:Int):=by omega
    clear i j q m hN;go_wp2_with fail;go_ret3
    exact ⟨_,0,1,rfl,HF.out⟩
  ·have HF:=aa (j.out w3 (ah _ _) (fun h=>hN h.2.1));have J:¬ (N1:Int)=(n:Int):=by omega
   clear i j q m hN;go_wp2_with fail;go_ret3
   exact ⟨_,0,1,rfl,HF.out⟩
 ·have y:¬ (okMod ms K rs∧(N1=n∧val xs<val ms)):=fun h=>by
   obtain ⟨_,f2,f3,_⟩:=h.1.facts G.out R.out r t hK;exact hok ⟨f2,f3⟩
  have HF:Hid (mQ w o (okMod ms K rs∧(N1=n∧val xs<val ms)) n (val xs) (val ms) W (.slice none 0 0) 0 1):=⟨[],[],o,Row.nil _ _,Lies.nil _ _ _,Did.of_kept k0 ht.1,fun hp=>absurd hp y,fun _=>⟨rfl,rfl,rfl⟩⟩
  generalize aG o=tp at *;clear hm hr hx ht r t E y k0 b1 G H R hW;by_cases h0:n<1
  ·have g1:(n:Int)<1:=by omega
   clear hok;go_enter Tryz.func102,Tryz.ntmps102;go_wp2_with (rw [← HW.out]);go_ret3
   exact ⟨_,0,1,rfl,HF.out⟩
  ·have g1:¬ (n:Int)<1:=by omega
   have g2:(n:Int) > 130:=by omega
   clear hok h0;go_enter Tryz.func102,Tryz.ntmps102;go_wp2_with (rw [← HW.out]);go_ret3
   exact ⟨_,0,1,rfl,HF.out⟩

theorem nr {V K:Nat} (h:dU V=0) (hK:l6 V K):okMod (e8 V) K (eX V)∧(e8 V).length=ak V∧(eX V).length=ak V∧val (e8 V)=V∧Digs (e8 V)∧Digs (eX V):=by
 have hM:e8 V=ai V (ak V):=by unfold e8;rw [if_pos h]
 have hR:eX V=ai (2^(128*ak V)%V) (ak V):=by unfold eX;rw [if_pos h]
 have hv:val (e8 V)=V:=by rw [hM,al,am ((ap V _).1 (leR _))]
 refine ⟨?_,by rw [hM,ag],by rw [hR,ag],hv,by rw [hM];exact aj (by omega) _ _,by rw [hR];exact aj (by omega) _ _⟩;unfold okMod;rw [hv];exact ⟨h,rfl,hK,rfl⟩

def Bu (P:Prop) (n A M E T F:Nat) (RL:List Nat):Prop:=((E=0∧P)∨(E=1∧¬ P))∧(E=0→zI A M T F)∧(E=1→F=0)∧RL=if E=0 then ai T n else []

theorem pC {w w':World} {P:Prop} {n A M is c:Nat} {v':Value} (h:mQ w none P n A M w' v' is c):∃ T RL,Row .u64 w' v' RL∧Kept af w w'∧Bu P n A M c T is RL:=by
 obtain ⟨zs,m,o',h1,_,d,hp,hn⟩:=h;have k:=d.none.2;by_cases hP:P
 ·obtain ⟨rfl,_,Y,rfl,hY⟩:=hp hP;exact ⟨Y,_,h1,k,.inl ⟨rfl,hP⟩,fun _=>hY,fun h=>absurd h (by decide),rfl⟩
 ·obtain ⟨rfl,rfl,rfl⟩:=hn hP;exact ⟨0,[],h1,k,.inr ⟨rfl,hP⟩,fun h=>absurd h (by decide),fun _=>rfl,rfl⟩

theorem Cg (ao bo xo:Option Addr) (n l K b a N1 xc:Nat) (ms rs xs:List Nat) (w:World) (hm:Row .u64 w (.slice ao n b) ms) (hr:Row .u64 w (.slice bo l a) rs) (hx:Row .u64 w (.slice xo N1 xc) xs) (g:Digs ms) (d:Digs rs) (f:Digs xs) (hK:K<18446744073709551616) (i:n≤1000000) :
  Calls Tryz.prog 102 #[.pointer none,.agg #[.slice ao n b,.int .u64 (K:Nat),.slice bo l a],.slice xo N1 xc] w fun e w'=>∃ (v':Value) (F E:Nat),e=.returned (.tuple #[v',.int .u64 (F:Nat),.int .i64 (E:Nat)])∧∃ T RL,Row .u64 w' v' RL∧Kept af w w'∧Hid (Bu (okMod ms K rs∧(N1=n∧val xs<val ms)) n (val xs) (val ms) E T F RL):=by
 refine (iOf none ao bo xo n l K b a N1 xc ms rs xs w (TrRoom.none _ _ (by omega)) (RowT.none hm) (RowT.none hr) (RowT.none hx) g d f hK i (.inr rfl)).mono ?_;rintro e w' ⟨v',is,c,rfl,h⟩;obtain ⟨T,RL,h1,h2,h3⟩:=pC h;exact ⟨v',is,c,rfl,T,RL,h1,h2,h3⟩

end Go.Proofs.YtcemlfokmjjiaaaGreatDoor
