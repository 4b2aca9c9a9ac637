/- Put together of: Iva4 Held1 Prw1. -/
import Derived.Test.YtkaojflnghfmcaaGreatDoorQA19

namespace Go.Proofs.YtkaojflnghfmcaaGreatDoor
set_option maxRecDepth 100000
set_option maxHeartbeats 4000000
open Go.RowKit

def uF (n:Nat):Nat→List Ev
 | 0=>[]
 | k+1=>uF n k ++ kT n

def ow (n:Nat):List Ev:=uF n (stp n) ++ (List.replicate 3 (1,((n+1:Nat):Int),0) ++ (List.replicate 3 (1,(n:Int),0) ++ List.replicate 2 (1,(n:Int),0)))

structure BtwI (w0:World) (o0:Tr) (w:World) (o:Tr) (tp:Value) (n M a pb k N:Nat) (s:Int × Int × Int) (G:Prop) (uo vo fo go:Option Addr) (uc vc fc gc U V:Nat):Prop where
 wrt:Wr w0 o0 (uF n k) w o tp (12*(N-k)+20)
 box:w.heap[pb]? = some (.cells #[.slice uo n uc,.slice vo n vc,.slice fo (n+1) fc,.slice go (n+1) gc,.int .u64 (tcN 18446744073709551616 (ee s k).1:Nat)] 217 (0,0))
 nu:NumN w o (.slice uo n uc) n U
 nv:NumN w o (.slice vo n vc) n V
 nf:NumN w o (.slice fo (n+1) fc) (n+1) (tcN (18446744073709551616^(n+1)) (ee s k).2.1)
 ng:NumN w o (.slice go (n+1) gc) (n+1) (tcN (18446744073709551616^(n+1)) (ee s k).2.2)
 co:G→CoOk M a U V (ee s k)

theorem TrIn.put {w w':World} {o:Tr} {p:Nat} (h:TrIn w o) (k:Kept (fun b=>b=p) w w') (hf:¬ di o p):TrIn w' o:=by
 rcases o with _ | ⟨q,g,l⟩
 ·trivial
 ·exact ⟨h.1.kept k (fun e=>hf (.inl e.symm)) (fun x hx e=>hf (.inr (by rw [← e];exact hx))),h.2⟩

theorem um {B:Nat} {F:Int}:aO (sgN F) (tcN B (-F)) (tcN B F)=F.natAbs:=by
 unfold aO sgN tcN;by_cases h:F<0
 ·rw [if_pos h,if_pos (by decide),if_neg (by omega)];omega
 ·rw [if_neg h,if_neg (by decide),if_neg h];omega

theorem vD {n:Nat} {F:Int} (hF:-((18446744073709551616^n:Nat):Int)<F∧F<((18446744073709551616^n:Nat):Int)):dm 0 (tcN (18446744073709551616^(n+1)) F) (n+1)=tcN (18446744073709551616^(n+1)) (-F):=by
 unfold dm;rw [← B64];exact zW hF (by rw [Nat.pow_succ];omega)

theorem uM {n M A U V D is Z Y:Nat} {s:Int × Int × Int} (k:0<n) (hn:n≤130) (hM:M<18446744073709551616^n) (f:M%2=1) (h2:2≤M) (hA:A<M) (hs:s=ee (1,(M:Int),(A:Int)) (stp n)) (j:CoOk M A U V s) (hD:D=s.2.1.natAbs) (e:is=aX (decide (D=1))) (hZ:Z=aO (sgN s.2.1) (fi 0 U M) U) (hY:Y=aO is Z 0) :
  (Nat.gcd A M=1→Y<M∧A*Y%M=1∧is=1)∧(Nat.gcd A M≠1→Y=0∧is=0):=by
 rw [B64] at hM;have he:=(rW (M:=M) (a:=A) (n:=n) k hn f (by omega) hM).2;rw [← hs,← hD] at he;rw [Nat.gcd_comm,← he];constructor
 ·intro h1;rw [h1,aU rfl] at e;have c:is=1:=e;have hf:=uN (d:=s.1) (F:=s.2.1) (G:=s.2.2) j h2 (by omega);have i:Z=if s.2.1<0 then fi 0 U M else U:=by
   rw [hZ];unfold aO sgN;by_cases h:s.2.1<0
   ·rw [if_pos h,if_pos h];rfl
   ·rw [if_neg h,if_neg h];rfl
  rw [← i] at hf;have g:Y=Z:=by rw [hY,c];rfl
  rw [g];exact ⟨hf.1,hf.2,c⟩
 ·intro h1;rw [aI h1] at e;have b:is=0:=e;exact ⟨by rw [hY,b];rfl,b⟩

theorem mO {w0:World} {o0:Tr} {m:List Ev} {tp:Value} {k:Nat} (bit n:Nat) (u v:Value) (xs ys:List Nat) {w:World} {o:Tr} (s:Wr w0 o0 m w o tp (k+1)) (hb:bit≤1) (hu:RowT w o u xs) (hv:RowT w o v ys) (a:Digs xs) (b:Digs ys) (hl:max xs.length ys.length=n) (hn:n≤1000) :
  Calls Tryz.prog 94 #[tp,.int .u64 (bit:Nat),u,v] w fun e w'=>∃ (v':Value),e=.returned v'∧∃ (Z:Nat) (o':Tr),Hid (Z=aO bit (val xs) (val ys))∧NumN w' o' v' n Z∧Fresh w v'∧Did w o [(1,(n:Int),0)] w' o'∧Wr w0 o0 (m ++ [(1,(n:Int),0)]) w' o' tp k:=by
 have h:=lG o bit (by omega) u v xs ys w (s.room.less (by omega)) hu hv a b (by omega) (by omega);rw [s.ptr,hl] at h;refine h.mono ?_;rintro e w' ⟨v',rfl,ho,o',d⟩;exact ⟨v',rfl,_,o',rfl,NumN.own ho (l8 (cf a (by omega)) (cf b (by omega))) (d.room (k:=0) (s.room.less (by simp))).1,Fresh.own ho (leR _),d,s.next d (by simp;omega)⟩

theorem uL {w0:World} {o0:Tr} {m:List Ev} {tp:Value} {k:Nat} (n X:Nat) (u v:Value) {w:World} {o:Tr} (s:Wr w0 o0 m w o tp (k+1)) (hu:NumT w o u n X) (hv:RowT w o v [1]) (a:0<n) (hn:n≤1000) :
  Calls Tryz.prog 93 #[tp,u,v] w fun e w'=>∃ c:Nat,e=.returned (.int .u64 (c:Nat))∧∃ (o':Tr),Hid (c=aX (decide (X=1)))∧c≤1∧Did w o [(1,(n:Int),0)] w' o'∧Wr w0 o0 (m ++ [(1,(n:Int),0)]) w' o' tp k:=by
 have h:=lF o u v _ [1] w (s.room.less (by omega)) hu.1 hv (ai (by omega) _ _) (Digs.one (by omega)) (by rw [ag];omega) (by simp);rw [s.ptr,ag,bi hu.2,show ([1]:List Nat).length=1 from rfl,show max n 1=n by omega,show val [1]=1 from rfl] at h;refine h.mono ?_;rintro e w' ⟨rfl,o',d⟩;exact ⟨_,rfl,o',rfl,oL _,d,s.next d (by simp;omega)⟩

theorem Bw (o:Tr) (ao bo xo:Option Addr) (n l K a c xc A:Nat) (ms rs:List Nat) (w:World) (ht:TrRoom w o (12*stp n+30)) (hm:RowT w o (.slice ao n a) ms) (hr:RowT w o (.slice bo l c) rs) (hx:NumT w o (.slice xo n xc) n A) (a7:Digs ms) (bx:Digs rs) (hK:K<18446744073709551616) (an:0<n) (hn:n≤130) (bs:okMod ms K rs∨o=none) :
  Calls Tryz.prog 134 #[aB o,.agg #[.slice ao n a,.int .u64 (K:Nat),.slice bo l c],.slice xo n xc] w fun e w'=>∃ (v':Value) (is:Nat),e=.returned (.tuple #[v',.int .u64 (is:Nat)])∧∃ (Y:Nat) (m:List Ev) (o':Tr),NumN w' o' v' n Y∧Fresh w v'∧Did w o m w' o'∧(okMod ms K rs→m=ow n∧(A<val ms→(Nat.gcd A (val ms)=1→Y<val ms∧A*Y%val ms=1∧is=1)∧(Nat.gcd A (val ms)≠1→Y=0∧is=0))):=by
 obtain ⟨po,a8⟩:=aF o;obtain ⟨_,_,_,e1,br,_,_,_,_⟩:=hm.1.open;cases e1
 obtain ⟨M,hM⟩:∃ M,M=val ms:=⟨_,rfl⟩
 have am:NumT w o (.slice ao n a) n M:=by rw [hM];exact NumT.of hm a7 br.out
 obtain ⟨W,hW⟩:∃ W,W=w.alloc (.cells #[.slice ao n a,.int .u64 (K:Nat),.slice bo l c] 70):=⟨_,rfl⟩
 have k0:Kept af w W:=by rw [hW];exact (ah af w).alloc _
 have b1:W.heap[w.heap.size]? = some (.cells #[.slice ao n a,.int .u64 (K:Nat),.slice bo l c] 70 (0,0)):=by rw [hW];exact heap_alloc_new _ _
 have hB:=Bv n M A ao bo xo a l K c xc W o (ht.1.grew k0) (am.grew k0) (hx.grew k0) an hn;have al:=fun W'=>yJ (64*(n:Int)) W'
 rw [qU an hn] at al;have bz:IntKind.i64.wrap (64*(n:Int))=64*(n:Int):=by simp [IntKind.wrap,IntKind.bits,IntKind.signed];omega
 have HW:=aa hW;have bh:=aa k0;have HT:=aa ht;have aU:=aa b1;obtain ⟨c0,c1,c2⟩:=aw b1;obtain ⟨N,hN⟩:∃ N,N=stp n:=⟨_,rfl⟩
 have bP:N≤30000:=by rw [hN];unfold stp;omega
 rw [← hN] at al HT;have HN:=aa hN;rw [a8];clear hW k0 ht b1 hN;go_enter Tryz.func134,Tryz.ntmps134;go_wp2_with (rw [← HW.out]);refine hB.mono ?_;rintro e w1 ⟨uo,uc,vo,vc,fo,fc,go,gc,rfl,nu,nv,nf,ng,k1⟩;clear hB c0 c1 c2;go_wp2_with fail;refine (al _).mono ?_;rintro e w2 ⟨rfl,aM⟩;have b2:w2.heap[w1.heap.size]? = some (.cells #[.slice uo n uc,.slice vo n vc,.slice fo (n+1) fc,.slice go (n+1) gc,.int .u64 1] 217 (0,0)):=by rw [aM];exact heap_alloc_new _ _
 have k2:Kept af w1 w2:=by rw [aM];exact (ah af w1).alloc _
 have E:=bh.out.trans k1;have aq:=HT.out.grew E;have bt:=aa (hm.grew E);have aL:=aa (am.grew E);have bw:=aa (hr.grew E);have aG:=(k1.block _ (lt_of_block aU.out) (fun f=>f)).trans aU.out;have JC:Hid (∀ W' m' o',Did w1 o m' W' o'→W'.heap[w.heap.size]? = some (.cells #[.slice ao n a,.int .u64 (K:Nat),.slice bo l c] 70 (0,0))):=fun W' m' o' d=>d.cells aG aq.1 (by decide) (by decide)
 have bv:w.heap.size≠w1.heap.size:=by have:=lt_of_block aG;omega
 obtain ⟨s0,x⟩:∃ s0:Int × Int × Int,s0=(1,(M:Int),(A:Int)):=⟨_,rfl⟩
 have X:StIn (18446744073709551616^n) 0 s0:=by
  have h1:=am.2;have h2:=hx.2;rw [x];unfold StIn;dsimp only;generalize 18446744073709551616^n=Q at *;omega
 have aY:=aa (StIn.all X);have au:Hid (okMod ms K rs→CoOk M A 0 1 s0):=fun h=>by
  have:=eJ h.1;rw [← hM] at this;rw [x];refine ⟨by omega,by omega,?_,?_⟩
  ·exact ⟨-1,by dsimp only;omega⟩
  ·exact ⟨0,by dsimp only;omega⟩
 have G:Hid (okMod ms K rs→M<18446744073709551616^n∧M%2=1∧∀ k,(ee s0 k).2.1%2=1):=fun h=>by
  have:=eJ h.1;rw [← hM] at this;refine ⟨am.2,by omega,fun k=>(lu (s:=s0) (by rw [x];dsimp only;omega) k).1⟩
 have r:BtwI w1 o w2 o (.pointer po) n M A w1.heap.size 0 N s0 (okMod ms K rs) uo vo fo go uc vc fc gc 0 1:=by
  refine ⟨⟨Did.of_kept k2 aq.1,(aq.less (by omega)).grew k2,a8⟩,?_,nu.grew k2,nv.grew k2,?_,?_,au.out⟩
  ·rw [x];exact b2
  ·rw [x];have:=nf.grew k2;rw [← tR (18446744073709551616^(n+1)) M] at this;exact this
  ·rw [x];have:=ng.grew k2;rw [← tR (18446744073709551616^(n+1)) A] at this;exact this
 have q:=aa r;have bk:=aa x;have aZ:=aa E;clear al aM b2 k2 E aq aG X r nu nv nf ng k1 x;go_wp2_with fail;go_loopw [24] (fun i wr=>∃ (k:Nat) (o1:Tr) (uo vo fo go:Option Addr) (uc vc fc gc U V:Nat),k≤N∧i=.int .i64 (k:Int)∧Hid (BtwI w1 o wr o1 (.pointer po) n M A w1.heap.size k N s0 (okMod ms K rs) uo vo fo go uc vc fc gc U V)) (fun i _=>N-(intOf i).toNat)
 case atStart=>exact ⟨0,o,uo,vo,fo,go,uc,vc,fc,gc,0,1,by omega,rfl,q.out⟩
 case round=>
  clear q;obtain ⟨k,o1,uo,vo,fo,go,uc,vc,fc,gc,U,V,hk,rfl,HB⟩:=hrel;by_cases hkn:k<N
  ·have g1:(k:Int)<(N:Int):=by omega
   obtain ⟨c0,c1,c2⟩:=aw (JC.out wr _ o1 HB.out.wrt.did);obtain ⟨p0,p1,p2,p3,p4⟩:=dS HB.out.box;have hS:=Aw n M U V k A (ee s0 k).1 (ee s0 k).2.1 (ee s0 k).2.2 uo vo fo go ao bo uc vc fc gc a l K c (k:=12*(N-(k+1))+20) (HB.out.wrt.less (by omega)) (aY.out k) (by omega) (aL.out.did HB.out.wrt.did) HB.out.nu.1 HB.out.nv.1 HB.out.nf.1 HB.out.ng.1 an (by omega);have a3:dst ((ee s0 k).1,(ee s0 k).2.1,(ee s0 k).2.2)=ee s0 (k+1):=rfl;rw [a3] at hS;have aV:=aa HB.out.co;have TI:=aa HB.out.wrt.room.1;have ar:=aa HB.out.box;obtain ⟨T1,aC⟩:∃ T1,T1=tcN 18446744073709551616 (ee s0 k).1:=⟨_,rfl⟩
   rw [← aC] at hS p4;have bm:=aa aC;clear a3 aC HB;go_wp2_with fail;refine hS.mono ?_;rintro e w5 ⟨u',v',f',g',rfl,U',V',o5,q5,aR,aS,aP,aQ,d5,s5⟩;obtain ⟨ad,ac,rfl⟩:=aR.1.shape;obtain ⟨aj,ae,rfl⟩:=aS.1.shape;obtain ⟨I,H,rfl⟩:=aP.1.shape;obtain ⟨L,J,rfl⟩:=aQ.1.shape;have p:=d5.cells ar.out TI.out (by decide) (by decide);rw [← bm.out] at p;obtain ⟨f0,f1,f2,f3,f4⟩:=lr p;obtain ⟨g0,bO,g2,g3,g4⟩:=dS p;obtain ⟨T2,aD⟩:∃ T2,T2=tcN 18446744073709551616 (ee s0 (k+1)).1:=⟨_,rfl⟩
   rw [← aD];have a1:=zy p (.slice ad n ac) (.slice aj n ae) (.slice I (n+1) H) (.slice L (n+1) J) (.int .u64 (T2:Int));have kp:=su w5 w1.heap.size (.slice ad n ac) (.slice aj n ae) (.slice I (n+1) H) (.slice L (n+1) J) (.int .u64 (T2:Int));have aE:=ay p s5.room.1 (by decide) (by decide);have bI:=s5.room
   have av:Hid (BtwI w1 o (((((w5.setCell ⟨w1.heap.size,0,none⟩ (.slice ad n ac)).setCell ⟨w1.heap.size,1,none⟩ (.slice aj n ae)).setCell ⟨w1.heap.size,2,none⟩ (.slice I (n+1) H)).setCell ⟨w1.heap.size,3,none⟩ (.slice L (n+1) J)).setCell ⟨w1.heap.size,4,none⟩ (.int .u64 (T2:Int))) o5 (.pointer po) n M A w1.heap.size (k+1) N s0 (okMod ms K rs) ad aj I L ac ae H J U' V'):=by
    have dw:=s5.did.wroteNew kp (leR _) aE;refine ⟨⟨dw,⟨s5.room.1.put kp aE,s5.room.2⟩,s5.ptr⟩,?_,aR.put p (by decide) kp,aS.put p (by decide) kp,aP.put p (by decide) kp,aQ.put p (by decide) kp,fun h=>?_⟩
    ·rw [← aD];exact a1
    ·obtain ⟨i1,i2,i3⟩:=G.out h;exact q5.out i1 i2 (i3 k) (aV.out h)
   clear hS aR aS aP aQ d5 s5 a1 kp aE bI aD q5 aV c0 c1 c2 p0 p1 p2 p3 p4;go_wp2_with fail;go_roundw
   case rel=>exact ⟨k+1,o5,ad,aj,I,L,ac,ae,H,J,U',V',by omega,by go_num,av.out⟩
   case measure=>simp [intOf];omega
  ·have g1:¬ (k:Int)<(N:Int):=by omega
   obtain rfl:k=N:=by omega
   have hF:=aY.out k;obtain ⟨F,ak⟩:∃ F,F=(ee s0 k).2.1:=⟨_,rfl⟩
   have a5:-((18446744073709551616^n:Nat):Int)<F∧F<((18446744073709551616^n:Nat):Int):=by rw [ak];exact hF.2.1
   have a9:sgN F=tcN (18446744073709551616^(n+1)) F/(9223372036854775808*18446744073709551616^n):=(pK (Q:=18446744073709551616^n) (by omega) (by rw [Nat.pow_succ];omega) (by omega) (Nat.mul_pos (by omega) (Nat.pow_pos (by omega)))).symm;have y:sgN F≤1:=by unfold sgN;split <;> omega
   have nf:=HB.out.nf;rw [← ak] at nf;have aA:=xY n _ _ _ wr o1 nf.1 (by omega) a9;have s6:=HB.out.wrt;have h7:=Ax (n+1) _ _ (k:=19) (s6.less (by omega)) nf.1 (by omega);obtain ⟨c0,c1,c2⟩:=aw (JC.out wr _ o1 s6.did);obtain ⟨p0,p1,p2,p3,p4⟩:=dS HB.out.box;have bj:=aa nf;have aW:=aa ak;have bg:=aa a5;obtain ⟨sg,z⟩:∃ sg,sg=sgN F:=⟨_,rfl⟩
   rw [← z] at y aA;have aX:=aa z;have TI:=aa s6.room.1;have ar:=aa HB.out.box;clear nf ak a5 hF a9 s6 z;go_wp2_with fail;refine aA.mono ?_;rintro e w6 ⟨rfl,rfl⟩;clear aA;go_wp2_with fail;refine h7.mono ?_;rintro e w7 ⟨v7,b7,rfl,Z7,o7,q7,n7,d7,s7⟩;have aH:=d7.cells ar.out TI.out (by decide) (by decide);have bu:=JC.out w7 _ o7 s7.did;obtain ⟨P0,P1,P2,P3,P4⟩:=dS aH;have h8:=jg sg (n+1) Z7 _ v7 _ (k:=18) s7 y n7.1 (bj.out.1.did d7) (by omega);have T7:=aa s7.room.1;clear h7 n7 c0 c1 c2 p0 p1 p2 p3 p4 bu;go_wp2_with fail;refine h8.mono ?_;rintro e w8 ⟨v8,rfl,D,o8,q8,n8,d8,s8⟩;have aI:=d8.cells aH T7.out (by decide) (by decide)
   have T8:=aa s8.room.1;have kA:Kept af w8 (w8.alloc (.cells #[.int .u64 1] 24)):=(ah af w8).alloc _;have r1:Row .u64 (w8.alloc (.cells #[.int .u64 1] 24)) (.slice (some ⟨w8.heap.size,0,none⟩) 1 1) [1]:=Row.of_block (k:=.u64) (w:=w8.alloc (.cells #[.int .u64 1] 24)) (g:=w8.heap.size) (zs:=[1]) (t:=24) (heap_alloc_new _ _) rfl (by unfold maxLen;omega);have bd:RowT (w8.alloc (.cells #[.int .u64 1] 24)) o8 (.slice (some ⟨w8.heap.size,0,none⟩) 1 1) [1]:=⟨r1,fun _ b hb f=>by
    have e':w8.heap.size=b:=by simpa [Value.ownBlock] using hb
    have:=T8.out.foot b f;omega⟩
   have h9:=uL (n+1) D v8 _ (k:=17) (s8.grew kA) (n8.1.grew kA) bd (by omega) (by omega);have P:=(kA.block _ (lt_of_block aI) (fun f=>f)).trans aI;have D8:=aa ((d7.trans d8).grew kA);have bn:=aa (T8.out.grew kA);clear h8 n8 P0 P1 P2 P3 P4 r1 bd kA d7 d8 aH;go_wp2_with fail;refine h9.mono ?_;rintro e w9 ⟨is,rfl,o9,q9,aK,d9,s9⟩;have aJ:=d9.cells P bn.out (by decide) (by decide);obtain ⟨c0,c1,c2⟩:=aw (JC.out w9 _ o9 s9.did);obtain ⟨P0,P1,P2,P3,P4⟩:=dS aJ;have ap:=HB.out.nu.1.did (D8.out.trans d9)
   have az:=Bt o9 ao bo uo n l K a c n uc ms rs (digs U n) w9 (s9.room.less (by omega)) (bt.out.did s9.did) (bw.out.did s9.did) ap.1 a7 bx (ai (by omega) _ _) hK (by omega) (by omega);rw [s9.ptr,bi ap.2,← hM] at az;have T9:=aa s9.room.1;clear h9 aI P;go_wp2_with fail;refine az.mono ?_;rintro e bf ⟨bJ,bL,rfl,zs,bb,aT,bc,ba,C,S,T⟩;have v:okMod ms K rs→(okMod ms K rs∧True∧U<M):=fun h=>⟨h,trivial,(HB.out.co h).1⟩
   have aN:Digs zs∧zs.length≤n∧(okMod ms K rs→zs=digs (fi 0 U M) n∧bb=List.replicate 3 (1,(n:Int),0))∧TrRoom bf aT 10:=by
    by_cases h:okMod ms K rs
    ·obtain ⟨⟨e1,_⟩,e2⟩:=S (v h);refine ⟨by rw [e1];exact ai (by omega) _ _,by rw [e1,ag];omega,fun _=>⟨e1,e2⟩,C.room ?_⟩;rw [e2];exact s9.room.less (by simp)
    ·have R:o=none:=bs.resolve_left h;obtain ⟨e1,_⟩:=T (fun hh=>h hh.1);have e9:o9=none:=by have:=s9.did;rw [R] at this;exact this.none.1
     have bp:aT=none:=by have:=C;rw [e9] at this;exact this.none.1
     refine ⟨by rw [e1];exact Digs.nil _,by rw [e1];simp,fun hh=>absurd hh h,by rw [bp];exact TrRoom.none _ _ (by omega)⟩
   obtain ⟨bA,bB,ab,j⟩:=aN;have HZ:=aa ab;have bG:Wr w1 o (uF n k ++ [(1,((n+1:Nat):Int),0)] ++ [(1,((n+1:Nat):Int),0)] ++ [(1,((n+1:Nat):Int),0)] ++ bb) bf aT (.pointer po) 10:=⟨s9.did.trans C,j,C.ptr.trans s9.ptr⟩
   have O:=C.cells aJ T9.out (by decide) (by decide);obtain ⟨Q0,Q1,Q2,Q3,Q4⟩:=dS O;have B:=ap.did C;have a4:=mO sg n bJ _ zs (digs U n) (k:=9) bG y ((ba rfl).2.rowT bc j.1) B.1 bA (ai (by omega) _ _) (by rw [ag];omega) (by omega);have HU:=aa B.2;clear az P0 P1 P2 P3 P4 c0 c1 c2 aJ O S T ba bc ab j bB ap B v;go_wp2_with fail;refine a4.mono ?_;rintro e bS ⟨bK,rfl,a0,bQ,bE,aO,_,bM,be⟩;have ax:=mO is n bK (.slice none 0 0) (digs a0 n) [] (k:=8) be aK aO.1.1 ⟨Row.nil _ _,fun h=>absurd rfl h⟩ (ai (by omega) _ _) (Digs.nil _) (by rw [ag];simp) (by omega)
   rw [bi aO.1.2] at ax;have bl:=aa be.did.size;clear a4 aO Q0 Q1 Q2 Q3 Q4;go_wp2_with fail;refine ax.mono ?_;rintro e bT ⟨bR,rfl,Y,bD,bF,bC,bq,bN,bH⟩;clear ax;go_wp2_with fail;go_ret2;refine ⟨_,_,rfl,Y,_,bD,bC,?_,Did.after aZ.out bH.did,fun v=>⟨?_,fun hA=>?_⟩⟩
   ·intro b hb;have h1:=bq b hb;have h2:=bl.out;have h3:=aZ.out.size;omega
   ·rw [(HZ.out v).2];unfold ow;rw [← HN.out];simp [List.append_assoc,List.replicate]
   ·obtain ⟨i1,i2,i3⟩:=G.out v;have hE:=eJ v.1;rw [← hM] at hE hA ⊢;have a6:=HB.out.co v;have hs:ee s0 k=ee (1,(M:Int),(A:Int)) (stp n):=by rw [bk.out,← HN.out]
    refine uM (D:=D) (is:=is) (Z:=a0) (s:=ee s0 k) an hn i1 i2 hE.2.1 hA hs a6 ?_ q9.out ?_ bF.out
    ·rw [q8.out,q7.out,vD bg.out,aX.out,← aW.out];exact um
    ·have a2:=bE.out;rw [(HZ.out v).1,bi (Nat.lt_trans (xu (by omega) a6.1) i1),bi HU.out,aX.out,aW.out] at a2;exact a2

def AX (n:Nat):List Ev:=(1,(n:Int),0) :: ow n

def xJ (A M Y is:Nat):Prop:=(Nat.gcd A M=1→Y<M∧A*Y%M=1∧is=1)∧(Nat.gcd A M≠1→Y=0∧is=0)

def mh (w:World) (o:Tr) (P:Prop) (n A M:Nat) (w':World) (v':Value) (is c:Nat):Prop:=
 ∃ (zs:List Nat) (m:List Ev) (o':Tr),Row .u64 w' v' zs∧Lies true w w' v'∧Did w o m w' o'∧(P→c=0∧m=AX n∧∃ Y,zs=digs Y n∧xJ A M Y is)∧(¬ P→zs=[]∧is=0∧c=1)

theorem iOf (o:Tr) (ao bo xo:Option Addr) (n l K a i N1 xc:Nat) (ms rs xs:List Nat) (w:World) (ht:TrRoom w o 400000) (hm:RowT w o (.slice ao n a) ms) (hr:RowT w o (.slice bo l i) rs) (hx:RowT w o (.slice xo N1 xc) xs) (q:Digs ms) (z:Digs rs) (J:Digs xs) (hK:K<18446744073709551616) (X:n≤1000000) (ae:okMod ms K rs∨o=none) :
  Calls Tryz.prog 82 #[aB o,.agg #[.slice ao n a,.int .u64 (K:Nat),.slice bo l i],.slice xo N1 xc] w fun e w'=>∃ (v':Value) (is c:Nat),e=.returned (.tuple #[v',.int .u64 (is:Nat),.int .i64 (c:Nat)])∧mh w o (okMod ms K rs∧(N1=n∧val xs<val ms)) n (val xs) (val ms) w' v' is c:=by
 obtain ⟨po,L⟩:=aF o;obtain ⟨_,_,_,e1,F,_,_,_,_⟩:=hm.1.open;cases e1
 obtain ⟨_,_,_,e1,G,_,_,_,_⟩:=hx.1.open;cases e1
 obtain ⟨_,_,_,e1,U,_,_,_,_⟩:=hr.1.open;cases e1
 obtain ⟨W,hW⟩:∃ W,W=w.alloc (.cells #[.slice ao n a,.int .u64 (K:Nat),.slice bo l i] 70):=⟨_,rfl⟩
 have k0:Kept af w W:=by rw [hW];exact (ah af w).alloc _
 have b1:W.heap[w.heap.size]? = some (.cells #[.slice ao n a,.int .u64 (K:Nat),.slice bo l i] 70 (0,0)):=by rw [hW];exact heap_alloc_new _ _
 obtain ⟨c0,c1,c2⟩:=aw b1;have HW:=aa hW;have ab:=aa k0;by_cases hok:0<n∧n≤130
 ·have al:=hok.1;have hn:=hok.2;have g1:¬ (n:Int)<1:=by omega
  have g2:¬ (n:Int) > 130:=by omega
  have am:12*stp n+30+1≤400000:=by unfold stp;omega
  obtain ⟨M,hM⟩:∃ M,M=val ms:=⟨_,rfl⟩
  have V:NumT w o (.slice ao n a) n M:=by rw [hM];exact NumT.of hm q F.out
  obtain ⟨A,hA⟩:∃ A,A=val xs%18446744073709551616^n:=⟨_,rfl⟩
  have T:N1=n→A=val xs:=fun h=>by rw [hA,ak];rw [← h,← G.out];exact ap (by omega) J
  have D:=yI _ xs n W (hx.1.grew k0) J (by omega);rw [js,← hA] at D;have lA:A<18446744073709551616^n:=by rw [hA];exact Nat.mod_lt _ (Nat.pow_pos (by omega))
  rw [← hM];have HM:=aa hm;have S:=aa V;have HR:=aa hr;have HT:=aa ht;have O:=aa b1;have N:=aa T;have HA:=aa hA;have R:=aa lA;rw [L];clear hW k0 b1 hm V hr ht hx G T hA lA hok;go_enter Tryz.func82,Tryz.ntmps82;go_wp2_with (rw [← HW.out]);refine D.mono ?_;rintro e w1 ⟨rfl,Z,k1⟩;have C:=ab.out.trans k1;have s:=HT.out.grew C;have x:=(k1.block _ (lt_of_block O.out) (fun f=>f)).trans O.out;obtain ⟨c0,c1,c2⟩:=aw x;have nx:=NumN.own Z R.out s.1;have s1:Wr w1 o [] w1 o (.pointer po) 400000:=⟨Did.of_kept (ah af w1) s.1,s,L⟩
  have B:=kI o _ _ _ _ w1 (s.less (by omega)) nx.1.1 (S.out.grew C).1 (ai (by omega) _ _) (ai (by omega) _ _) (by rw [ag];omega) (by rw [ag];omega);rw [L,ag,ag,Nat.max_self,bi R.out,bi S.out.2] at B;have JB:Hid (∀ W' m' o',Did w1 o m' W' o'→W'.heap[w.heap.size]? = some (.cells #[.slice ao n a,.int .u64 (K:Nat),.slice bo l i] 70 (0,0))):=fun W' m' o' d=>d.cells x s.1 (by decide) (by decide)
  have ac:=aa nx;have ad:=aa s1;have m:=aa C;obtain ⟨bl,I⟩:∃ bl,bl=aX (decide (A<M)):=⟨_,rfl⟩
  rw [← I] at B;have P:=aa I;clear D Z k1 C s x nx s1 I;go_wp2_with fail;refine B.mono ?_;rintro e w2 ⟨rfl,o2,d2⟩;have s2:=ad.out.next (k:=12*stp n+30) d2 (by simp;omega)
  have E:=Bw o2 ao bo _ n l K a i n A ms rs w2 s2.room ((HM.out.grew m.out).did d2) ((HR.out.grew m.out).did d2) (ac.out.1.did d2) q z hK al hn (ae.elim Or.inl (fun h=>.inr (by have:=d2;rw [h] at this;exact this.none.1)));rw [s2.ptr,← hM] at E;obtain ⟨c0,c1,c2⟩:=aw (JB.out w2 _ o2 d2);clear B;go_wp2_with fail;refine E.mono ?_;rintro e w3 ⟨v3,is,rfl,Y,m3,o3,n3,f3,d3,hY⟩;have t:=d2.trans d3;obtain ⟨p0,p1,p2⟩:=aw (JB.out w3 _ o3 t);have p:=((HM.out.grew m.out).did t).1;have r:=((HR.out.grew m.out).did t).1;have Q:=aa (Did.after m.out t)
  have j:Hid (∀ w':World,Kept af w3 w'→¬ (okMod ms K rs∧(N1=n∧val xs<M))→mh w o (okMod ms K rs∧(N1=n∧val xs<M)) n (val xs) M w' (.slice none 0 0) 0 1):=fun w' k h=>⟨[],_,o3,Row.nil _ _,Lies.nil _ _ _,Q.out.grew k,fun hp=>absurd hp h,fun _=>⟨rfl,rfl,rfl⟩⟩
  have g:Hid (∀ w':World,Kept af w3 w'→okMod ms K rs→N1=n→A<M→mh w o (okMod ms K rs∧(N1=n∧val xs<M)) n (val xs) M w' v3 is 0):=fun w' k h1 h2 h3=>by
   have eA:=N.out h2;obtain ⟨e1,e2⟩:=hY h1;refine ⟨digs Y n,_,o3,(n3.1.grew k).1.1,fun _=>⟨?_,n3.2.grew k⟩,Q.out.grew k,fun _=>⟨rfl,?_,Y,rfl,?_⟩,fun hp=>absurd ⟨h1,h2,by rw [← eA];exact h3⟩ hp⟩
   ·intro b hb;have q1:=f3 b hb;have q2:=d2.size;have q3:=m.out.size;omega
   ·rw [e1];rfl
   ·rw [← eA];exact e2 h3
  clear E c0 c1 c2 n3 f3 d3 t hY s2 d2;by_cases hN:N1=n
  ·by_cases hlt:A<M
   ·have x:bl=1:=by rw [P.out,aU hlt];rfl
    subst x;by_cases hmd2:okMod ms K rs
    ·have v:=iM ao bo n l K a i ms rs true (by simp [hmd2]) w3 p r q z hK X;have HF:=aa (fun w' k=>g.out w' k hmd2 hN hlt);have H:(N1:Int)=(n:Int):=by omega
     clear g j p r hN;go_wp2_with fail;refine v.mono ?_;rintro e w4 ⟨rfl,k4⟩;clear v;go_wp2_with fail;go_ret3
     exact ⟨_,_,_,rfl,HF.out _ k4⟩
    ·have v:=iM ao bo n l K a i ms rs false (by simp [hmd2]) w3 p r q z hK X;have HF:=aa (fun w' k=>j.out w' k (fun h=>hmd2 h.1));have H:(N1:Int)=(n:Int):=by omega
     clear g j p r hN;go_wp2_with fail;refine v.mono ?_;rintro e w4 ⟨rfl,k4⟩;clear v;go_wp2_with fail;go_ret3
     exact ⟨_,0,1,rfl,HF.out _ k4⟩
   ·have aj:bl=0:=by rw [P.out,aI hlt];rfl
    subst aj;have HF:=aa (j.out w3 (ah _ _) (fun h=>hlt (by rw [N.out h.2.1];exact h.2.2)));have H:(N1:Int)=(n:Int):=by omega
    clear g j p r hN;go_wp2_with fail;go_ret3
    exact ⟨_,0,1,rfl,HF.out⟩
  ·have HF:=aa (j.out w3 (ah _ _) (fun h=>hN h.2.1));have H:¬ (N1:Int)=(n:Int):=by omega
   clear g j p r hN;go_wp2_with fail;go_ret3
   exact ⟨_,0,1,rfl,HF.out⟩
 ·have y:¬ (okMod ms K rs∧(N1=n∧val xs<val ms)):=fun h=>by
   obtain ⟨_,f2,f3,_⟩:=h.1.facts F.out U.out q z hK;exact hok ⟨f2,f3⟩
  have HF:Hid (mh w o (okMod ms K rs∧(N1=n∧val xs<val ms)) n (val xs) (val ms) W (.slice none 0 0) 0 1):=⟨[],[],o,Row.nil _ _,Lies.nil _ _ _,Did.of_kept k0 ht.1,fun hp=>absurd hp y,fun _=>⟨rfl,rfl,rfl⟩⟩
  generalize aB o=tp at *;clear hm hr hx ht q z J y k0 b1 F G U hW;by_cases h0:n<1
  ·have g1:(n:Int)<1:=by omega
   clear hok;go_enter Tryz.func82,Tryz.ntmps82;go_wp2_with (rw [← HW.out]);go_ret3
   exact ⟨_,0,1,rfl,HF.out⟩
  ·have g1:¬ (n:Int)<1:=by omega
   have g2:(n:Int) > 130:=by omega
   clear hok h0;go_enter Tryz.func82,Tryz.ntmps82;go_wp2_with (rw [← HW.out]);go_ret3
   exact ⟨_,0,1,rfl,HF.out⟩

theorem xG {P:Program} {md:Region.Mode} {ops:Array Oper} {Q:Exit→Act→World→Prop} {S:World→Prop} {c:Nat} {b:Array Bool} {a:Act} {w:World} (i:Nat) {o:Oper} (hr:Region.ready md ops b=[i]) (hi:ops[i]? = some o) (hg:o.guard=none) (f:Nat) (args:List Operand) (k:Array TypeId) (d:List Value)
  (ho:o.op=.call { callee:=.value (.func f),args:=args.toArray,argTypes:=k }) (hv:args.map a.eval=d) (he:∀ args w,(callFunc f args).run P w=.ok (.enter f args) w) {R:Ending→World→Prop} (hc:Calls P f d.toArray w R)
  (h:∀ e w',R e w'→(∃ v,e=.returned v∧S w'∧wpAnyH P md ops Q S c (b.setIfInBounds i true) (a.put o.dst v) w')∨∃ ch,e=.panicked ch∧Q (.panic ch) a w') :
  wpAnyH P md ops Q S (c+1) b a w:=by
 refine wpAnyH_all hr (by simp) fun j hj=>?_
 obtain rfl:j=i:=by simpa using hj
 have hw:Region.wanted o (yielded ops a.tmps)=true:=by simp [Region.wanted,hg]
 unfold wpOp;rw [hi];dsimp only;rw [if_pos hw];refine .inl ?_;have g:Calls P f d.toArray w fun
   | .returned v,w''=>S w''∧wpAnyH P md ops Q S c (b.setIfInBounds j true) (a.put o.dst v) w''
   | .panicked chain,w''=>Q (.panic chain) a w''
   | .outgrown,_=>LetsOut Q:=hc.mono (fun e w' r=>by
  rcases h e w' r with ⟨v,rfl,hk⟩ | ⟨ch,rfl,hk⟩
  ·exact hk
  ·exact hk)
 unfold Oper.wp;simp [execOp,ho,resolve,invoke,hv,he,go_sem];exact g

theorem nX {P:Program} {md:Region.Mode} {ops:Array Oper} {Q:Exit→Act→World→Prop} {S:World→Prop} {c:Nat} {b:Array Bool} {a:Act} {w:World} (i:Nat) {o:Oper} (hr:Region.ready md ops b=[i]) (hi:ops[i]? = some o)
  (hw:Region.wanted o (yielded ops a.tmps)=false) (hS:S w) (h:wpAnyH P md ops Q S c (b.setIfInBounds i true) (a.put o.dst undef) w):wpAnyH P md ops Q S (c+1) b a w:=by
 refine wpAnyH_all hr (by simp) fun j hj=>?_
 obtain rfl:j=i:=by simpa using hj
 unfold wpOp;rw [hi];dsimp only;rw [if_neg (by rw [hw];decide)];exact ⟨hS,h⟩

theorem yp {P:Program} {md:Region.Mode} {ops:Array Oper} {Q:Exit→Act→World→Prop} {S:World→Prop} {e:Nat} {b:Array Bool} {a:Act} {w:World} {oi:Oper} (i:Nat) (d:Option Tmp) (v:Value) (hi:ops[i]? = some oi) (hd:oi.dst=d)
  (hs:Region.noSelect ops=true) (hf:Region.free md ops b i=true) (hr:(Region.ready md ops b).contains i=true)
  (hQ:∀ c a w,Q (.panic c) (a.put d v) w→Q (.panic c) a w) (hy:YieldsIf P ops S oi v a) (hS:S w)
  (h:wpAnyH P md ops Q S e (b.setIfInBounds i true) (a.put d v) w):wpAnyH P md ops Q S (e+1) b a w:=by
 subst hd;exact wpAnyH_take hi hs hf hr hQ hy hS h

theorem Bf {P:Program} {md:Region.Mode} {ops:Array Oper} {Q:Exit→Act→World→Prop} {S:World→Prop} {c:Nat} {b:Array Bool} {a:Act} {w:World} {o:Oper} (i:Nat) (d:Option Tmp) (hr:Region.ready md ops b=[i]) (hi:ops[i]? = some o) (hd:o.dst=d)
  (hw:Region.wanted o (yielded ops a.tmps)=false) (hS:S w) (h:wpAnyH P md ops Q S c (b.setIfInBounds i true) (a.put d undef) w):wpAnyH P md ops Q S (c+1) b a w:=by
 subst hd;exact nX i hr hi hw hS h

theorem Am {P:Program} {md:Region.Mode} {ops:Array Oper} {Q:Exit→Act→World→Prop} {S:World→Prop} {c:Nat} {b:Array Bool} {a:Act} {w:World} {o:Oper} (i:Nat) (d:Option Tmp) (hr:Region.ready md ops b=[i]) (hi:ops[i]? = some o) (hd:o.dst=d) (hw:Region.wanted o (yielded ops a.tmps)=true) (f:Nat) (args:List Operand) (l:Array TypeId) (g:List Value)
  (ho:o.op=.call { callee:=.value (.func f),args:=args.toArray,argTypes:=l }) (hv:args.map a.eval=g) (he:∀ args w,(callFunc f args).run P w=.ok (.enter f args) w) {R:Ending→World→Prop} (hc:Calls P f g.toArray w R)
  (h:∀ e w',R e w'→(∃ v,e=.returned v∧S w'∧wpAnyH P md ops Q S c (b.setIfInBounds i true) (a.put d v) w')∨∃ ch,e=.panicked ch∧Q (.panic ch) a w') :
  wpAnyH P md ops Q S (c+1) b a w:=by
 subst hd;refine wpAnyH_all hr (by simp) fun j hj=>?_
 obtain rfl:j=i:=by simpa using hj
 unfold wpOp;rw [hi];dsimp only;rw [if_pos hw];refine .inl ?_;have k:Calls P f g.toArray w fun
   | .returned v,w''=>S w''∧wpAnyH P md ops Q S c (b.setIfInBounds j true) (a.put o.dst v) w''
   | .panicked chain,w''=>Q (.panic chain) a w''
   | .outgrown,_=>LetsOut Q:=hc.mono (fun e w' r=>by
  rcases h e w' r with ⟨v,rfl,hk⟩ | ⟨ch,rfl,hk⟩
  ·exact hk
  ·exact hk)
 unfold Oper.wp;simp [execOp,ho,resolve,invoke,hv,he,go_sem];exact k

theorem aD {P:Program} {md:Region.Mode} {ops:Array Oper} {Q:Exit→Act→World→Prop} {S:World→Prop} {e:Nat} {b:Array Bool} {a:Act} {w:World} {oi:Oper} (i:Nat) (d:Option Tmp) (v:Value) (s:S w) (k:wpAnyH P md ops Q S e (b.setIfInBounds i true) (a.put d v) w) (hi:ops[i]? = some oi:=by exact rfl) (hd:oi.dst=d:=by exact rfl)
  (hs:Region.noSelect ops=true:=by kernel_rfl) (hf:Region.free md ops b i=true:=by kernel_rfl) (hr:(Region.ready md ops b).contains i=true:=by kernel_rfl)
  (hQ:∀ c a w,Q (.panic c) (a.put d v) w→Q (.panic c) a w:=by exact fun _ _ _ h=>h) (y:YieldsIf P ops S oi v a:=by exact .inl ⟨by rfl,fun w h=>by simp [execOp,go_sem]⟩):wpAnyH P md ops Q S (e+1) b a w:=yp i d v hi hd hs hf hr hQ y s k

theorem dF {P:Program} {md:Region.Mode} {ops:Array Oper} {Q:Exit→Act→World→Prop} {S:World→Prop} {e:Nat} {b:Array Bool} {a:Act} {w:World} {oi:Oper} (hQ:∀ c a (d:Option Tmp) (v:Value) w,Q (.panic c) (a.put d v) w→Q (.panic c) a w) (i:Nat) (d:Option Tmp) (v:Value) (s:S w) (k:wpAnyH P md ops Q S e (b.setIfInBounds i true) (a.put d v) w) (hi:ops[i]? = some oi:=by exact rfl) (hd:oi.dst=d:=by exact rfl)
  (hs:Region.noSelect ops=true:=by kernel_rfl) (hf:Region.free md ops b i=true:=by kernel_rfl) (hr:(Region.ready md ops b).contains i=true:=by kernel_rfl)
  (y:YieldsIf P ops S oi v a:=by exact .inl ⟨by rfl,fun w h=>by simp [execOp,go_sem]⟩):wpAnyH P md ops Q S (e+1) b a w:=yp i d v hi hd hs hf hr (fun c a w=>hQ c a _ _ w) y s k

theorem Bg {P:Program} {md:Region.Mode} {ops:Array Oper} {Q:Exit→Act→World→Prop} {S:World→Prop} {c:Nat} {b:Array Bool} {a:Act} {w:World} {o:Oper} (i:Nat) (d:Option Tmp) (s:S w) (k:wpAnyH P md ops Q S c (b.setIfInBounds i true) (a.put d undef) w) (hr:Region.ready md ops b=[i]:=by kernel_rfl) (hi:ops[i]? = some o:=by exact rfl) (hd:o.dst=d:=by exact rfl)
  (hw:Region.wanted o (yielded ops a.tmps)=false:=by rfl):wpAnyH P md ops Q S (c+1) b a w:=Bf i d hr hi hd hw s k

theorem aZ {P:Program} {md:Region.Mode} {ops:Array Oper} {Q:Exit→Act→World→Prop} {S:World→Prop} {g:Nat} {b:Array Bool} {a:Act} {w:World} {o:Oper} (i:Nat) (d:Option Tmp) (f:Nat) {args:List Operand} {j:Array TypeId} (c:List Value) {R:Ending→World→Prop} (hc:Calls P f c.toArray w R)
  (h:∀ e w',R e w'→(∃ v,e=.returned v ∧ S w' ∧ wpAnyH P md ops Q S g (b.setIfInBounds i true) (a.put d v) w') ∨ ∃ ch,e=.panicked ch ∧ Q (.panic ch) a w') (hr:Region.ready md ops b=[i]:=by kernel_rfl) (hi:ops[i]? = some o:=by exact rfl) (hd:o.dst=d:=by exact rfl) (hw:Region.wanted o (yielded ops a.tmps)=true:=by rfl)
  (ho:o.op=.call {callee:=.value (.func f),args:=args.toArray,argTypes:=j}:=by exact rfl) (hv:args.map a.eval=c:=by exact rfl) (he:∀ args w,(callFunc f args).run P w=.ok (.enter f args) w:=by exact fun _ _=>by simp [go_sem]):wpAnyH P md ops Q S (g+1) b a w:=Am i d hr hi hd hw f args j c ho hv he hc h

theorem nD (p:Addr) (w:World) :
  CallsD Tryz.prog 60 #[.pointer (some p)] .returning w fun e u' w'=>e=.returned (.tuple #[])∧u'=.returning∧w'=w:=by
 refine callsD_of_wpS Tryz.func60 rfl fun c₀ cs hu=>?_
 apply wpS_seq;apply wpS_region;simp [wpOpsS,go_sem,recoverD,hu,Tryz.ntmps60,Exit.thenS];apply wpS_seq;apply wpS_seq;apply wpS_region;simp [wpOpsS,go_sem,Exit.thenS];refine wpS_cond (t:=true) (by simp [Act.eval,Array.replicate]) ?_;simp only [if_true];refine wpS_of_wp (wp_ret ?_);cases c₀
 simp_all [bodyPostS,results,Tryz.results60,Exit.thenS]

theorem vK (p:Addr) (x n:Int) (a:List PanicEntry) (w:World) (hc:w.cell? p=some (.int .i64 x)) (hz:w.frozen? p=false) :
  CallsD Tryz.prog 60 #[.pointer (some p)] (.panicking (refusal n :: a)) w fun e u' w'=>
   e=.returned (.tuple #[])∧u'=.panicking ({ refusal n with recovered:=true } :: a)∧w'=w.setCell p (.int .i64 n):=by
 refine callsD_of_wpS Tryz.func60 rfl fun c₀ cs hu=>?_
 apply wpS_seq;apply wpS_region;simp [wpOpsS,go_sem,recoverD,hu,Tryz.ntmps60,Exit.thenS];apply wpS_seq;apply wpS_seq;apply wpS_region;simp [wpOpsS,go_sem,Exit.thenS];refine wpS_cond (t:=false) (by simp [Act.eval,Array.replicate]) ?_;simp only [Bool.false_eq_true,if_false];refine wpS_of_wp (wp_skip ?_);simp only [Exit.thenS];refine wpS_of_wp ?_;have c:∀ w:World,(Instr.typeAssert (.iface 32 (.int .i64 n)) 20 32 true).run Tryz.prog w=.ok (.tuple #[.int .i64 n,.bool true]) w:=fun w=>by kernel_rfl
 have b:∀ (x:Bool) (w:World),(Op.unary .not (.bool x)).run Tryz.prog w=.ok (.bool (!x)) w:=fun _ _=>rfl
 have e:(#[Value.pointer (some p)] ++ ((((Array.replicate 15 undef).setIfInBounds 3 (Value.iface 32 (Value.int IntKind.i64 n))).setIfInBounds 0 (Value.iface 32 (Value.int IntKind.i64 n))).setIfInBounds 4 (Value.iface 32 (Value.int IntKind.i64 n))).setIfInBounds 5 (Value.bool false):Array Value)=#[.pointer (some p),.iface 32 (.int .i64 n),undef,undef,.iface 32 (.int .i64 n),.iface 32 (.int .i64 n),.bool false,undef,undef,undef,undef,undef,undef,undef,undef,undef]:=rfl;rw [e];clear e;go_wp2;simp [bodyPostS,results,Tryz.results60]

theorem gG (f:Nat) (b:Array Value) (w:World) (Q:Int→World→Prop) (he:∀ args w,(callFunc f args).run Tryz.prog w=.ok (.enter f args) w)
  (h:Calls Tryz.prog f b (w.alloc (.cells #[.int .i64 0] 32)) fun e w'=>w'.heap[w.heap.size]? = some (.cells #[.int .i64 0] 32 (0,0)) ∧
   ((e=.returned (.tuple #[])∧Q 0 w')∨∃ n,e=.panicked [refusal n]∧Q n w')) :
  Calls Tryz.prog 28 #[.func (.func f) #[] b] w fun e w'=>∃ n w1,e=.returned (.int .i64 n)∧(Q n w1∧w1.heap[w.heap.size]? = some (.cells #[.int .i64 0] 32 (0,0)))∧w'=w1.setCell ⟨w.heap.size,0,none⟩ (.int .i64 n):=by
 have d:=eP;go_enter_defers Tryz.func28,Tryz.ntmps28
 go_wp2_with fail;refine h.mono ?_;rintro e w1 ⟨hb,(⟨rfl,hq⟩ | ⟨n,rfl,hq⟩)⟩
 ·have hc:w1.cell? ⟨w.heap.size,0,none⟩=some (.int .i64 0):=by simp [World.cell?,hb]
  have hz:w1.frozen? ⟨w.heap.size,0,none⟩=false:=by simp [World.frozen?,hb]
  clear h;go_wp2_with fail;refine leaves_cons (f:=60) (args:=#[.pointer (some ⟨w.heap.size,0,none⟩)]) (by simp) (by simp [go_sem]) ?_;refine (nD ⟨w.heap.size,0,none⟩ _).mono ?_;rintro e u' c ⟨rfl,rfl,rfl⟩;have a:(w1.setCell ⟨w.heap.size,0,none⟩ (.int .i64 0)).cell? ⟨w.heap.size,0,none⟩=some (.int .i64 0):=World.cell?_setCell_same' _ _ _ (by rw [hc];rfl);simp [Leaves,settle,results,Tryz.results28,go_sem,a];exact ⟨_,⟨hq,hb⟩,rfl⟩
 ·have hc:w1.cell? ⟨w.heap.size,0,none⟩=some (.int .i64 0):=by simp [World.cell?,hb]
  have hz:w1.frozen? ⟨w.heap.size,0,none⟩=false:=by simp [World.frozen?,hb]
  clear h;refine leaves_cons (f:=60) (args:=#[.pointer (some ⟨w.heap.size,0,none⟩)]) (by simp) (by simp [go_sem]) ?_;refine (vK ⟨w.heap.size,0,none⟩ 0 n [] _ hc hz).mono ?_;rintro e u' c ⟨rfl,rfl,rfl⟩;have a:(w1.setCell ⟨w.heap.size,0,none⟩ (.int .i64 n)).cell? ⟨w.heap.size,0,none⟩=some (.int .i64 n):=World.cell?_setCell_same' _ _ _ (by rw [hc];rfl);simp [Leaves,settle,results,Tryz.results28,go_sem,a];exact ⟨_,⟨hq,hb⟩,rfl⟩

theorem cW (n:Int) (w:World):Calls Tryz.prog 42 #[.bool false,.int .i64 n] w fun e w'=>e=.returned (.tuple #[])∧w'=w:=by
 go_enter Tryz.func42,Tryz.ntmps42;go_wp2;go_end0
 exact ⟨rfl,rfl⟩

theorem eN (n:Int) (w:World):Calls Tryz.prog 42 #[.bool true,.int .i64 n] w fun e w'=>e=.panicked [refusal n]∧w'=w:=by
 go_enter Tryz.func42,Tryz.ntmps42;go_wp2;exact ⟨rfl,rfl,rfl⟩

theorem lT (ao:Option Addr) (n a:Nat) (w:World):Calls Tryz.prog 31 #[.slice ao n a,.int .i64 0] w fun e w'=>e=.returned (.slice ao n a)∧w'=w:=by
 have hR:=cW 0 w;go_enter Tryz.func31,Tryz.ntmps31;go_wp2_with fail;refine hR.mono ?_;rintro e w' ⟨rfl,rfl⟩;go_wp2;go_ret;exact ⟨rfl,rfl⟩

theorem vR (ao bo:Option Addr) (n ac K l bc:Nat) (w:World):Calls Tryz.prog 33 #[.agg #[.slice ao n ac,.int .u64 (K:Nat),.slice bo l bc],.int .i64 0] w fun e w'=>e=.returned (.agg #[.slice ao n ac,.int .u64 (K:Nat),.slice bo l bc])∧Kept af w w':=by
 have hR:=cW 0;obtain ⟨W,hW⟩:∃ W,W=(w.alloc (.cells #[.slice ao n ac,.int .u64 (K:Nat),.slice bo l bc] 70)).alloc (.cells #[.slice none 0 0,.int .u64 0,.slice none 0 0] 70):=⟨_,rfl⟩
 have k0:Kept af w W:=by rw [hW];exact ((ah af w).alloc _).alloc _
 have b1:W.heap[w.heap.size]? = some (.cells #[.slice ao n ac,.int .u64 (K:Nat),.slice bo l bc] 70 (0,0)):=by rw [hW];exact am (heap_alloc_new _ _)
 have b2:W.heap[w.heap.size+1]? = some (.cells #[.slice none 0 0,.int .u64 0,.slice none 0 0] 70 (0,0)):=by
  rw [hW];have:=heap_alloc_new (w.alloc (.cells #[.slice ao n ac,.int .u64 (K:Nat),.slice bo l bc] 70)) (.cells #[.slice none 0 0,.int .u64 0,.slice none 0 0] 70)
  rwa [World.size_alloc] at this
 obtain ⟨c0,c1,c2⟩:=aw b1;obtain ⟨f0,f1,f2⟩:=iG b2;obtain ⟨d0,d1,d2⟩:=aw (tf b2 (.slice ao n ac) (.int .u64 (K:Nat)) (.slice bo l bc));obtain ⟨g0,g1,g2⟩:=aw b2;have a:=aa (k0.next (kH W (w.heap.size+1) (.slice ao n ac) (.int .u64 (K:Nat)) (.slice bo l bc)) (fun x hx e=>by omega));have HW:=aa hW;clear hW k0 b1 b2;go_enter Tryz.func33,Tryz.ntmps33;go_wp2_with (rw [← HW.out]);refine (hR W).mono ?_;rintro e w1 ⟨rfl,rfl⟩;clear hR;go_wp2_with fail;exact bodyPost_ret (v:=.agg #[.slice ao n ac,.int .u64 (K:Nat),.slice bo l bc]) (by simp [results,Tryz.results33,go_sem,d0,d1,d2]) rfl ⟨rfl,a.out⟩

theorem A6 (v:Value) (xs:List Nat) (n:Nat) (w:World) (h:Row .u64 w v xs) (hd:Digs xs) (hn:n≤1000000) :
  Calls Tryz.prog 83 #[v,.int .i64 (n:Nat)] w fun e w'=>e=.returned (.slice (some ⟨w.heap.size,0,none⟩) n n)∧OwnN .u64 24 w' w.heap.size (.slice (some ⟨w.heap.size,0,none⟩) n n) n (digs (val xs) n)∧Kept af w w':=by
 obtain ⟨i0,i,r,k,s⟩:=info_parts Tryz.info24;obtain ⟨ao,q,o,rfl,hL,_,_,_,_⟩:=h.open;have HD:=aa (jz hd n);have HS:Hid (∀ W,Kept af w W→0<((xs.take n).map fun z:Nat=>Value.int .u64 (z:Int)).length→∃ ad,ao=some ad∧∀ j u,((xs.take n).map fun z:Nat=>Value.int .u64 (z:Int))[j]? = some u→W.cell? (ad.add j)=some u):=fun W hk hp=>by
  obtain ⟨ad,e,hs⟩:=h.source hk (by rw [List.length_map,List.length_take] at hp;rw [List.length_map];omega);refine ⟨ad,e,fun j u hj=>hs j u ?_⟩;rw [List.map_take,List.getElem?_take] at hj
  split at hj
  ·exact hj
  ·cases hj
 have HO:=aa (fz .u64 (xs.take n));have b:Hid (((xs.take n).map fun z:Nat=>Value.int .u64 (z:Int)).length=Nat.min q n):=by
  unfold Hid;rw [List.length_map,List.length_take,hL.out];exact Nat.min_comm n q
 obtain ⟨CS,c⟩:∃ CS,CS=(xs.take n).map (fun z:Nat=>Value.int .u64 (z:Int)):=⟨_,rfl⟩
 rw [← c] at HS HO b;have m:Hid (CS=(xs.take n).map (fun z:Nat=>Value.int .u64 (z:Int))):=c;have t:Nat.min q n≤n:=Nat.min_le_right _ _;clear c h hd;go_enter Tryz.func83,Tryz.ntmps83
 go_wp2_with (at_make;refine wpList_make_full _ rfl _ _ 23 rfl w.heap.size 24 i0 _ 1 Tryz.underlying23 i r k _ _ _ _ n rfl rfl rfl rfl (by rw [s];omega) (by unfold maxLen;omega) (leR _) ?_;intro w1 d g;rw [aG] at d;have k1:=aC g;obtain ⟨w2,p,f,k2⟩:=cH (P:=Tryz.prog) 23 23 3 24 w.heap.size 0 n n (some ⟨w.heap.size,0,none⟩) ao q o _ 24 CS Tryz.underlying23 (by rw [i];simp [k]) (dZ d) b.out (fun hp=>⟨rfl,HS.out _ k1 hp⟩) (by have:=b.out;simp;omega) HO.out;have l:Hid _:=f;clear f d g);go_ret;have a:=l.out;rw [m.out,dC] at a;rw [HD.out] at a;have kk:=dJ k1 k2 (leR _)
 exact ⟨rfl,bJ a (by rw [ag]) (by unfold maxLen;omega) (leR _),kk⟩

theorem rg (X k:Nat):dig X (k/8)/2^(8*(k%8))%256=dig X k 256:=by
 unfold dig;have e:(18446744073709551616:Nat)^(k/8)=256^(8*(k/8)):=by rw [Nat.pow_mul]
 have e0:(2:Nat)^(8*(k%8))=256^(k%8):=by rw [Nat.pow_mul]
 have e3:(256:Nat)^k=256^(8*(k/8))*256^(k%8):=by rw [← Nat.pow_add];congr 1;omega
 rw [e,e0,e3,← Nat.div_div_eq_div_mul];generalize X/256^(8*(k/8))=x;have h:k%8=0∨k%8=1∨k%8=2∨k%8=3∨k%8=4∨k%8=5∨k%8=6∨k%8=7:=by omega
 rcases h with h | h | h | h | h | h | h | h <;> rw [h] <;> omega

theorem mu (V n:Nat):∀ i j,j<i→(bes V n i)[j]? = some (dig V (n-1-j) 256)
 | 0,j,h=>by omega
 | i+1,j,h=>by
  unfold bes;by_cases e:j<i
  ·rw [List.getElem?_append_left (by rw [bw];exact e)];exact mu V n i j e
  ·obtain rfl:j=i:=by omega
   rw [List.getElem?_append_right (by rw [bw];omega),bw,Nat.sub_self];rfl

def byk (X z k:Nat):List Nat:=List.replicate (z-k) 0 ++ (bes X z z).drop (z-k)

theorem uy {X z k:Nat} (h:k<z):(byk X z k).set (z-1-k) (dig X k 256)=byk X z (k+1):=by
 refine List.ext_getElem? fun j=>?_
 unfold byk;rw [List.getElem?_set,List.length_append,List.length_replicate,List.length_drop,bw];by_cases h1:z-1-k=j
 ·rw [if_pos h1,if_pos (by omega),List.getElem?_append_right (by rw [List.length_replicate];omega),List.length_replicate,List.getElem?_drop,mu _ _ _ _ (by omega),show z-1-(z-(k+1)+(j-(z-(k+1))))=k by omega]
 ·rw [if_neg h1];by_cases h2:j<z-(k+1)
  ·rw [List.getElem?_append_left (by rw [List.length_replicate];omega),List.getElem?_append_left (by rw [List.length_replicate];omega),List.getElem?_replicate,List.getElem?_replicate,if_pos (by omega),if_pos (by omega)]
  ·rw [List.getElem?_append_right (by rw [List.length_replicate];omega),List.getElem?_append_right (by rw [List.length_replicate];omega),List.length_replicate,List.length_replicate,List.getElem?_drop,List.getElem?_drop]
   congr 1
   omega

theorem yz {X z k:Nat} (h:k<z):(byk X z k)[z-1-k]? = some 0:=by
 unfold byk;rw [List.getElem?_append_left (by rw [List.length_replicate];omega),List.getElem?_replicate,if_pos (by omega)]

theorem A5 (xo:Option Addr) (n xc X z:Nat) (w:World) (h:Row .u64 w (.slice xo n xc) (digs X n)) (hz:z≤8*n) (hn:n≤100000) :
  Calls Tryz.prog 35 #[.slice xo n xc,.int .i64 (z:Nat)] w fun e w'=>∃ vo vn vc,e=.returned (.slice vo vn vc)∧Row .u8 w' (.slice vo vn vc) (bes X z z)∧Fresh w (.slice vo vn vc)∧Kept af w w':=by
 obtain ⟨i0,o,r,s,t⟩:=info_parts Tryz.info5;have HX:=aa h;have hm:max (z:Int) 0=(z:Int):=by omega
 clear h;go_enter Tryz.func35,Tryz.ntmps35;go_wp2_with (at_make;refine wpList_make_full _ rfl _ _ 27 rfl w.heap.size 5 i0 _ 1 Tryz.underlying27 o r s _ _ _ _ z rfl rfl rfl rfl (by rw [t];omega) (by unfold maxLen;omega) (leR _) ?_;intro w1 f l);rw [aG] at f;have k1:=aC l;go_loopw [11] (fun i wr=>∃ k:Nat,k≤z∧i=.int .i64 k∧OwnN .u8 5 wr w.heap.size (.slice (some ⟨w.heap.size,0,none⟩) z z) z (byk X z k)∧Kept af w wr) (fun i _=>z-(intOf i).toNat)
 case atStart=>exact ⟨0,Nat.zero_le _,rfl,by rw [show byk X z 0=List.replicate z 0 by unfold byk;rw [Nat.sub_zero,List.drop_of_length_le (by rw [bw];omega),List.append_nil]];exact f,k1⟩
 case round=>
  clear f l k1;obtain ⟨k,hk,rfl,ho,c⟩:=hrel;by_cases hkn:k<z
  ·have p:(k:Int)<(z:Int):=by omega
   obtain ⟨j,hj⟩:∃ j,j=z-1-k:=⟨_,rfl⟩
   have hJ:(z:Int)-1-(k:Int)=(j:Int):=by omega
   have y:j<z:=by omega
   have hc:wr.cell? ⟨w.heap.size,j,none⟩=some (.int .u8 0):=by
    rw [World.ownsRow.cellAt ho j (by omega),List.getElem?_map,hj,yz hkn];rfl
   have hf:=World.ownsRow.frozenAt ho j;have q:=fun u=>(World.ownsRow.stored ho j u).1
   have HF:Hid ((byk X z k).set j (dig X k 256)=byk X z (k+1)):=by unfold Hid;rw [hj];exact uy hkn
   obtain ⟨_,_,_,e1,_,_,_,_,a⟩:=(HX.out.grew c).open;cases e1
   obtain ⟨b,off,rfl,v⟩:=cD (a (k/8) (by omega)) (by omega);have x:dig X (k/8)<18446744073709551616:=Nat.mod_lt _ (by omega);have g:=rg X k;have g1:(k:Int)/8<(n:Int):=by omega
   have g2:(0:Int)≤(k:Int)/8:=by omega
   have g3:((k:Int)/8).toNat=k/8:=by omega
   clear a hj;generalize dig X (k/8)=d at *;have e1:(d:Int)/2^(8*(k%8))=((d/2^(8*(k%8)):Nat):Int):=by simp
   have HB:Hid ((d:Int)/2^(8*(k%8))%256=((dig X k 256:Nat):Int)):=by unfold Hid;rw [e1,← g];omega
   clear e1 g;go_wp2_with fail;rw [HB.out];go_roundw
   case rel=>
    refine ⟨k+1,by omega,by go_num,?_,c.setCell _ (fun h=>by simp at h) _⟩;unfold OwnN;rw [← HF.out,List.map_set];exact q _
   case measure=>simp [intOf];omega
  ·have p:¬ (k:Int)<(z:Int):=by omega
   have e:k=z:=by omega
   subst e;go_wp2;go_ret;have hb:byk X k k=bes X k k:=by unfold byk;simp
   refine ⟨_,_,_,rfl,Row.of_own (base:=w.heap.size) (e:=5) (by rw [bw,← hb];exact ho),?_,c⟩;intro b m;simp [Value.ownBlock] at m;omega

structure Md (w:World) (o:Tr) (ao bo:Option Addr) (n K mcap rcap V:Nat):Prop where
 m8:Mod8 w o ao bo n n K mcap rcap (fu V) (fW V)
 ev:val (fu V)=V

theorem Md.grew {w w':World} {o:Tr} {ao bo:Option Addr} {n K a b V:Nat} (h:Md w o ao bo n K a b V) (k:Kept af w w'):Md w' o ao bo n K a b V:=⟨h.m8.grew k,h.ev⟩

theorem Md.facts {w:World} {o:Tr} {ao bo:Option Addr} {n K a b V:Nat} (h:Md w o ao bo n K a b V):0<n∧n≤130∧2≤V∧V<18446744073709551616^n:=by
 obtain ⟨⟨f0,f1⟩,-,f3,f4,f5⟩:=h.m8.facts;rw [h.ev] at f4 f5;exact ⟨f0,f1,f4,f5⟩

theorem xB {w:World} {o:Tr} {v:Value} {n X:Nat} (h:U64s w v) (ht:TrIn w o) (hr:Row .u64 w v (digs X n)) (hX:X<18446744073709551616^n):NumT w o v n X:=⟨h.rowT hr ht,hX⟩

theorem yk (o:Tr) (xo:Option Addr) (L f:Nat) (xs:List Nat) (V n:Nat) (w:World) (ht:TrIn w o) (hx:Row .u64 w (.slice xo L f) xs) (hd:Digs xs) (hL:L≤1000000) (hV:V=val xs) (hE:cZ V=0) (hn:n=aj V) :
  Calls Tryz.prog 34 #[.slice xo L f] w fun e w'=>∃ ao bo K c d,e=.returned (.tuple #[.agg #[.slice ao n c,.int .u64 (K:Nat),.slice bo n d],.int .i64 0])∧Md w' o ao bo n K c d V∧(Fresh w (.slice ao n c)∧Fresh w (.slice bo n d))∧Kept af w w':=by
 refine (lJ xo L f xs V 0 hV hE.symm w hx hd hL).mono ?_;rintro e w' ⟨a,K,b,rfl,ra,rb,hK,⟨fa,fb⟩,k⟩;obtain ⟨i,j,l,m,p,q⟩:=jS hE hK;obtain ⟨ao,an,c,rfl,g,-⟩:=ra.open;obtain ⟨bo,bn,d,rfl,h,-⟩:=rb.open;obtain rfl:n=an:=by rw [← g.out,j,hn]
 obtain rfl:n=bn:=by rw [← h.out,l,hn]
 exact ⟨ao,bo,K,c,d,rfl,⟨⟨jB fa ht ra,jB fb ht rb,p,q,hK.1,i⟩,m⟩,⟨fa,fb⟩,k⟩

theorem mG (L M:Nat):(cP L M).length≤60000:=by
 unfold cP
 split
 ·rw [fJ];omega
 ·simp

theorem BU (o:Tr) (ao bo xo:Option Addr) (n K a b N1 xc X V:Nat) (w:World) (ht:TrRoom w o 60000) (hM:Md w o ao bo n K a b V) (hx:NumT w o (.slice xo N1 xc) N1 X) (hN:N1≤300) :
  Calls Tryz.prog 141 #[aB o,.agg #[.slice ao n a,.int .u64 (K:Nat),.slice bo n b],.slice xo N1 xc] w fun e w'=>∃ zo zc o',e=.returned (.tuple #[.slice zo n zc,.int .i64 0])∧NumT w' o' (.slice zo n zc) n (X%V)∧Did w o (cP N1 n) w' o':=by
 obtain ⟨f0,f1,f4,f5⟩:=hM.facts;refine (Bu o ao bo xo n n K a b N1 xc _ _ _ w ht hM.m8.hm hM.m8.hr hx.1 hM.m8.hmd hM.m8.hrd (ai (by omega) _ _) hM.m8.hK (by omega)).mono ?_;rintro e w' ⟨v',c,rfl,zs,m,o',hr,hl,d,hp,-⟩;obtain ⟨g1,-,g3⟩:=dI (X:=X) (Y:=V) (L:=N1) (M:=n) ⟨hN,by omega⟩ (by omega);rw [hM.ev,bi hx.2,g1,g3] at hp;obtain ⟨⟨rfl,rfl⟩,rfl⟩:=hp hM.m8.ok;rw [List.replicate_zero,List.nil_append] at d;have hT:=(d.room (k:=0) (ht.less (by have h:=mG N1 n;omega))).1;have hN:NumT w' o' v' n (X%V):=xB (hl rfl).2 hT hr (Nat.lt_trans (Nat.mod_lt _ (by omega)) f5);obtain ⟨zo,zc,rfl⟩:=hN.shape;exact ⟨zo,zc,o',rfl,hN,d⟩

theorem BL (ao bo xo:Option Addr) (n K a b xc X V:Nat) (w:World) (hM:Md w none ao bo n K a b V) (hx:Row .u64 w (.slice xo n xc) (digs X n)) (hX:X<V) :
  Calls Tryz.prog 82 #[.pointer none,.agg #[.slice ao n a,.int .u64 (K:Nat),.slice bo n b],.slice xo n xc] w fun e w'=>∃ zo zn zc is,e=.returned (.tuple #[.slice zo zn zc,.int .u64 (is:Nat),.int .i64 0])∧(is=if Nat.gcd X V=1 then 1 else 0)∧Kept af w w':=by
 obtain ⟨f0,f1,f4,f5⟩:=hM.facts;have f:NumT w none (.slice xo n xc) n X:=⟨RowT.none hx,Nat.lt_trans hX f5⟩
 refine (iOf none ao bo xo n n K a b n xc _ _ _ w (TrRoom.none w _ (by omega)) hM.m8.hm hM.m8.hr f.1 hM.m8.hmd hM.m8.hrd (ai (by omega) _ _) hM.m8.hK (by omega) (.inr rfl)).mono ?_;rintro e w' ⟨v',is,c,rfl,zs,m,o',hr,hl,d,hp,-⟩;rw [hM.ev,bi f.2] at hp;obtain ⟨rfl,rfl,T,rfl,hi⟩:=hp ⟨hM.m8.ok,rfl,hX⟩;obtain ⟨zo,zn,zc,rfl,-⟩:=hr.open;refine ⟨zo,zn,zc,is,rfl,?_,d.none.2⟩;by_cases hg:Nat.gcd X V=1
 ·rw [if_pos hg];exact (hi.1 hg).2.2
 ·rw [if_neg hg];exact (hi.2 hg).2

end Go.Proofs.YtkaojflnghfmcaaGreatDoor
