/- Put together of: Iva4 Law6 Law10. -/
import Derived.Test.YtcemlfokmjjiaaaGreatDoorPf31

namespace Go.Proofs.YtcemlfokmjjiaaaGreatDoor
set_option maxRecDepth 100000
set_option maxHeartbeats 4000000
open Go.RowKit

def yq (n:Nat):Nat→List Ev
 | 0=>[]
 | k+1=>yq n k ++ kK n

def pk (n:Nat):List Ev:=yq n (stp n) ++ (List.replicate 3 (1,((n+1:Nat):Int),0) ++ (List.replicate 3 (1,(n:Int),0) ++ List.replicate 2 (1,(n:Int),0)))

structure BtwI (w0:World) (o0:Tr) (w:World) (o:Tr) (tp:Value) (n M a pb k N:Nat) (s:Int × Int × Int) (G:Prop) (uo vo fo go:Option Addr) (uc vc fc gc U V:Nat):Prop where
 wrt:Wr w0 o0 (yq n k) w o tp (12*(N-k)+20)
 box:w.heap[pb]? = some (.cells #[.slice uo n uc,.slice vo n vc,.slice fo (n+1) fc,.slice go (n+1) gc,.int .u64 (tcN 18446744073709551616 (dX s k).1:Nat)] 194 (0,0))
 nu:NumN w o (.slice uo n uc) n U
 nv:NumN w o (.slice vo n vc) n V
 nf:NumN w o (.slice fo (n+1) fc) (n+1) (tcN (18446744073709551616^(n+1)) (dX s k).2.1)
 ng:NumN w o (.slice go (n+1) gc) (n+1) (tcN (18446744073709551616^(n+1)) (dX s k).2.2)
 co:G→CoOk M a U V (dX s k)

theorem TrIn.put {w w':World} {o:Tr} {p:Nat} (h:TrIn w o) (k:Kept (fun b=>b=p) w w') (hf:¬ dx o p):TrIn w' o:=by
 rcases o with _ | ⟨q,g,l⟩
 ·trivial
 ·exact ⟨h.1.kept k (fun e=>hf (.inl e.symm)) (fun x hx e=>hf (.inr (by rw [← e];exact hx))),h.2⟩

theorem xt {B:Nat} {F:Int}:aP (sgN F) (tcN B (-F)) (tcN B F)=F.natAbs:=by
 unfold aP sgN tcN;by_cases h:F<0
 ·rw [if_pos h,if_pos (by decide),if_neg (by omega)];omega
 ·rw [if_neg h,if_neg (by decide),if_neg h];omega

theorem yx {n:Nat} {F:Int} (hF:-((18446744073709551616^n:Nat):Int)<F∧F<((18446744073709551616^n:Nat):Int)):cS 0 (tcN (18446744073709551616^(n+1)) F) (n+1)=tcN (18446744073709551616^(n+1)) (-F):=by
 unfold cS;rw [← B64];exact AA hF (by rw [Nat.pow_succ];omega)

theorem yz {n M A U V D is Z Y:Nat} {s:Int × Int × Int} (k:0<n) (hn:n≤130) (hM:M<18446744073709551616^n) (f:M%2=1) (h2:2≤M) (hA:A<M) (hs:s=dX (1,(M:Int),(A:Int)) (stp n)) (i:CoOk M A U V s) (hD:D=s.2.1.natAbs) (e:is=bi (decide (D=1))) (hZ:Z=aP (sgN s.2.1) (fj 0 U M) U) (hY:Y=aP is Z 0) :
  (Nat.gcd A M=1→Y<M∧A*Y%M=1∧is=1)∧(Nat.gcd A M≠1→Y=0∧is=0):=by
 rw [B64] at hM;have he:=(sj (M:=M) (a:=A) (n:=n) k hn f (by omega) hM).2;rw [← hs,← hD] at he;rw [Nat.gcd_comm,← he];constructor
 ·intro h1;rw [h1,aT rfl] at e;have c:is=1:=e;have hf:=xC (d:=s.1) (F:=s.2.1) (G:=s.2.2) i h2 (by omega);have j:Z=if s.2.1<0 then fj 0 U M else U:=by
   rw [hZ];unfold aP sgN;by_cases h:s.2.1<0
   ·rw [if_pos h,if_pos h];rfl
   ·rw [if_neg h,if_neg h];rfl
  rw [← j] at hf;have g:Y=Z:=by rw [hY,c];rfl
  rw [g];exact ⟨hf.1,hf.2,c⟩
 ·intro h1;rw [aC h1] at e;have b:is=0:=e;exact ⟨by rw [hY,b];rfl,b⟩

theorem nL {w0:World} {o0:Tr} {m:List Ev} {tp:Value} {k:Nat} (a n:Nat) (u v:Value) (xs ys:List Nat) {w:World} {o:Tr} (s:Wr w0 o0 m w o tp (k+1)) (hb:a≤1) (hu:RowT w o u xs) (hv:RowT w o v ys) (b:Digs xs) (c:Digs ys) (hl:max xs.length ys.length=n) (hn:n≤1000) :
  Calls Tryz.prog 187 #[tp,.int .u64 (a:Nat),u,v] w fun e w'=>∃ (v':Value),e=.returned v'∧∃ (Z:Nat) (o':Tr),Hid (Z=aP a (val xs) (val ys))∧NumN w' o' v' n Z∧Fresh w v'∧Did w o [(1,(n:Int),0)] w' o'∧Wr w0 o0 (m ++ [(1,(n:Int),0)]) w' o' tp k:=by
 have h:=qf o a (by omega) u v xs ys w (s.room.less (by omega)) hu hv b c (by omega) (by omega);rw [s.ptr,hl] at h;refine h.mono ?_;rintro e w' ⟨v',rfl,ho,o',d⟩;exact ⟨v',rfl,_,o',rfl,NumN.own ho (mi (bV b (by omega)) (bV c (by omega))) (d.room (k:=0) (s.room.less (by simp))).1,Fresh.own ho (leR _),d,s.next d (by simp;omega)⟩

theorem vS {w0:World} {o0:Tr} {m:List Ev} {tp:Value} {k:Nat} (n X:Nat) (u v:Value) {w:World} {o:Tr} (s:Wr w0 o0 m w o tp (k+1)) (hu:NumT w o u n X) (hv:RowT w o v [1]) (a:0<n) (hn:n≤1000) :
  Calls Tryz.prog 188 #[tp,u,v] w fun e w'=>∃ c:Nat,e=.returned (.int .u64 (c:Nat))∧∃ (o':Tr),Hid (c=bi (decide (X=1)))∧c≤1∧Did w o [(1,(n:Int),0)] w' o'∧Wr w0 o0 (m ++ [(1,(n:Int),0)]) w' o' tp k:=by
 have h:=my o u v _ [1] w (s.room.less (by omega)) hu.1 hv (ah (by omega) _ _) (Digs.one (by omega)) (by rw [ag];omega) (by simp);rw [s.ptr,ag,bJ hu.2,show ([1]:List Nat).length=1 from rfl,show max n 1=n by omega,show val [1]=1 from rfl] at h;refine h.mono ?_;rintro e w' ⟨rfl,o',d⟩;exact ⟨_,rfl,o',rfl,oA _,d,s.next d (by simp;omega)⟩

theorem Cu (o:Tr) (ao bo xo:Option Addr) (n l K a c xc A:Nat) (ms rs:List Nat) (w:World) (ht:TrRoom w o (12*stp n+30)) (hm:RowT w o (.slice ao n a) ms) (hr:RowT w o (.slice bo l c) rs) (hx:NumT w o (.slice xo n xc) n A) (a8:Digs ms) (br:Digs rs) (hK:K<18446744073709551616) (aq:0<n) (hn:n≤130) (bI:okMod ms K rs∨o=none) :
  Calls Tryz.prog 145 #[aE o,.agg #[.slice ao n a,.int .u64 (K:Nat),.slice bo l c],.slice xo n xc] w fun e w'=>∃ (v':Value) (is:Nat),e=.returned (.tuple #[v',.int .u64 (is:Nat)])∧∃ (Y:Nat) (m:List Ev) (o':Tr),NumN w' o' v' n Y∧Fresh w v'∧Did w o m w' o'∧(okMod ms K rs→m=pk n∧(A<val ms→(Nat.gcd A (val ms)=1→Y<val ms∧A*Y%val ms=1∧is=1)∧(Nat.gcd A (val ms)≠1→Y=0∧is=0))):=by
 obtain ⟨po,a7⟩:=aI o;obtain ⟨_,_,_,e1,bk,_,_,_,_⟩:=hm.1.open;cases e1
 obtain ⟨M,hM⟩:∃ M,M=val ms:=⟨_,rfl⟩
 have an:NumT w o (.slice ao n a) n M:=by rw [hM];exact NumT.of hm a8 bk.out
 obtain ⟨W,hW⟩:∃ W,W=w.alloc (.cells #[.slice ao n a,.int .u64 (K:Nat),.slice bo l c] 130):=⟨_,rfl⟩
 have k0:Kept af w W:=by rw [hW];exact (ai af w).alloc _
 have b1:W.heap[w.heap.size]? = some (.cells #[.slice ao n a,.int .u64 (K:Nat),.slice bo l c] 130 (0,0)):=by rw [hW];exact heap_alloc_new _ _
 have hB:=CK n M A ao bo xo a l K c xc W o (ht.1.grew k0) (an.grew k0) (hx.grew k0) aq hn;have am:=fun W'=>zF (64*(n:Int)) W'
 rw [ry aq hn] at am;have bF:IntKind.i64.wrap (64*(n:Int))=64*(n:Int):=by simp [IntKind.wrap,IntKind.bits,IntKind.signed];omega
 have HW:=aa hW;have bh:=aa k0;have HT:=aa ht;have a5:=aa b1;obtain ⟨c0,c1,c2⟩:=ax b1;obtain ⟨N,hN⟩:∃ N,N=stp n:=⟨_,rfl⟩
 have bM:N≤30000:=by rw [hN];unfold stp;omega
 rw [← hN] at am HT;have HN:=aa hN;rw [a7];clear hW k0 ht b1 hN;go_enter Tryz.func145,Tryz.ntmps145;go_wp2_with (rw [← HW.out]);refine hB.mono ?_;rintro e w1 ⟨uo,uc,vo,vc,fo,fc,go,gc,rfl,nu,nv,nf,ng,k1⟩;clear hB c0 c1 c2;go_wp2_with fail;refine (am _).mono ?_;rintro e w2 ⟨rfl,aG⟩;have b2:w2.heap[w1.heap.size]? = some (.cells #[.slice uo n uc,.slice vo n vc,.slice fo (n+1) fc,.slice go (n+1) gc,.int .u64 1] 194 (0,0)):=by rw [aG];exact heap_alloc_new _ _
 have k2:Kept af w1 w2:=by rw [aG];exact (ai af w1).alloc _
 have C:=bh.out.trans k1;have ap:=HT.out.grew C;have bH:=aa (hm.grew C);have aF:=aa (an.grew C);have bn:=aa (hr.grew C);have aM:=(k1.block _ (lt_of_block a5.out) (fun f=>f)).trans a5.out;have JC:Hid (∀ W' m' o',Did w1 o m' W' o'→W'.heap[w.heap.size]? = some (.cells #[.slice ao n a,.int .u64 (K:Nat),.slice bo l c] 130 (0,0))):=fun W' m' o' d=>d.cells aM ap.1 (by decide) (by decide)
 have bA:w.heap.size≠w1.heap.size:=by have:=lt_of_block aM;omega
 obtain ⟨s0,v⟩:∃ s0:Int × Int × Int,s0=(1,(M:Int),(A:Int)):=⟨_,rfl⟩
 have aj:StIn (18446744073709551616^n) 0 s0:=by
  have h1:=an.2;have h2:=hx.2;rw [v];unfold StIn;dsimp only;generalize 18446744073709551616^n=Q at *;omega
 have bc:=aa (StIn.all aj);have aP:Hid (okMod ms K rs→CoOk M A 0 1 s0):=fun h=>by
  have:=eF h.1;rw [← hM] at this;rw [v];refine ⟨by omega,by omega,?_,?_⟩
  ·exact ⟨-1,by dsimp only;omega⟩
  ·exact ⟨0,by dsimp only;omega⟩
 have J:Hid (okMod ms K rs→M<18446744073709551616^n∧M%2=1∧∀ k,(dX s0 k).2.1%2=1):=fun h=>by
  have:=eF h.1;rw [← hM] at this;refine ⟨an.2,by omega,fun k=>(lG (s:=s0) (by rw [v];dsimp only;omega) k).1⟩
 have q:BtwI w1 o w2 o (.pointer po) n M A w1.heap.size 0 N s0 (okMod ms K rs) uo vo fo go uc vc fc gc 0 1:=by
  refine ⟨⟨Did.of_kept k2 ap.1,(ap.less (by omega)).grew k2,a7⟩,?_,nu.grew k2,nv.grew k2,?_,?_,aP.out⟩
  ·rw [v];exact b2
  ·rw [v];have:=nf.grew k2;rw [← tm (18446744073709551616^(n+1)) M] at this;exact this
  ·rw [v];have:=ng.grew k2;rw [← tm (18446744073709551616^(n+1)) A] at this;exact this
 have x:=aa q;have bj:=aa v;have bf:=aa C;clear am aG b2 k2 C ap aM aj q nu nv nf ng k1 v;go_wp2_with fail;go_loopw [24] (fun i wr=>∃ (k:Nat) (o1:Tr) (uo vo fo go:Option Addr) (uc vc fc gc U V:Nat),k≤N∧i=.int .i64 (k:Int)∧Hid (BtwI w1 o wr o1 (.pointer po) n M A w1.heap.size k N s0 (okMod ms K rs) uo vo fo go uc vc fc gc U V)) (fun i _=>N-(intOf i).toNat)
 case atStart=>exact ⟨0,o,uo,vo,fo,go,uc,vc,fc,gc,0,1,by omega,rfl,x.out⟩
 case round=>
  clear x;obtain ⟨k,o1,uo,vo,fo,go,uc,vc,fc,gc,U,V,hk,rfl,HB⟩:=hrel;by_cases hkn:k<N
  ·have g1:(k:Int)<(N:Int):=by omega
   obtain ⟨c0,c1,c2⟩:=ax (JC.out wr _ o1 HB.out.wrt.did);obtain ⟨p0,p1,p2,p3,p4⟩:=dM HB.out.box;have hS:=Bk n M U V k A (dX s0 k).1 (dX s0 k).2.1 (dX s0 k).2.2 uo vo fo go ao bo uc vc fc gc a l K c (k:=12*(N-(k+1))+20) (HB.out.wrt.less (by omega)) (bc.out k) (by omega) (aF.out.did HB.out.wrt.did) HB.out.nu.1 HB.out.nv.1 HB.out.nf.1 HB.out.ng.1 aq (by omega);have aV:dst ((dX s0 k).1,(dX s0 k).2.1,(dX s0 k).2.2)=dX s0 (k+1):=rfl;rw [aV] at hS;have a3:=aa HB.out.co;have TI:=aa HB.out.wrt.room.1;have av:=aa HB.out.box;obtain ⟨T1,az⟩:∃ T1,T1=tcN 18446744073709551616 (dX s0 k).1:=⟨_,rfl⟩
   rw [← az] at hS p4;have bG:=aa az;clear aV az HB;go_wp2_with fail;refine hS.mono ?_;rintro e w5 ⟨u',v',f',g',rfl,U',V',o5,q5,aO,aS,aQ,aJ,d5,s5⟩;obtain ⟨ab,I,rfl⟩:=aO.1.shape;obtain ⟨P,ac,rfl⟩:=aS.1.shape;obtain ⟨T,ae,rfl⟩:=aQ.1.shape;obtain ⟨H,L,rfl⟩:=aJ.1.shape;have p:=d5.cells av.out TI.out (by decide) (by decide);rw [← bG.out] at p;obtain ⟨f0,f1,f2,f3,f4⟩:=mg p;obtain ⟨g0,bS,g2,g3,g4⟩:=dM p;obtain ⟨T2,aw⟩:∃ T2,T2=tcN 18446744073709551616 (dX s0 (k+1)).1:=⟨_,rfl⟩
   rw [← aw];have aZ:=zE p (.slice ab n I) (.slice P n ac) (.slice T (n+1) ae) (.slice H (n+1) L) (.int .u64 (T2:Int));have kp:=tf w5 w1.heap.size (.slice ab n I) (.slice P n ac) (.slice T (n+1) ae) (.slice H (n+1) L) (.int .u64 (T2:Int));have ar:=ay p s5.room.1 (by decide) (by decide);have bs:=s5.room
   have aB:Hid (BtwI w1 o (((((w5.setCell ⟨w1.heap.size,0,none⟩ (.slice ab n I)).setCell ⟨w1.heap.size,1,none⟩ (.slice P n ac)).setCell ⟨w1.heap.size,2,none⟩ (.slice T (n+1) ae)).setCell ⟨w1.heap.size,3,none⟩ (.slice H (n+1) L)).setCell ⟨w1.heap.size,4,none⟩ (.int .u64 (T2:Int))) o5 (.pointer po) n M A w1.heap.size (k+1) N s0 (okMod ms K rs) ab P T H I ac ae L U' V'):=by
    have dw:=s5.did.wroteNew kp (leR _) ar;refine ⟨⟨dw,⟨s5.room.1.put kp ar,s5.room.2⟩,s5.ptr⟩,?_,aO.put p (by decide) kp,aS.put p (by decide) kp,aQ.put p (by decide) kp,aJ.put p (by decide) kp,fun h=>?_⟩
    ·rw [← aw];exact aZ
    ·obtain ⟨i1,i2,i3⟩:=J.out h;exact q5.out i1 i2 (i3 k) (a3.out h)
   clear hS aO aS aQ aJ d5 s5 aZ kp ar bs aw q5 a3 c0 c1 c2 p0 p1 p2 p3 p4;go_wp2_with fail;go_roundw
   case rel=>exact ⟨k+1,o5,ab,P,T,H,I,ac,ae,L,U',V',by omega,by go_num,aB.out⟩
   case measure=>simp [intOf];omega
  ·have g1:¬ (k:Int)<(N:Int):=by omega
   obtain rfl:k=N:=by omega
   have hF:=bc.out k;obtain ⟨F,ak⟩:∃ F,F=(dX s0 k).2.1:=⟨_,rfl⟩
   have bb:-((18446744073709551616^n:Nat):Int)<F∧F<((18446744073709551616^n:Nat):Int):=by rw [ak];exact hF.2.1
   have bd:sgN F=tcN (18446744073709551616^(n+1)) F/(9223372036854775808*18446744073709551616^n):=(pT (Q:=18446744073709551616^n) (by omega) (by rw [Nat.pow_succ];omega) (by omega) (Nat.mul_pos (by omega) (Nat.pow_pos (by omega)))).symm;have B:sgN F≤1:=by unfold sgN;split <;> omega
   have nf:=HB.out.nf;rw [← ak] at nf;have aL:=zh n _ _ _ wr o1 nf.1 (by omega) bd;have s6:=HB.out.wrt;have h7:=Bm (n+1) _ _ (k:=19) (s6.less (by omega)) nf.1 (by omega);obtain ⟨c0,c1,c2⟩:=ax (JC.out wr _ o1 s6.did);obtain ⟨p0,p1,p2,p3,p4⟩:=dM HB.out.box;have bw:=aa nf;have aW:=aa ak;have bl:=aa bb;obtain ⟨sg,y⟩:∃ sg,sg=sgN F:=⟨_,rfl⟩
   rw [← y] at B aL;have aU:=aa y;have TI:=aa s6.room.1;have av:=aa HB.out.box;clear nf ak bb hF bd s6 y;go_wp2_with fail;refine aL.mono ?_;rintro e w6 ⟨rfl,rfl⟩;clear aL;go_wp2_with fail;refine h7.mono ?_;rintro e w7 ⟨v7,b7,rfl,Z7,o7,q7,n7,d7,s7⟩;have aD:=d7.cells av.out TI.out (by decide) (by decide);have bp:=JC.out w7 _ o7 s7.did;obtain ⟨P0,P1,P2,P3,P4⟩:=dM aD;have h8:=jA sg (n+1) Z7 _ v7 _ (k:=18) s7 B n7.1 (bw.out.1.did d7) (by omega);have T7:=aa s7.room.1;clear h7 n7 c0 c1 c2 p0 p1 p2 p3 p4 bp;go_wp2_with fail;refine h8.mono ?_;rintro e w8 ⟨v8,rfl,D,o8,q8,n8,d8,s8⟩;have aC:=d8.cells aD T7.out (by decide) (by decide)
   have T8:=aa s8.room.1;have kA:Kept af w8 (w8.alloc (.cells #[.int .u64 1] 23)):=(ai af w8).alloc _;have r1:Row .u64 (w8.alloc (.cells #[.int .u64 1] 23)) (.slice (some ⟨w8.heap.size,0,none⟩) 1 1) [1]:=Row.of_block (k:=.u64) (w:=w8.alloc (.cells #[.int .u64 1] 23)) (g:=w8.heap.size) (zs:=[1]) (t:=23) (heap_alloc_new _ _) rfl (by unfold maxLen;omega);have a4:RowT (w8.alloc (.cells #[.int .u64 1] 23)) o8 (.slice (some ⟨w8.heap.size,0,none⟩) 1 1) [1]:=⟨r1,fun _ b hb f=>by
    have e':w8.heap.size=b:=by simpa [Value.ownBlock] using hb
    have:=T8.out.foot b f;omega⟩
   have h9:=vS (n+1) D v8 _ (k:=17) (s8.grew kA) (n8.1.grew kA) a4 (by omega) (by omega);have ad:=(kA.block _ (lt_of_block aC) (fun f=>f)).trans aC;have D8:=aa ((d7.trans d8).grew kA);have bg:=aa (T8.out.grew kA);clear h8 n8 P0 P1 P2 P3 P4 r1 a4 kA d7 d8 aD;go_wp2_with fail;refine h9.mono ?_;rintro e w9 ⟨is,rfl,o9,q9,aT,d9,s9⟩;have aA:=d9.cells ad bg.out (by decide) (by decide);obtain ⟨c0,c1,c2⟩:=ax (JC.out w9 _ o9 s9.did);obtain ⟨P0,P1,P2,P3,P4⟩:=dM aA;have al:=HB.out.nu.1.did (D8.out.trans d9)
   have aH:=CJ o9 ao bo uo n l K a c n uc ms rs (digs U n) w9 (s9.room.less (by omega)) (bH.out.did s9.did) (bn.out.did s9.did) al.1 a8 br (ah (by omega) _ _) hK (by omega) (by omega);rw [s9.ptr,bJ al.2,← hM] at aH;have T9:=aa s9.room.1;clear h9 aC ad;go_wp2_with fail;refine aH.mono ?_;rintro e ba ⟨bq,bP,rfl,zs,a9,aN,a2,aY,E,R,O⟩;have r:okMod ms K rs→(okMod ms K rs∧True∧U<M):=fun h=>⟨h,trivial,(HB.out.co h).1⟩
   have au:Digs zs∧zs.length≤n∧(okMod ms K rs→zs=digs (fj 0 U M) n∧a9=List.replicate 3 (1,(n:Int),0))∧TrRoom ba aN 10:=by
    by_cases h:okMod ms K rs
    ·obtain ⟨⟨e1,_⟩,e2⟩:=R (r h);refine ⟨by rw [e1];exact ah (by omega) _ _,by rw [e1,ag];omega,fun _=>⟨e1,e2⟩,E.room ?_⟩;rw [e2];exact s9.room.less (by simp)
    ·have S:o=none:=bI.resolve_left h;obtain ⟨e1,_⟩:=O (fun hh=>h hh.1);have e9:o9=none:=by have:=s9.did;rw [S] at this;exact this.none.1
     have bK:aN=none:=by have:=E;rw [e9] at this;exact this.none.1
     refine ⟨by rw [e1];exact Digs.nil _,by rw [e1];simp,fun hh=>absurd hh h,by rw [bK];exact TrRoom.none _ _ (by omega)⟩
   obtain ⟨bD,bC,X,j⟩:=au;have HZ:=aa X;have bz:Wr w1 o (yq n k ++ [(1,((n+1:Nat):Int),0)] ++ [(1,((n+1:Nat):Int),0)] ++ [(1,((n+1:Nat):Int),0)] ++ a9) ba aN (.pointer po) 10:=⟨s9.did.trans E,j,E.ptr.trans s9.ptr⟩
   have G:=E.cells aA T9.out (by decide) (by decide);obtain ⟨Q0,Q1,Q2,Q3,Q4⟩:=dM G;have z:=al.did E;have be:=nL sg n bq _ zs (digs U n) (k:=9) bz B ((aY rfl).2.rowT a2 j.1) z.1 bD (ah (by omega) _ _) (by rw [ag];omega) (by omega);have HU:=aa z.2;clear aH P0 P1 P2 P3 P4 c0 c1 c2 aA G R O aY a2 X j bC al z r;go_wp2_with fail;refine be.mono ?_;rintro e bL ⟨bE,rfl,a0,bN,bm,aR,_,bR,a6⟩;have aK:=nL is n bE (.slice none 0 0) (digs a0 n) [] (k:=8) a6 aT aR.1.1 ⟨Row.nil _ _,fun h=>absurd rfl h⟩ (ah (by omega) _ _) (Digs.nil _) (by rw [ag];simp) (by omega)
   rw [bJ aR.1.2] at aK;have bB:=aa a6.did.size;clear be aR Q0 Q1 Q2 Q3 Q4;go_wp2_with fail;refine aK.mono ?_;rintro e bT ⟨bQ,rfl,Y,bu,bt,bv,bx,bO,bi⟩;clear aK;go_wp2_with fail;go_ret2;refine ⟨_,_,rfl,Y,_,bu,bv,?_,Did.after bf.out bi.did,fun r=>⟨?_,fun hA=>?_⟩⟩
   ·intro b hb;have h1:=bx b hb;have h2:=bB.out;have h3:=bf.out.size;omega
   ·rw [(HZ.out r).2];unfold pk;rw [← HN.out];simp [List.append_assoc,List.replicate]
   ·obtain ⟨i1,i2,i3⟩:=J.out r;have hE:=eF r.1;rw [← hM] at hE hA ⊢;have a1:=HB.out.co r;have hs:dX s0 k=dX (1,(M:Int),(A:Int)) (stp n):=by rw [bj.out,← HN.out]
    refine yz (D:=D) (is:=is) (Z:=a0) (s:=dX s0 k) aq hn i1 i2 hE.2.1 hA hs a1 ?_ q9.out ?_ bt.out
    ·rw [q8.out,q7.out,yx bl.out,aU.out,← aW.out];exact xt
    ·have aX:=bm.out;rw [(HZ.out r).1,bJ (Nat.lt_trans (xM (by omega) a1.1) i1),bJ HU.out,aU.out,aW.out] at aX;exact aX

def BP (n:Nat):List Ev:=(1,(n:Int),0) :: pk n

def yP (A M Y is:Nat):Prop:=(Nat.gcd A M=1→Y<M∧A*Y%M=1∧is=1)∧(Nat.gcd A M≠1→Y=0∧is=0)

def nB (w:World) (o:Tr) (P:Prop) (n A M:Nat) (w':World) (v':Value) (is c:Nat):Prop:=
 ∃ (zs:List Nat) (m:List Ev) (o':Tr),Row .u64 w' v' zs∧Lies true w w' v'∧Did w o m w' o'∧(P→c=0∧m=BP n∧∃ Y,zs=digs Y n∧yP A M Y is)∧(¬ P→zs=[]∧is=0∧c=1)

theorem iOf (o:Tr) (ao bo xo:Option Addr) (n l K a i N1 xc:Nat) (ms rs xs:List Nat) (w:World) (ht:TrRoom w o 400000) (hm:RowT w o (.slice ao n a) ms) (hr:RowT w o (.slice bo l i) rs) (hx:RowT w o (.slice xo N1 xc) xs) (p:Digs ms) (v:Digs rs) (L:Digs xs) (hK:K<18446744073709551616) (R:n≤1000000) (am:okMod ms K rs∨o=none) :
  Calls Tryz.prog 102 #[aE o,.agg #[.slice ao n a,.int .u64 (K:Nat),.slice bo l i],.slice xo N1 xc] w fun e w'=>∃ (v':Value) (is c:Nat),e=.returned (.tuple #[v',.int .u64 (is:Nat),.int .i64 (c:Nat)])∧nB w o (okMod ms K rs∧(N1=n∧val xs<val ms)) n (val xs) (val ms) w' v' is c:=by
 obtain ⟨po,I⟩:=aI o;obtain ⟨_,_,_,e1,G,_,_,_,_⟩:=hm.1.open;cases e1
 obtain ⟨_,_,_,e1,J,_,_,_,_⟩:=hx.1.open;cases e1
 obtain ⟨_,_,_,e1,P,_,_,_,_⟩:=hr.1.open;cases e1
 obtain ⟨W,hW⟩:∃ W,W=w.alloc (.cells #[.slice ao n a,.int .u64 (K:Nat),.slice bo l i] 130):=⟨_,rfl⟩
 have k0:Kept af w W:=by rw [hW];exact (ai af w).alloc _
 have b1:W.heap[w.heap.size]? = some (.cells #[.slice ao n a,.int .u64 (K:Nat),.slice bo l i] 130 (0,0)):=by rw [hW];exact heap_alloc_new _ _
 obtain ⟨c0,c1,c2⟩:=ax b1;have HW:=aa hW;have ab:=aa k0;by_cases hok:0<n∧n≤130
 ·have ae:=hok.1;have hn:=hok.2;have g1:¬ (n:Int)<1:=by omega
  have g2:¬ (n:Int) > 130:=by omega
  have aj:12*stp n+30+1≤400000:=by unfold stp;omega
  obtain ⟨M,hM⟩:∃ M,M=val ms:=⟨_,rfl⟩
  have S:NumT w o (.slice ao n a) n M:=by rw [hM];exact NumT.of hm p G.out
  obtain ⟨A,hA⟩:∃ A,A=val xs%18446744073709551616^n:=⟨_,rfl⟩
  have O:N1=n→A=val xs:=fun h=>by rw [hA,al];rw [← h,← J.out];exact aq (by omega) L
  have H:=Al _ xs n W (hx.1.grew k0) L (by omega);rw [nZ,← hA] at H;have lA:A<18446744073709551616^n:=by rw [hA];exact Nat.mod_lt _ (Nat.pow_pos (by omega))
  rw [← hM];have HM:=aa hm;have Q:=aa S;have HR:=aa hr;have HT:=aa ht;have Z:=aa b1;have V:=aa O;have HA:=aa hA;have U:=aa lA;rw [I];clear hW k0 b1 hm S hr ht hx J O hA lA hok;go_enter Tryz.func102,Tryz.ntmps102;go_wp2_with (rw [← HW.out]);refine H.mono ?_;rintro e w1 ⟨rfl,T,k1⟩;have C:=ab.out.trans k1;have r:=HT.out.grew C;have z:=(k1.block _ (lt_of_block Z.out) (fun f=>f)).trans Z.out;obtain ⟨c0,c1,c2⟩:=ax z;have nx:=NumN.own T U.out r.1;have s1:Wr w1 o [] w1 o (.pointer po) 400000:=⟨Did.of_kept (ai af w1) r.1,r,I⟩
  have B:=mL o _ _ _ _ w1 (r.less (by omega)) nx.1.1 (Q.out.grew C).1 (ah (by omega) _ _) (ah (by omega) _ _) (by rw [ag];omega) (by rw [ag];omega);rw [I,ag,ag,Nat.max_self,bJ U.out,bJ Q.out.2] at B;have JB:Hid (∀ W' m' o',Did w1 o m' W' o'→W'.heap[w.heap.size]? = some (.cells #[.slice ao n a,.int .u64 (K:Nat),.slice bo l i] 130 (0,0))):=fun W' m' o' d=>d.cells z r.1 (by decide) (by decide)
  have ac:=aa nx;have ad:=aa s1;have s:=aa C;obtain ⟨bl,D⟩:∃ bl,bl=bi (decide (A<M)):=⟨_,rfl⟩
  rw [← D] at B;have X:=aa D;clear H T k1 C r z nx s1 D;go_wp2_with fail;refine B.mono ?_;rintro e w2 ⟨rfl,o2,d2⟩;have s2:=ad.out.next (k:=12*stp n+30) d2 (by simp;omega)
  have E:=Cu o2 ao bo _ n l K a i n A ms rs w2 s2.room ((HM.out.grew s.out).did d2) ((HR.out.grew s.out).did d2) (ac.out.1.did d2) p v hK ae hn (am.elim Or.inl (fun h=>.inr (by have:=d2;rw [h] at this;exact this.none.1)));rw [s2.ptr,← hM] at E;obtain ⟨c0,c1,c2⟩:=ax (JB.out w2 _ o2 d2);clear B;go_wp2_with fail;refine E.mono ?_;rintro e w3 ⟨v3,is,rfl,Y,m3,o3,n3,f3,d3,hY⟩;have y:=d2.trans d3;obtain ⟨p0,p1,p2⟩:=ax (JB.out w3 _ o3 y);have m:=((HM.out.grew s.out).did y).1;have q:=((HR.out.grew s.out).did y).1;have N:=aa (Did.after s.out y)
  have j:Hid (∀ w':World,Kept af w3 w'→¬ (okMod ms K rs∧(N1=n∧val xs<M))→nB w o (okMod ms K rs∧(N1=n∧val xs<M)) n (val xs) M w' (.slice none 0 0) 0 1):=fun w' k h=>⟨[],_,o3,Row.nil _ _,Lies.nil _ _ _,N.out.grew k,fun hp=>absurd hp h,fun _=>⟨rfl,rfl,rfl⟩⟩
  have g:Hid (∀ w':World,Kept af w3 w'→okMod ms K rs→N1=n→A<M→nB w o (okMod ms K rs∧(N1=n∧val xs<M)) n (val xs) M w' v3 is 0):=fun w' k h1 h2 h3=>by
   have eA:=V.out h2;obtain ⟨e1,e2⟩:=hY h1;refine ⟨digs Y n,_,o3,(n3.1.grew k).1.1,fun _=>⟨?_,n3.2.grew k⟩,N.out.grew k,fun _=>⟨rfl,?_,Y,rfl,?_⟩,fun hp=>absurd ⟨h1,h2,by rw [← eA];exact h3⟩ hp⟩
   ·intro b hb;have q1:=f3 b hb;have q2:=d2.size;have q3:=s.out.size;omega
   ·rw [e1];rfl
   ·rw [← eA];exact e2 h3
  clear E c0 c1 c2 n3 f3 d3 y hY s2 d2;by_cases hN:N1=n
  ·by_cases hlt:A<M
   ·have z:bl=1:=by rw [X.out,aT hlt];rfl
    subst z;by_cases hmd2:okMod ms K rs
    ·have x:=iS ao bo n l K a i ms rs true (by simp [hmd2]) w3 m q p v hK R;have HF:=aa (fun w' k=>g.out w' k hmd2 hN hlt);have F:(N1:Int)=(n:Int):=by omega
     clear g j m q hN;go_wp2_with fail;refine x.mono ?_;rintro e w4 ⟨rfl,k4⟩;clear x;go_wp2_with fail;go_ret3
     exact ⟨_,_,_,rfl,HF.out _ k4⟩
    ·have x:=iS ao bo n l K a i ms rs false (by simp [hmd2]) w3 m q p v hK R;have HF:=aa (fun w' k=>j.out w' k (fun h=>hmd2 h.1));have F:(N1:Int)=(n:Int):=by omega
     clear g j m q hN;go_wp2_with fail;refine x.mono ?_;rintro e w4 ⟨rfl,k4⟩;clear x;go_wp2_with fail;go_ret3
     exact ⟨_,0,1,rfl,HF.out _ k4⟩
   ·have ak:bl=0:=by rw [X.out,aC hlt];rfl
    subst ak;have HF:=aa (j.out w3 (ai _ _) (fun h=>hlt (by rw [V.out h.2.1];exact h.2.2)));have F:(N1:Int)=(n:Int):=by omega
    clear g j m q hN;go_wp2_with fail;go_ret3
    exact ⟨_,0,1,rfl,HF.out⟩
  ·have HF:=aa (j.out w3 (ai _ _) (fun h=>hN h.2.1));have F:¬ (N1:Int)=(n:Int):=by omega
   clear g j m q hN;go_wp2_with fail;go_ret3
   exact ⟨_,0,1,rfl,HF.out⟩
 ·have t:¬ (okMod ms K rs∧(N1=n∧val xs<val ms)):=fun h=>by
   obtain ⟨_,f2,f3,_⟩:=h.1.facts G.out P.out p v hK;exact hok ⟨f2,f3⟩
  have HF:Hid (nB w o (okMod ms K rs∧(N1=n∧val xs<val ms)) n (val xs) (val ms) W (.slice none 0 0) 0 1):=⟨[],[],o,Row.nil _ _,Lies.nil _ _ _,Did.of_kept k0 ht.1,fun hp=>absurd hp t,fun _=>⟨rfl,rfl,rfl⟩⟩
  generalize aE o=tp at *;clear hm hr hx ht p v L t k0 b1 G J P hW;by_cases h0:n<1
  ·have g1:(n:Int)<1:=by omega
   clear hok;go_enter Tryz.func102,Tryz.ntmps102;go_wp2_with (rw [← HW.out]);go_ret3
   exact ⟨_,0,1,rfl,HF.out⟩
  ·have g1:¬ (n:Int)<1:=by omega
   have g2:(n:Int) > 130:=by omega
   clear hok h0;go_enter Tryz.func102,Tryz.ntmps102;go_wp2_with (rw [← HW.out]);go_ret3
   exact ⟨_,0,1,rfl,HF.out⟩

theorem mG {V K:Nat} (h:dD V=0) (hK:lW V K):okMod (eP V) K (eI V)∧(eP V).length=aj V∧(eI V).length=aj V∧val (eP V)=V∧Digs (eP V)∧Digs (eI V):=by
 have hM:eP V=digs V (aj V):=by unfold eP;rw [if_pos h]
 have hR:eI V=digs (2^(128*aj V)%V) (aj V):=by unfold eI;rw [if_pos h]
 have hv:val (eP V)=V:=by rw [hM,ak,al ((am V _).1 (leR _))]
 refine ⟨?_,by rw [hM,ag],by rw [hR,ag],hv,by rw [hM];exact ah (by omega) _ _,by rw [hR];exact ah (by omega) _ _⟩;unfold okMod;rw [hv];exact ⟨h,rfl,hK,rfl⟩

def A7 (P:Prop) (n A M E T F:Nat) (RL:List Nat):Prop:=((E=0∧P)∨(E=1∧¬ P))∧(E=0→yP A M T F)∧(E=1→F=0)∧RL=if E=0 then digs T n else []

theorem oF {w w':World} {P:Prop} {n A M is c:Nat} {v':Value} (h:nB w none P n A M w' v' is c):∃ T RL,Row .u64 w' v' RL∧Kept af w w'∧A7 P n A M c T is RL:=by
 obtain ⟨zs,m,o',h1,_,d,hp,hn⟩:=h;have k:=d.none.2;by_cases hP:P
 ·obtain ⟨rfl,_,Y,rfl,hY⟩:=hp hP;exact ⟨Y,_,h1,k,.inl ⟨rfl,hP⟩,fun _=>hY,fun h=>absurd h (by decide),rfl⟩
 ·obtain ⟨rfl,rfl,rfl⟩:=hn hP;exact ⟨0,[],h1,k,.inr ⟨rfl,hP⟩,fun h=>absurd h (by decide),fun _=>rfl,rfl⟩

theorem Bh (ao bo xo:Option Addr) (n l K a b N1 xc:Nat) (ms rs xs:List Nat) (w:World) (hm:Row .u64 w (.slice ao n a) ms) (hr:Row .u64 w (.slice bo l b) rs) (hx:Row .u64 w (.slice xo N1 xc) xs) (f:Digs ms) (g:Digs rs) (d:Digs xs) (hK:K<18446744073709551616) (i:n≤1000000) :
  Calls Tryz.prog 102 #[.pointer none,.agg #[.slice ao n a,.int .u64 (K:Nat),.slice bo l b],.slice xo N1 xc] w fun e w'=>∃ (v':Value) (F E:Nat),e=.returned (.tuple #[v',.int .u64 (F:Nat),.int .i64 (E:Nat)])∧∃ T RL,Row .u64 w' v' RL∧Kept af w w'∧Hid (A7 (okMod ms K rs∧(N1=n∧val xs<val ms)) n (val xs) (val ms) E T F RL):=by
 refine (iOf none ao bo xo n l K a b N1 xc ms rs xs w (TrRoom.none _ _ (by omega)) (RowT.none hm) (RowT.none hr) (RowT.none hx) f g d hK i (.inr rfl)).mono ?_;rintro e w' ⟨v',is,c,rfl,h⟩;obtain ⟨T,RL,h1,h2,h3⟩:=oF h;exact ⟨v',is,c,rfl,T,RL,h1,h2,h3⟩

end Go.Proofs.YtcemlfokmjjiaaaGreatDoor
