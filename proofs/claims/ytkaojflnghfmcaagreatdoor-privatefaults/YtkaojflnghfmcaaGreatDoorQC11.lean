/- Put together of: Mon4. -/
import Derived.Test.YtkaojflnghfmcaaGreatDoorQC10
import Derived.Lib.SliceRun
import Derived.Lib.LazyBuf
import Derived.Lib.RabinKarpLaws

namespace Go.Proofs.YtkaojflnghfmcaaGreatDoor
open _root_.Go.Proofs.Tryz
set_option maxRecDepth 100000
set_option maxHeartbeats 4000000
open Go.RowKit

def Fresh (w:World) (v:Value):Prop:=∀ b,v.ownBlock=some b->w.heap.size<=b

theorem Fresh.after {w W:World} {v:Value} (h:Fresh W v) (k:Kept af w W):Fresh w v:=fun b hb=>aR k.size (h b hb)

theorem Fresh.own {w W:World} {base n:Nat} {v:Value} {zs:List Nat} (h:OwnN .u64 24 W base v n zs) (hb:w.heap.size<=base):Fresh w v:=fun b a=>aR hb (h.lt b a).1

theorem Fi (b off n c:Nat) (xs:List Nat) (w:World) (h:Row .u64 w (.slice (some ⟨b,off,none⟩) n c) xs) (hn:n<=1000000) :
  Calls prog 73 #[.slice (some ⟨b,off,none⟩) n c] w fun e w'=>∃ v',e=.returned v'/\Row .u64 w' v' xs/\Fresh w v'/\Kept af w w':=by
 obtain ⟨i0,g,l,m,o⟩:=info_parts Tryz.info24;obtain ⟨_,_,_,e1,hL,_,_,_,_⟩:=h.open;cases e1
 have hq:∀ (w:World) (a:Option Addr) (n c:Nat),(binOp .eql 23 (.slice a n c) (.slice none 0 0)).run prog w=.ok (.bool a.isNone) w:=fun w a n c=>Lib.run_eql_slice_nil w _ _ a n c _ _ underlying23
 have HS:Hid (∀ W,Kept af w W->∀ j u,(xs.map fun z:Nat=>Value.int .u64 (z:Int))[j]? = some u->W.cell? ((⟨b,off,none⟩:Addr).add j)=some u):=fun W k j u hj=>by
  obtain ⟨ad,e,hs⟩:=h.source k (by
   rw [cf];have:=(ml.1 hj).1;rw [cf] at this;omega)
  cases e
  exact hs j u hj
 have HO:=aa (jd .u64 xs);have k0:Kept af w (w.alloc (.cells #[] 24)):=(aj af w).alloc _;clear h;go_enter func73,ntmps73;go_wp2_with (at_builtin;refine wpList_append_own _ rfl _ _ 23 rfl w.heap.size 24 i0 (.int .u64 0) 1 8 underlying23 g l m o rfl (by decide) _ _ _ rfl (World.ownsRow_made w #[] 0 (leR _) (aP _) rfl) ⟨b,off,none⟩ n c (xs.map fun z:Nat=>Value.int .u64 (z:Int)) rfl ?qc1 ?qc2 ?qc3 ?qc4 ?qc5 ?qc6 ?_)
 case qc1=>rw [cf,hL.out];simp
 case qc2=>exact HS.out _ k0
 case qc3=>exact HO.out
 case qc4=>unfold maxLen;omega
 case qc5=>omega
 case qc6=>simp
 intro v' w1 f d i;have k1:Kept af w w1:=k0.grown d (fun k hk hlt=>by simp [Value.ownBlock] at hk;omega);go_wp2;go_ret;exact ⟨v',rfl,Row.of_own (base:=w.heap.size) (e:=24) (by rw [hL.out];simpa using f),(fun b hb=>(f.lt b hb).1),k1⟩

theorem Ij (y:Nat) (hy:y<18446744073709551616) (w:World) :
  Calls prog 184 #[.int .u64 (y:Nat)] w fun e w'=>e=.returned (.int .i64 (aM y:Nat))/\w'=w:=by
 have a:=Any.bits_Len64 Ff (y:Int) w (by omega) (by omega);rw [show ((y:Int).toNat)=y from rfl,kK y hy] at a;generalize aM y=M at *;go_enter func184,ntmps184;go_wp2_with fail;refine a.mono ?_;rintro e w' ⟨rfl,rfl⟩;go_wp2;go_ret;exact ⟨rfl,rfl⟩

theorem sR (ao bo xo:Option Addr) (n a rl b xc V Y:Nat) (K:Int) (xs ms:List Nat) (w:World) (hx:Row .u64 w (.slice xo n xc) xs) (hm:Row .u64 w (.slice ao n a) ms) (o:Digs xs) (h:Digs ms) (hn:n<=100000) (hV:V=val ms) (hX:val xs<V) (hY:Y=2*val xs%V) :
  Calls prog 185 #[.agg #[.slice ao n a,.int .u64 K,.slice bo rl b],.slice xo n xc] w fun e w'=>∃ v',e=.returned v'/\Row .u64 w' v' (digs Y n)/\Fresh w v'/\Kept af w w':=by
 obtain ⟨_,_,_,e1,g,_,_,_,_⟩:=hx.open;cases e1
 obtain ⟨_,_,_,e1,i,_,_,_,_⟩:=hm.open;cases e1
 have j:V<18446744073709551616^n:=by rw [hV,<- i.out];exact aE (by omega) h
 obtain ⟨W,hW⟩:∃ W,W=w.alloc (.cells #[.slice ao n a,.int .u64 K,.slice bo rl b] 70):=⟨_,rfl⟩
 have k0:Kept af w W:=by rw [hW];exact (aj af w).alloc _
 have r:W.heap[w.heap.size]? = some (.cells #[.slice ao n a,.int .u64 K,.slice bo rl b] 70 (0,0)):=by rw [hW];exact heap_alloc_new _ _
 have f:=Em none (.slice xo n xc) xs 0 (by omega) W (TrRoom.none _ _ (by omega)) (RowT.none (hx.grew k0)) o (by rw [g.out];omega);rw [g.out,show (0:Nat)%2=0 from rfl,aU,show aL none=.pointer none from rfl] at f;obtain ⟨X,l⟩:∃ X,X=val xs:=⟨_,rfl⟩
 rw [<- l] at f hX hY;obtain ⟨c,hc⟩:∃ c,c=2*X/18446744073709551616^n:=⟨_,rfl⟩
 rw [<- hc] at f;have m:c<=1:=by
  have:2*X/18446744073709551616^n<2:=by
   rw [cj (aC (by omega))];omega
  omega
 have p:mT (2*X%18446744073709551616^n) V c n=Y:=by
  have e:2*X%18446744073709551616^n+18446744073709551616^n*c=2*X:=by rw [hc];exact iH _ _
  rw [AA (ay _ (aC (by omega))) j m (by omega),e,hY]
 have HS:Hid (∀ W' v',Kept af W W'->Row .u64 W' v' (digs (2*X) n)->Calls prog 178 #[.pointer none,.agg #[.slice ao n a,.int .u64 K,.slice bo rl b],v',.int .u64 (c:Nat)] W' fun e w'=>∃ v2,e=.returned v2/\Row .u64 w' v2 (digs Y n)/\Fresh w v2/\Kept af w w'):=fun W' v' k hr=>by
  have:=Eo none ao bo n a rl b c K v' _ ms W' (TrRoom.none _ _ (by omega)) (RowT.none hr) (ag _ _ _) (RowT.none (hm.grew (k0.trans k))) (ak (by omega) _ _) h m hn;rw [aB,<- hV,p] at this;refine this.mono ?_;rintro e w' ⟨v2,rfl,ho,o',d⟩;exact ⟨v2,rfl,cW ho (ag _ _ _),Fresh.own ho (k0.trans k).size,(k0.trans k).trans d.none.2⟩
 obtain ⟨p0,p1,p2⟩:=aw r;have HW:=aa hW;clear hx hm o h g i hV j hX hY l hc p k0 r hW;go_enter func185,ntmps185;go_wp2_with (rw [<- HW.out]);refine f.mono ?_;rintro e w1 ⟨v1,rfl,q,o1,d1⟩;have k1:=d1.none.2;have q0:=k1.cellN p0;have q1:=k1.cellN p1;have q2:=k1.cellN p2;have hL:=HS.out w1 v1 k1 (cW q (ag _ _ _));clear f p0 p1 p2 q d1;go_wp2_with fail;refine hL.mono ?_;rintro e w2 ⟨v2,rfl,s,n2,k2⟩;go_wp2_with fail;go_ret;exact ⟨v2,rfl,s,n2,k2⟩

theorem G8 (ao bo:Option Addr) (n a rl c V Y:Nat) (K:Int) (ms:List Nat) (w:World) (hm:Row .u64 w (.slice ao n a) ms) (o:Digs ms) (R:0<n) (hn:n<=130) (hV:V=val ms) (j:18446744073709551616^(n-1)<V) (hY:Y=18446744073709551616^n%V) :
  Calls prog 183 #[.agg #[.slice ao n a,.int .u64 K,.slice bo rl c]] w fun e w'=>∃ v',e=.returned v'/\Row .u64 w' v' (digs Y n)/\Fresh w v'/\Kept af w w':=by
 obtain ⟨i0,L,N,O,P⟩:=info_parts Tryz.info24;obtain ⟨_,_,_,e1,I,_,_,_,_⟩:=hm.open;cases e1
 have l:V<18446744073709551616^n:=by rw [hV,<- I.out];exact aE (by omega) o
 obtain ⟨W,hW⟩:∃ W,W=w.alloc (.cells #[.slice ao n a,.int .u64 K,.slice bo rl c] 70):=⟨_,rfl⟩
 have k0:Kept af w W:=by rw [hW];exact (aj af w).alloc _
 have t:W.heap[w.heap.size]? = some (.cells #[.slice ao n a,.int .u64 K,.slice bo rl c] 70 (0,0)):=by rw [hW];exact heap_alloc_new _ _
 have B:Hid (∀ W' xo xc k,Kept af W W'->Row .u64 W' (.slice xo n xc) (digs (18446744073709551616^(n-1)*2^k%V) n)->Calls prog 185 #[.agg #[.slice ao n a,.int .u64 K,.slice bo rl c],.slice xo n xc] W' fun e w'=>∃ v',e=.returned v'/\Row .u64 w' v' (digs (18446744073709551616^(n-1)*2^(k+1)%V) n)/\Fresh W v'/\Kept af W w'):=fun W' xo xc k kk hr=>by
  have hlt:18446744073709551616^(n-1)*2^k%V<V:=ay _ (fF (aP _) j);refine (sR ao bo xo n a rl c xc V (18446744073709551616^(n-1)*2^(k+1)%V) K _ ms W' hr (hm.grew (k0.trans kk)) (ak (by omega) _ _) o (by omega) hV (by rw [aB,ax (bk hlt l)];exact hlt) ?_).mono ?_
  ·rw [aB,ax (bk hlt l),vH,aH]
   congr 1
   generalize 18446744073709551616^(n-1)=p;generalize 2^k=q
   grind
  ·rintro e w' ⟨v',rfl,h1,hf,h2⟩;exact ⟨v',rfl,h1,hf.after kk,kk.trans h2⟩
 obtain ⟨p0,p1,p2⟩:=aw t;have HW:=aa hW;have HX:=aa t;have v:=aa k0;have HI:Hid ((List.replicate n 0).set (n-1) 1=digs (18446744073709551616^(n-1)*2^0%V) n):=by
  unfold Hid;obtain ⟨m,rfl⟩:∃ m,n=m+1:=⟨n-1,by omega⟩
  rw [ij] at j ⊢;rw [cw,bD,ax j];refine b8 (by omega) ?_ (by simp) ?_
  ·intro d hd;rcases mq hd with h | h
   ·rw [(eu.1 h).2];omega
   ·omega
  ·rw [gG,gH _ _ (by simp),be,bJ,lsZ,cZ,ep _ (fun d hd=>(eu.1 hd).2),be,ax (Nat.pow_lt_pow_right (by omega) (by omega))];omega
 have HY:Hid (18446744073709551616^(n-1)*2^64%V=Y):=by
  unfold Hid;obtain ⟨m,rfl⟩:∃ m,n=m+1:=⟨n-1,by omega⟩
  rw [hY,ij,aH 18446744073709551616 m]
 have M:n-1<n:=by omega
 have gn:(n:Int)-1=((n-1:Nat):Int):=by omega
 have Q:((n-1:Nat):Int)<(n:Int):=by omega
 clear hW t k0 hm o hV j hY l;go_enter func183,ntmps183;go_wp2_with (at_make;rw [<- HW.out];refine wpList_make_full _ rfl _ _ 23 rfl W.heap.size 24 i0 _ 1 underlying23 L N O _ _ _ _ n rfl rfl rfl rfl (by rw [P];omega) (by unfold maxLen;omega) (leR _) ?_;intro w3 g z;rw [bg] at g;have k3:=aV z;have y:=World.ownsRow.cellAt g (n-1) (by omega);have J:=World.ownsRow.frozenAt g (n-1);rw [bu,ee,ah M] at y;clear z);have r:OwnN .u64 24 (w3.setCell ⟨W.heap.size,n-1,none⟩ (.int .u64 1)) W.heap.size (.slice (some ⟨W.heap.size,0,none⟩) n n) n (digs (18446744073709551616^(n-1)*2^0%V) n):=by
  have:=(World.ownsRow.stored g (n-1) (.int .u64 1)).1;unfold OwnN;rw [<- HI.out,bZ];exact this
 have A:=cW r (ag _ _ _);have k4:Kept af W (w3.setCell ⟨W.heap.size,n-1,none⟩ (.int .u64 1)):=eZ k3 ((aj (fun b=>b=W.heap.size) w3).setCell ⟨W.heap.size,n-1,none⟩ (fun _=>rfl) _) (leR _);generalize w3.setCell ⟨W.heap.size,n-1,none⟩ (.int .u64 1)=w4 at *;have G:=aa A;have C:Hid (Fresh W (.slice (some ⟨W.heap.size,0,none⟩) n n)):=Fresh.own r (leR _);have E:=aa k4;clear r g y J k3 p0 p1 p2 A k4 HI
 go_loopw [4,14] (fun rv i wr=>∃ (k:Nat) (xo:Option Addr) (xc:Nat),k<=64/\i=.int .i64 (k:Int)/\rv=.slice xo n xc/\Hid (Row .u64 wr (.slice xo n xc) (digs (18446744073709551616^(n-1)*2^k%V) n))/\Hid (Fresh W (.slice xo n xc))/\Hid (Kept af W wr)) (fun _ i _=>64-(intOf i).toNat)
 case atStart=>exact ⟨0,_,_,by omega,rfl,rfl,G.out,C.out,E.out⟩
 case round=>
  obtain ⟨k,xo,xc,hk,rfl,rfl,HR,HF,HK⟩:=hrel;by_cases hk6:k<64
  ·have g1:(k:Int)<64:=by omega
   obtain ⟨q0,q1,q2⟩:=aw ((HK.out.block _ (lt_of_block HX.out) (fun f=>f)).trans HX.out);have hD:=B.out wr xo xc k HK.out HR.out;go_wp2_with fail;refine hD.mono ?_;rintro e w5 ⟨v5,rfl,s,f5,k5⟩;obtain ⟨yo,yn,yc,rfl,x,_,_,_,_⟩:=s.open;obtain rfl:yn=n:=by rw [<- x.out,ag]
   have H:=aa s;have D:=aa f5;have F:=aa k5;clear hD s k5 f5 q0 q1 q2 x;go_wp2_with fail;go_roundw
   case rel=>exact ⟨k+1,yo,yc,by omega,by go_num,rfl,H.out,D.out,F.out⟩
   case measure=>simp [intOf];omega
  ·have g1:¬ (k:Int)<64:=by omega
   obtain rfl:k=64:=by omega
   go_wp2_with fail;go_ret;refine ⟨_,rfl,?_,HF.out.after v.out,v.out.trans HK.out⟩;have:=HR.out;rw [HY.out] at this;exact this

theorem FU {P V Y E s:Nat} (hc:Nat.Coprime P V) (hY:Y<V) (h:P*Y%V=(P*2^(E/2^(s+1))%V)*(P*2^(E/2^(s+1))%V)%V) :
  (E/2^s%2=0->Y=P*2^(E/2^s)%V)/\(E/2^s%2=1->2*Y%V=P*2^(E/2^s)%V):=by
 have e:=FV hc hY h;have h2:E/2^(s+1)=E/2^s/2:=by rw [aH,cK]
 rw [h2] at e;generalize E/2^s=d at *;constructor
 ·intro h0;rw [e,show 2*(d/2)=d by omega]
 ·intro h1;rw [e,vH];rw [show d=2*(d/2)+1 by omega];rw [show 2*((2*(d/2)+1)/2)=2*(d/2) by omega,aH]
  congr 1
  generalize 2^(2*(d/2))=q
  grind

theorem r9 (i:Nat) (hi:i<9223372036854775808):bits BinOp.and IntKind.i64 (i:Int) 1=((i%2:Nat):Int):=Go.Proofs.and_one i hi

theorem Dc (ao bo:Option Addr) (n a rl b V Y K:Nat) (ms:List Nat) (w:World) (hm:Row .u64 w (.slice ao n a) ms) (j:Digs ms) (L:0<n) (hn:n<=130) (hV:V=val ms) (r:18446744073709551616^(n-1)<V) (m:V%2=1) (g:(V*K+1)%18446744073709551616=0) (hY:Y=18446744073709551616^(2*n)%V) :
  Calls prog 130 #[.agg #[.slice ao n a,.int .u64 (K:Nat),.slice bo rl b]] w fun e w'=>∃ v',e=.returned v'/\Row .u64 w' v' (digs Y n)/\Fresh w v'/\Kept af w w':=by
 obtain ⟨_,_,_,e1,ab,_,_,_,_⟩:=hm.open;cases e1
 have ac:0<V:=fF (aP _) r;have o:V<18446744073709551616^n:=by rw [hV,<- ab.out];exact aE (by omega) j
 have J:Nat.Coprime (18446744073709551616^n) V:=by rw [B64];exact (fT m).symm
 obtain ⟨W,hW⟩:∃ W,W=w.alloc (.cells #[.slice ao n a,.int .u64 (K:Nat),.slice bo rl b] 70):=⟨_,rfl⟩
 have k0:Kept af w W:=by rw [hW];exact (aj af w).alloc _
 have y:W.heap[w.heap.size]? = some (.cells #[.slice ao n a,.int .u64 (K:Nat),.slice bo rl b] 70 (0,0)):=by rw [hW];exact heap_alloc_new _ _
 obtain ⟨E,hE⟩:∃ E,E=64*n:=⟨_,rfl⟩
 obtain ⟨l,hl⟩:∃ l,l=aM E:=⟨_,rfl⟩
 have ae:l<=14:=by rw [hl];exact (aX E 14).2 (by omega)
 have G:E<2^l:=(aX E l).1 (by omega);have I:=G8 ao bo n a rl b V _ (K:Nat) ms W (hm.grew k0) j L hn hV r rfl;have q:Hid (∀ W',Calls prog 184 #[.int .u64 (E:Int)] W' fun e w'=>e=.returned (.int .i64 (l:Int))/\w'=W'):=fun W'=>by
  have:=Ij E (by omega) W';rw [<- hl] at this;exact this
 have O:Hid (∀ W' xo xc X,X<V->Kept af W W'->Row .u64 W' (.slice xo n xc) (digs X n)->Calls prog 185 #[.agg #[.slice ao n a,.int .u64 (K:Nat),.slice bo rl b],.slice xo n xc] W' fun e w'=>∃ v',e=.returned v'/\Row .u64 w' v' (digs (2*X%V) n)/\Fresh W v'/\Kept af W w'):=fun W' xo xc X hX kk hr=>by
  have p:val (digs X n)=X:=by rw [aB,ax (bk hX o)]
  refine (sR ao bo xo n a rl b xc V (2*X%V) K _ ms W' hr (hm.grew (k0.trans kk)) (ak (by omega) _ _) j (by omega) hV (by rw [p];exact hX) (by rw [p])).mono ?_;rintro e w' ⟨v',rfl,h1,hf,h2⟩;exact ⟨v',rfl,h1,hf.after kk,kk.trans h2⟩
 have U:Hid (∀ W' xo xc X,X<V->Kept af W W'->Row .u64 W' (.slice xo n xc) (digs X n)->Calls prog 120 #[.pointer none,.agg #[.slice ao n a,.int .u64 (K:Nat),.slice bo rl b],.slice xo n xc,.slice xo n xc] W' fun e w'=>∃ v',e=.returned v'/\Kept af W w'/\Fresh W v'/\∃ Z,Z<V/\18446744073709551616^n*Z%V=X*X%V/\Row .u64 w' v' (digs Z n)):=fun W' xo xc X hX kk hr=>by
  have p:val (digs X n)=X:=by rw [aB,ax (bk hX o)]
  refine (uI none n K a rl b xc xc ao bo xo xo _ _ ms W' (TrRoom.none _ _ (by omega)) (RowT.none hr) (RowT.none hr) (RowT.none (hm.grew (k0.trans kk))) (ak (by omega) _ _) (ak (by omega) _ _) j hn).mono ?_;rintro e w' ⟨v',rfl,Z,o',h1,h2,h3⟩;rw [p,<- hV] at h2;have ad:X*X<V*18446744073709551616^n:=lu hX (fE (bk hX o)) (aC (by omega));obtain ⟨z1,z2⟩:=h2 g L ad;exact ⟨v',rfl,kk.trans h3.none.2,Fresh.own h1 kk.size,Z,z1,z2,cW h1 (ag _ _ _)⟩
 obtain ⟨p0,p1,p2⟩:=aw y;have HW:=aa hW;have HX:=aa y;have A:=aa k0;have N:=aa J;have P:=aa G;have HY:Hid (18446744073709551616^n*2^(E/2^0)%V=Y):=by
  unfold Hid;rw [hY,cw,eX,hE,<- B64,<- aN,Nat.two_mul]
 have gE:(64:Int)*(n:Int)=(E:Int):=by omega
 have am:E<=10000:=by omega
 clear hW y k0 hm j hV r hY o hl G hE J g m;go_enter func130,ntmps130;go_wp2_with (rw [<- HW.out]);refine I.mono ?_;rintro e w1 ⟨v1,rfl,t,f1,k1⟩;obtain ⟨yo,yn,yc,rfl,h,_,_,_,_⟩:=t.open;obtain rfl:yn=n:=by rw [<- h.out,ag]
 have q0:=k1.cellN p0;have q1:=k1.cellN p1;have q2:=k1.cellN p2;have D:=aa t;have z:=aa f1;have B:=aa k1;clear I p0 p1 p2 t k1 f1 h;go_wp2_with fail;refine (q.out _).mono ?_;rintro e w2 ⟨rfl,rfl⟩;go_wp2_with fail;clear q0 q1 q2;go_loopw [3,17] (fun rv i wr=>∃ (k:Nat) (xo:Option Addr) (xc:Nat),k<=l/\i=.int .i64 (k:Int)/\rv=.slice xo yn xc/\Hid (Row .u64 wr (.slice xo yn xc) (digs (18446744073709551616^yn*2^(E/2^(l-k))%V) yn))/\Hid (Fresh W (.slice xo yn xc))/\Hid (Kept af W wr)) (fun _ i _=>l-(intOf i).toNat)
 case atStart=>exact ⟨0,_,_,by omega,rfl,rfl,by unfold Hid;rw [dK,bj P.out,cw,bD];exact D.out,z.out,B.out⟩
 case round=>
  obtain ⟨k,xo,xc,hk,rfl,rfl,HR,HF,HK⟩:=hrel;clear D B z;by_cases hk6:k<l
  ·have g1:(k:Int)<(l:Int):=by omega
   obtain ⟨q0,q1,q2⟩:=aw ((HK.out.block _ (lt_of_block HX.out) (fun f=>f)).trans HX.out);have hT:=U.out wr xo xc _ (ay _ ac) HK.out HR.out;obtain ⟨s,hs⟩:∃ s,s=l-1-k:=⟨_,rfl⟩
   rw [show l-k=s+1 by omega] at hT;have gs:(l:Int)-1-(k:Int)=(s:Int):=by omega
   go_wp2_with fail;refine hT.mono ?_;rintro e w5 ⟨v5,rfl,k5,f5,Z,z1,z2,v⟩;obtain ⟨b0,b1⟩:=FU N.out z1 z2;obtain ⟨zo,zn,zc,rfl,h,_,_,_,_⟩:=v.open;obtain rfl:zn=yn:=by rw [<- h.out,ag]
   obtain ⟨r0,r1,r2⟩:=aw ((k5.block _ (lt_of_block HX.out) (fun f=>f)).trans HX.out);have F:=aa v;have Q:=aa f5;have C:=aa k5;have B0:=aa b0;have B1:=aa b1;have HS:=aa hs;clear hT q0 q1 q2 v k5 f5 b0 b1 z2 h hs;have hD:=O.out w5 zo zc Z z1 C.out F.out;have M:l-(k+1)=s:=by have:=HS.out;omega
   have c:=r9 (E/2^s) (by have:=ew E (2^s);omega);have d:((E/2^s:Nat):Int)=(E:Int)/2^s:=by simp
   rw [d] at c;clear d;have hm2:E/2^s%2=0\/E/2^s%2=1:=by omega
   rcases hm2 with hm2 | hm2
   ·rw [hm2] at c;have e0:=B0.out hm2;clear hm2 B0 B1 hD;go_wp2_with fail;go_roundw
    case rel=>exact ⟨k+1,zo,zc,by omega,by go_num,rfl,by unfold Hid;rw [M,<- e0];exact F.out,Q.out,C.out⟩
    case measure=>simp [intOf];omega
   ·rw [hm2] at c;have e1:=B1.out hm2;clear hm2 B0 B1;go_wp2_with fail;refine hD.mono ?_;rintro e w6 ⟨v6,rfl,x,f6,k6⟩;obtain ⟨al,ai,ah,rfl,H,_,_,_,_⟩:=x.open;obtain rfl:ai=zn:=by rw [<- H.out,ag]
    have T:=aa x;have R:=aa f6;have S:=aa k6;have E1:=aa e1;clear hD x k6 f6 H r0 r1 r2 e1;go_wp2_with fail;go_roundw
    case rel=>exact ⟨k+1,al,ah,by omega,by go_num,rfl,by unfold Hid;rw [M,<- E1.out];exact T.out,R.out,S.out⟩
    case measure=>simp [intOf];omega
  ·have g1:¬ (k:Int)<(l:Int):=by omega
   obtain rfl:k=l:=by omega
   go_wp2_with fail;go_ret;refine ⟨_,rfl,?_,HF.out.after A.out,A.out.trans HK.out⟩;have:=HR.out;rw [bJ,HY.out] at this;exact this

theorem jO {W:World} {p:Nat} {a b c:Value} {t:TypeId} (h:W.heap[p]? = some (.cells #[a,b,c] t (0,0))):W.frozen? ⟨p,0,none⟩=false/\W.frozen? ⟨p,1,none⟩=false/\W.frozen? ⟨p,2,none⟩=false:=by
 simp [World.frozen?,h]

theorem DE {W:World} {p:Nat} {a b c:Value} {t:TypeId} (h:W.heap[p]? = some (.cells #[a,b,c] t (0,0))) (x y z:Value) :
  (W.setCell ⟨p,0,none⟩ x).heap[p]? = some (.cells #[x,b,c] t (0,0))/\(W.setCell ⟨p,1,none⟩ y).heap[p]? = some (.cells #[a,y,c] t (0,0))/\(W.setCell ⟨p,2,none⟩ z).heap[p]? = some (.cells #[a,b,z] t (0,0)):=by
 refine ⟨?_,?_,?_⟩
 ·have:=heap_setCell_same W p 0 #[a,b,c] t x h;simpa using this
 ·have:=heap_setCell_same W p 1 #[a,b,c] t y h;simpa using this
 ·have:=heap_setCell_same W p 2 #[a,b,c] t z h;simpa using this

theorem rJ {W:World} {p:Nat} {a b c:Value} {t:TypeId} (h:W.heap[p]? = some (.cells #[a,b,c] t (0,0))) (x y z:Value) :
  (((W.setCell ⟨p,0,none⟩ x).setCell ⟨p,1,none⟩ y).setCell ⟨p,2,none⟩ z).heap[p]? = some (.cells #[x,y,z] t (0,0)):=
 (DE (DE (DE h x y z).1 x y z).2.1 x y z).2.2

theorem lS (W:World) (p:Nat) (x y z:Value):Kept (fun b=>b=p) W (((W.setCell ⟨p,0,none⟩ x).setCell ⟨p,1,none⟩ y).setCell ⟨p,2,none⟩ z):=
 (((aj (fun b=>b=p) W).setCell ⟨p,0,none⟩ (fun _=>rfl) x).setCell ⟨p,1,none⟩ (fun _=>rfl) y).setCell ⟨p,2,none⟩ (fun _=>rfl) z

theorem Fx {V m0:Nat} {x:Int} (a:V%18446744073709551616=m0) (b:V%2=1) (h:sJ (18446744073709551616-(m0:Int)) x):∃ K:Nat,x=(K:Int)/\K<18446744073709551616/\(V*K+1)%18446744073709551616=0:=by
 obtain ⟨x0,x1,x2,_⟩:=h;obtain ⟨K,rfl⟩:=dY x0;refine ⟨K,rfl,by omega,?_⟩;have ho:(18446744073709551616-(m0:Int))%2=1:=by omega
 obtain ⟨t,ht⟩:=x2 ho;have hV:V=18446744073709551616*(V/18446744073709551616)+m0:=by rw [<- a];exact (ef _ _).symm
 have e1:((V*K+1:Nat):Int)=18446744073709551616*(((V/18446744073709551616:Nat):Int)*(K:Int)+t+(K:Int)):=by
  generalize V/18446744073709551616=q at *;subst hV;have:(((18446744073709551616*q+m0)*K+1:Nat):Int)=(18446744073709551616*(q:Int)+(m0:Int))*(K:Int)+1:=by simp
  rw [this]
  grind
 have:(18446744073709551616:Int) ∣ ((V*K+1:Nat):Int):=⟨_,e1⟩
 omega

theorem G7 (b off n c V:Nat) (ms:List Nat) (w:World) (hm:Row .u64 w (.slice (some ⟨b,off,none⟩) n c) ms) (o:Digs ms) (D:0<n) (hn:n<=130) (hV:V=val ms) (B:18446744073709551616^(n-1)<V) (g:V%2=1) :
  Calls prog 72 #[.slice (some ⟨b,off,none⟩) n c] w fun e w'=>∃ (K:Nat) (v:Value),e=.returned (.agg #[.slice (some ⟨b,off,none⟩) n c,.int .u64 (K:Int),v])/\K<18446744073709551616/\(V*K+1)%18446744073709551616=0/\Row .u64 w' v (digs (18446744073709551616^(2*n)%V) n)/\Fresh w v/\Kept af w w':=by
 obtain ⟨_,_,_,e1,J,_,_,_,i⟩:=hm.open;cases e1
 obtain ⟨b',O,e1,m⟩:=i 0 D;cases e1
 rw [aU] at m;have hx:ms.getD 0 0<18446744073709551616:=o.getD (by omega) _;have q:V%18446744073709551616=ms.getD 0 0:=by
  have:=cS (by omega) o 0;unfold dig at this;rw [hV]
  rwa [cw,eX] at this
 obtain ⟨m0,C⟩:∃ m0,m0=ms.getD 0 0:=⟨_,rfl⟩
 rw [<- C] at m hx q;obtain ⟨W,hW⟩:∃ W,W=w.alloc (.cells #[.slice none 0 0,.int .u64 0,.slice none 0 0] 70):=⟨_,rfl⟩
 have k0:Kept af w W:=by rw [hW];exact (aj af w).alloc _
 have G:W.heap[w.heap.size]? = some (.cells #[.slice none 0 0,.int .u64 0,.slice none 0 0] 70 (0,0)):=by rw [hW];exact heap_alloc_new _ _
 have F:W.heap.size=w.heap.size+1:=by rw [hW];simp
 have I:IntKind.u64.wrap (-(m0:Int))=18446744073709551616-(m0:Int):=by rw [IntKind.wrap_u64];omega
 have hI:=BT (18446744073709551616-(m0:Int)) (by omega) (by omega) W;have L:=k0.cellN m;have j:Hid (∀ x,sJ (18446744073709551616-(m0:Int)) x->∃ K:Nat,x=(K:Int)/\K<18446744073709551616/\(V*K+1)%18446744073709551616=0):=fun x h=>Fx q g h
 have t:Hid (∀ K:Nat,(V*K+1)%18446744073709551616=0->Calls prog 130 #[.agg #[.slice (some ⟨b,off,none⟩) n c,.int .u64 (K:Int),.slice none 0 0]] (W.alloc (.cells #[.slice (some ⟨b,off,none⟩) n c,.int .u64 (K:Int),.slice none 0 0] 70)) fun e w'=>∃ v',e=.returned v'/\Row .u64 w' v' (digs (18446744073709551616^(2*n)%V) n)/\Fresh (W.alloc (.cells #[.slice (some ⟨b,off,none⟩) n c,.int .u64 (K:Int),.slice none 0 0] 70)) v'/\Kept af (W.alloc (.cells #[.slice (some ⟨b,off,none⟩) n c,.int .u64 (K:Int),.slice none 0 0] 70)) w'):=fun K hg=>
  Dc _ _ n c 0 0 V _ K ms _ (hm.grew (k0.alloc _)) o D hn hV B g hg rfl
 have HX:=aa G;have p:=aa k0;have HW:=aa hW;have s:=aa F;clear hm o hn hV B g i J C q hW G k0 m hx F;go_enter func72,ntmps72;go_wp2_with (rw [<- HW.out]);refine hI.mono ?_;rintro e w1 ⟨⟨x,rfl,hx⟩,rfl⟩;obtain ⟨K,rfl,hK,d⟩:=j.out x hx;have hS:=t.out K d;have hB:Hid ((w1.alloc (.cells #[.slice (some ⟨b,off,none⟩) n c,.int .u64 (K:Int),.slice none 0 0] 70)).heap[w1.heap.size]? = some (.cells #[.slice (some ⟨b,off,none⟩) n c,.int .u64 (K:Int),.slice none 0 0] 70 (0,0))):=heap_alloc_new _ _;clear hI hx j t;go_wp2_with fail;refine hS.mono ?_;rintro e w2 ⟨v2,rfl,r,f2,k2⟩;obtain ⟨zo,zn,zc,rfl,_,_,_,_,_⟩:=r.open
 have kA:=(aj af w1).alloc (.cells #[.slice (some ⟨b,off,none⟩) n c,.int .u64 (K:Int),.slice none 0 0] 70);have k:=(k2.block _ (lt_of_block hB.out) (fun f=>f)).trans hB.out;have z:=((kA.trans k2).block _ (lt_of_block HX.out) (fun f=>f)).trans HX.out;have HF:=aa f2;clear f2;have M:w.heap.size≠w1.heap.size:=by have:=s.out;omega
 have N:w1.heap.size≠w.heap.size:=by omega
 obtain ⟨c0,c1,c2⟩:=aw k;obtain ⟨f0,f1,f2⟩:=jO k;have y:=(DE k (.slice zo zn zc) (.slice zo zn zc) (.slice zo zn zc)).2.2;obtain ⟨d0,d1,d2⟩:=aw y;have l:=fM z (a:=⟨w1.heap.size,2,none⟩) M (.slice zo zn zc);obtain ⟨r0,r1,r2⟩:=aw l;obtain ⟨s0,s1,s2⟩:=jO l;have A:=rJ l (.slice (some ⟨b,off,none⟩) n c) (.int .u64 (K:Int)) (.slice zo zn zc);obtain ⟨t0,t1,t2⟩:=aw A
 have kk:=(((p.out.trans (kA.trans k2)).next ((aj (fun b=>b=w1.heap.size) w2).setCell ⟨w1.heap.size,2,none⟩ (fun _=>rfl) (.slice zo zn zc)) (fun x hx e=>by have:=p.out.size;omega))).next (lS (w2.setCell ⟨w1.heap.size,2,none⟩ (.slice zo zn zc)) w.heap.size (.slice (some ⟨b,off,none⟩) n c) (.int .u64 (K:Int)) (.slice zo zn zc)) (fun x hx e=>by omega)
 have j:=aa kk;have E:Row .u64 (w2.setCell ⟨w1.heap.size,2,none⟩ (.slice zo zn zc)) (.slice zo zn zc) (digs (18446744073709551616^(2*n)%V) n):=r.kept ((aj (fun b=>b=w1.heap.size) w2).setCell ⟨w1.heap.size,2,none⟩ (fun _=>rfl) (.slice zo zn zc)) (fun b' hb e=>by
  have h1:=HF.out b' hb;have h0:=((aj af w1).alloc (.cells #[.slice (some ⟨b,off,none⟩) n c,.int .u64 (K:Int),.slice none 0 0] 70)).size;have h9:=lt_of_block hB.out;omega)
 have H:=aa (E.kept (lS (w2.setCell ⟨w1.heap.size,2,none⟩ (.slice zo zn zc)) w.heap.size (.slice (some ⟨b,off,none⟩) n c) (.int .u64 (K:Int)) (.slice zo zn zc)) (fun b' hb e=>by
  have h1:=HF.out b' hb;have h2:=s.out;have h0:=((aj af w1).alloc (.cells #[.slice (some ⟨b,off,none⟩) n c,.int .u64 (K:Int),.slice none 0 0] 70)).size;have h9:=lt_of_block hB.out;omega))
 clear E;have P:=aa (kA.trans k2);clear hS kA k z y l A kk hB r k2;go_wp2_with fail;refine bodyPost_ret (v:=.agg #[.slice (some ⟨b,off,none⟩) n c,.int .u64 (K:Int),.slice zo zn zc]) (by simp [results,results72,go_sem,t0,t1,t2]) rfl ⟨K,_,rfl,hK,d,?_,?_,j.out⟩
 ·exact H.out
 ·exact HF.out.after (p.out.alloc _)

def vu (W:World) (V:Nat) (a b:Value) (K:Nat):Prop:=Row .u64 W a (je V)/\Row .u64 W b (jy V)/\pV V K

theorem Bp (V:Nat):rfn (ar V) V=el V:=rfl

theorem Db (ao:Option Addr) (L c bM bO V E:Nat) (xs:List Nat) (w:World) (hx:Row .u64 w (.slice ao L c) xs) (hd:Digs xs) (hL:L<=1000000) (hV:V=val xs) (hE:E=el V)
  (hM:Box w bM (.slice ao L c) 23) (hO:w.heap[bO]? = some (.cells #[.slice none 0 0,.int .u64 0,.slice none 0 0] 70 (0,0))) :
  Calls prog 69 #[.pointer (some ⟨bM,0,none⟩),.pointer (some ⟨bO,0,none⟩)] w fun e w'=>
   (E=0/\e=.returned (.tuple #[])/\∃ (a b:Value) (K:Nat) (w1:World),vu w1 V a b K/\Fresh w a/\Fresh w b/\Kept af w w1/\w'=((w1.setCell ⟨bO,0,none⟩ a).setCell ⟨bO,1,none⟩ (.int .u64 (K:Int))).setCell ⟨bO,2,none⟩ b) \/
   (E≠0/\e=.panicked [refusal (E:Nat)]/\Kept af w w'):=by
 obtain ⟨_,_,_,e1,n,Z,_,i,_⟩:=hx.open;cases e1
 obtain ⟨R,hR⟩:∃ R,R=ar V:=⟨_,rfl⟩
 have O:V<18446744073709551616^L:=by rw [hV,<- n.out];exact aE (by omega) hd
 have X:R<=L:=by rw [hR];exact (aG V L).2 O
 have t:V<18446744073709551616^R:=(aG V R).1 (by omega);have hcut:=hx.cut (m:=R) (by rw [n.out];exact X);have v:=hd.take R;have x:val (xs.take R)=V:=by rw [iz (by omega) hd,<- hV,ax t]
 have P:(xs.take R).length=R:=by rw [aO,n.out];omega
 have N:=fun W=>AE (.slice ao L c) xs R (by rw [hR,hV]) W
 have G:Hid (∀ W,Kept af w W->Calls prog 70 #[.slice ao L c] W fun e w'=>e=.returned (.int .i64 (R:Int))/\w'=W):=fun W k=>N W (hx.grew k) hd (by rw [n.out];omega)
 have I:Hid (∀ W,Kept af w W->Calls prog 71 #[.slice ao R c] W fun e w'=>((E=0/\e=.returned (.tuple #[]))\/(E≠0/\e=.panicked [refusal (E:Nat)]))/\w'=W):=fun W k=>by
  have:=lT ao R c (xs.take R) W (hcut.grew k) v (by omega);rw [x,hR,Bp,<- hE,<- hR] at this;exact this
 have U:=hM.cell;have gR:(R:Int)<=(c:Int):=by omega
 have Y:R<=c:=by omega
 have HX:=aa hcut;have A:=aa v;have C:=aa x;have B:=aa P;have HO:=aa hO;have HR:=aa hR;have HE:=aa hE;have J:=aa t;clear hx hd hV hE O t hcut v x P N hO hM hR;go_enter func69,ntmps69;go_wp2_with fail;go_region_held3 (fun w'=>w'.cell? ⟨bM,0,none⟩=some (.slice ao L c))
  (((try dsimp only);first | (go_keep;done) | assumption))
  (first
  | (go_at_call 70;refine (G.out _ ?_).mono ?_;(exact (aj _ _).drew);rintro e w2 ⟨rfl,rfl⟩))
 go_wp2_with fail;have kd:Kept af w w.drew:=(aj _ _).drew;refine (I.out _ kd).mono ?_;rintro e w2 ⟨⟨h0,rfl⟩ | ⟨h0,rfl⟩,rfl⟩
 ·have y:=dm (V:=V) (by rw [<- HE.out];exact h0);have o:0<R:=by
   rcases cF R with h1 | h1
   ·have h2:=J.out;rw [h1,cw] at h2;omega
   ·exact h1
  obtain ⟨_,_,_,e1,_,_,_,_,j⟩:=HX.out.open;cases e1
  obtain ⟨b1,z,e1,_⟩:=j 0 o;cases e1
  have hC:=Fi b1 z R c (xs.take R) w.drew (HX.out.grew kd) (by omega);clear G I i j U;go_wp2_with fail;refine hC.mono ?_;rintro e w3 ⟨v3,rfl,p,f3,k3⟩;obtain ⟨zo,zn,zc,rfl,M,_,_,_,d⟩:=p.open;obtain rfl:zn=R:=M.out.symm.trans B.out;obtain ⟨b3,l,e3,_⟩:=d 0 o;cases e3
  have hP:=G7 b3 l zn zc V (xs.take zn) w3 p A.out o (by have:=HR.out;omega) C.out.symm (pY HR.out.symm o y.2.1 y.2.2) y.2.2;have H:=aa p;have D:=aa f3;have F:=aa k3;clear hC p f3 k3 d M;go_wp2_with fail;refine hP.mono ?_;rintro e w4 ⟨K,v4,rfl,hK,g,q,f4,k4⟩;obtain ⟨yo,yn,yc,rfl,_,_,_,_,_⟩:=q.open;have kk:=(kd.trans F.out).trans k4;have s:=(kk.block _ (lt_of_block HO.out) (fun f=>f)).trans HO.out;obtain ⟨c0,c1,c2⟩:=aw s;obtain ⟨f0,f1,f2⟩:=jO s;have HS:Hid (vu w4 V (.slice (some ⟨b3,l,none⟩) zn zc) (.slice yo yn yc) K):=by
   have r:el V=0:=by rw [<- HE.out];exact h0
   refine ⟨?_,?_,hK,fun _=>g,fun h=>absurd r h⟩
   ·unfold je;rw [ah r,<- HR.out,<- b8 (by omega) A.out B.out (by rw [C.out,ax J.out])];exact H.out.grew k4
   ·unfold jy;rw [ah r,<- HR.out];rw [B64,show 64*(2*zn)=128*zn by omega] at q;exact q
  have Q:=aa (D.out.after kd);have S:=aa (f4.after (kd.trans F.out));have T:=aa kk;clear hP s q f4 k4 kk kd H D;go_wp2_with fail;go_end0
  exact .inl ⟨h0,rfl,_,_,K,w4,HS.out,Q.out,S.out,T.out,rfl⟩
 ·exact ⟨rfl,.inr ⟨h0,rfl,kd⟩⟩

theorem oH (ao:Option Addr) (L d:Nat) (xs:List Nat) (V E:Nat) (hV:V=val xs) (hE:E=el V) (w:World) (hx:Row .u64 w (.slice ao L d) xs) (hd:Digs xs) (hL:L<=1000000) :
  Calls prog 34 #[.slice ao L d] w fun e w'=>∃ a K b,e=.returned (.tuple #[.agg (jx a K b),.int .i64 (E:Nat)])/\Row .u64 w' a (je V)/\Row .u64 w' b (jy V)/\pV V K/\(Fresh w a/\Fresh w b)/\Kept af w w':=by
 have M:=im;have he:∀ args w,(callFunc 69 args).run prog w=.ok (.enter 69 args) w:=fun _ _=>by simp [go_sem]
 obtain ⟨W,hW⟩:∃ W,W=(w.alloc (.cells #[.slice ao L d] 23)).alloc (.cells #[.slice none 0 0,.int .u64 0,.slice none 0 0] 70):=⟨_,rfl⟩
 have k0:Kept af w W:=by rw [hW];exact ((aj af w).alloc _).alloc _
 have F:W.heap.size=w.heap.size+1+1:=by rw [hW];simp
 have B:Box W w.heap.size (.slice ao L d) 23:=by rw [hW];exact (Box.new w _ _).alloc _
 have h:W.heap[w.heap.size+1]? = some (.cells #[.slice none 0 0,.int .u64 0,.slice none 0 0] 70 (0,0)):=by
  rw [hW];have:=heap_alloc_new (w.alloc (.cells #[.slice ao L d] 23)) (.cells #[.slice none 0 0,.int .u64 0,.slice none 0 0] 70)
  rwa [show (w.alloc (.cells #[.slice ao L d] 23)).heap.size=w.heap.size+1 by simp] at this
 have k1:=k0.alloc (.cells #[.int .i64 0] 32);have xe:=Box.new W (.int .i64 0) 32;have z:(W.alloc (.cells #[.int .i64 0] 32)).heap.size=W.heap.size+1:=by simp
 have h1:=Db ao L d w.heap.size (w.heap.size+1) V E xs _ (hx.grew k1) hd hL hV hE (B.alloc _) (au h);have A:=pq 69 #[.pointer (some ⟨w.heap.size,0,none⟩),.pointer (some ⟨w.heap.size+1,0,none⟩)] W
  (fun c W'=>c=(E:Nat)/\Kept af w W'/\∃ (a b:Value) (K:Nat),vu W' V a b K/\Fresh W a/\Fresh W b/\(∀ x,a.ownBlock=some x->x≠W.heap.size)/\(∀ x,b.ownBlock=some x->x≠W.heap.size)/\W'.heap[w.heap.size+1]? = some (.cells #[a,.int .u64 (K:Int),b] 70 (0,0))) he (h1.mono (by
  rintro e w' (⟨h2,rfl,a,b,K,w1,hS,fa,fb,kk,rfl⟩ | ⟨h2,rfl,kk⟩)
  ·have s:=(kk.block _ (lt_of_block (au h)) (fun f=>f)).trans (au (o:=.cells #[.int .i64 0] 32) h);have p:=(kk.block _ xe.lt (fun f=>f)).trans xe;have k3:=lS w1 (w.heap.size+1) a (.int .u64 (K:Int)) b;have t:∀ x,a.ownBlock=some x->W.heap.size+1<=x:=fun x hx=>by have:=fa x hx;omega
   have y:∀ x,b.ownBlock=some x->W.heap.size+1<=x:=fun x hx=>by have:=fb x hx;omega
   refine ⟨(k3.block _ (lt_of_block p) (by omega)).trans p,.inl ⟨rfl,by rw [h2];rfl,(k1.trans kk).next k3 (fun x hx e=>by omega),a,b,K,⟨hS.1.kept k3 (fun x hx e=>by have:=t x hx;omega),hS.2.1.kept k3 (fun x hx e=>by have:=y x hx;omega),hS.2.2⟩,fun x hx=>by have:=t x hx;omega,fun x hx=>by have:=y x hx;omega,fun x hx=>by have:=t x hx;omega,fun x hx=>by have:=y x hx;omega,rJ s _ _ _⟩⟩
  ·have s:=(kk.block _ (lt_of_block (au h)) (fun f=>f)).trans (au (o:=.cells #[.int .i64 0] 32) h);have p:=(kk.block _ xe.lt (fun f=>f)).trans xe;have hb:=Dd (V:=V) (by rw [<- hE];exact h2);exact ⟨p,.inr ⟨_,rfl,rfl,k1.trans kk,.slice none 0 0,.slice none 0 0,0,⟨by rw [hb.1];exact Row.nil _ _,by rw [hb.2.1];exact Row.nil _ _,hb.2.2⟩,(fun x hx=>by cases hx),(fun x hx=>by cases hx),(fun x hx=>by cases hx),(fun x hx=>by cases hx),s⟩⟩))
 have HW:=aa hW;have g:=aa F;clear h1 hx hd hL hV hE hW k0 k1 B h xe he F z;go_enter func34,ntmps34;go_wp2_with (rw [<- HW.out]);refine A.mono ?_;rintro e w' ⟨c,w1,rfl,⟨⟨rfl,k2,a,b,K,hS,fa,fb,na,nb,C⟩,I⟩,rfl⟩;obtain ⟨k,j,i,rfl,_,_,_,_,_⟩:=hS.1.open;obtain ⟨n,m,l,rfl,_,_,_,_,_⟩:=hS.2.1.open;have k3:=aD w1 W.heap.size (.int .i64 (E:Nat));have J:w.heap.size+1≠W.heap.size:=by have:=g.out;omega
 have q:=fM C (a:=⟨W.heap.size,0,none⟩) J (.int .i64 (E:Nat));have r:vu (w1.setCell ⟨W.heap.size,0,none⟩ (.int .i64 (E:Nat))) V (.slice k j i) (.slice n m l) K:=⟨hS.1.kept k3 na,hS.2.1.kept k3 nb,hS.2.2⟩
 have k4:=k2.next k3 (fun x hx e=>by have:=g.out;omega)
 generalize w1.setCell ⟨W.heap.size,0,none⟩ (.int .i64 (E:Nat))=w2 at *;obtain ⟨c0,c1,c2⟩:=aw q;obtain ⟨f0,f1,f2⟩:=jO q;have D:=rJ q (.slice k j i) (.int .u64 (K:Int)) (.slice n m l);obtain ⟨d0,d1,d2⟩:=aw D;have k5:=lS w2 (w.heap.size+1) (.slice k j i) (.int .u64 (K:Int)) (.slice n m l);have HA:=aa (r.1.kept k5 (fun x hx e=>by have:=fa x hx;have:=g.out;omega));have HB:=aa (r.2.1.kept k5 (fun x hx e=>by have:=fb x hx;have:=g.out;omega));have HK:=aa r.2.2;have G:Hid (Fresh w (.slice k j i)/\Fresh w (.slice n m l)):=⟨fun x hx=>by have:=fa x hx;have:=g.out;omega,fun x hx=>by have:=fb x hx;have:=g.out;omega⟩
 have H:=aa (k4.next k5 (fun x hx e=>by omega));clear A hS r C q D k2 k3 k4 k5 I fa fb na nb;go_wp2_with fail;exact bodyPost_ret (v:=.tuple #[.agg (jx (.slice k j i) K (.slice n m l)),.int .i64 (E:Nat)]) (by simp [results,results34,go_sem,d0,d1,d2,jx]) rfl ⟨_,K,_,rfl,HA.out,HB.out,HK.out,G.out,H.out⟩

theorem AF (ao:Option Addr) (L c:Nat) (xs:List Nat) (V E:Nat) (hV:V=val xs) (hE:E=el V) (w:World) (hx:Row .u64 w (.slice ao L c) xs) (hd:Digs xs) (hL:L<=1000000) :
  Calls prog 34 #[.slice ao L c] w fun e w'=>∃ a K b,e=.returned (.tuple #[.agg (jx a K b),.int .i64 (E:Nat)])/\Row .u64 w' a (je V)/\Row .u64 w' b (jy V)/\pV V K/\Kept af w w':=by
 refine (oH ao L c xs V E hV hE w hx hd hL).mono ?_;rintro e w' ⟨a,K,b,rfl,h1,h2,h3,_,h4⟩;exact ⟨a,K,b,rfl,h1,h2,h3,h4⟩

end Go.Proofs.YtkaojflnghfmcaaGreatDoor
