/- Put together of: Mon5 Pow1 Sho2. -/
import Derived.Test.YtpkmoamgpjcdeaaGreatDoorBY8

namespace Go.Proofs.YtpkmoamgpjcdeaaGreatDoor
open _root_.Go.Proofs.Tryz
set_option maxRecDepth 100000
set_option maxHeartbeats 4000000
open Go.RowKit
variable {A:Nat->OA} {C:Nat->Nat} {K N P V X Y bP k n y:Nat} {W W1 w w' w0:World} {ao bo:OA} {m:List Ev} {ms rs:LN} {o':Tr} {xv:Value}

def jC (cnt n V:Nat) (N:Nat->Nat) (xss:Nat->LN):Prop:=∀ i,i<cnt->N i=n/\val (xss i)<V

def inN (cnt n V:Nat) (N:Nat->Nat) (xss:Nat->LN):Nat->Nat
 | 0=>1
 | k+1=>if inN cnt n V N xss k=1/\(N k=n/\val (xss k)<V) then 1 else 0

theorem yk (a n V:Nat) (N:Nat->Nat) (b:Nat->LN):∀ k,inN a n V N b k<=1
 | 0=>by simp [inN]
 | k+1=>by unfold inN;split <;> omega

theorem tm (b n V:Nat) (N:Nat->Nat) (a:Nat->LN):∀ k,inN b n V N a k=1↔jC k n V N a
 | 0=>by simp [inN,jC]
 | k+1=>by
  have ih:=tm b n V N a k;unfold inN;constructor
  ·intro h
   split at h
   ·rename_i h1
    intro i hi;rcases gG i k with h2 | h2
    ·exact ih.1 h1.1 i h2
    ·obtain rfl:i=k:=by omega
     exact h1.2
   ·omega
  ·intro h;rw [ai ⟨ih.2 (fun i hi=>h i (by omega)),h k (by omega)⟩]

theorem uP (b n V:Nat) (N:Nat->Nat) (a:Nat->LN) (k:Nat):bits .and .u64 ((inN b n V N a k:Nat):Int) ((tx (N k) n (val (a k)) V:Nat):Int)=((inN b n V N a (k+1):Nat):Int):=by
 have h:=yk b n V N a k;have h1:inN b n V N a (k+1)=if inN b n V N a k=1/\(N k=n/\val (a k)<V) then 1 else 0:=rfl
 rw [h1];unfold tx;generalize inN b n V N a k=m at *;have c:m=0\/m=1:=by omega
 by_cases h2:N k=n/\val (a k)<V
 ·rcases c with rfl | rfl
  ·rw [ai h2,aK]
   decide
  ·rw [ai h2,ai ⟨rfl,h2⟩]
   decide
 ·rcases c with rfl | rfl
  ·rw [ar h2,aK]
   decide
  ·rw [ar h2,ar (fun h=>h2 h.2)]
   decide

def lP (W:World) (o:Tr) (m:List Ev) (n:Nat) (G:Nat->Prop) (w':World) (v':Value):Prop:=
 ∃ (Y:Nat) (o':Tr),OwnN .u64 24 w' W.heap.size v' n (digs Y n)/\G Y/\Did W o m w' o'

theorem Fc (o:Tr) (ao bo lo:OA) (n l K g j a M f:Nat) (p:Array Value) (A:Nat->OA) (N C:Nat->Nat) (c:Nat->LN) (ms rs:LN) (bM bL bT bF bO E rm:Nat) (dE:List Ev) (G:Nat->Prop) (w:World)
  (ht:TrRoom w o (a+rm)) (hm:RowT w o (.slice ao n g) ms) (hr:RowT w o (.slice bo l j) rs) (D:Digs ms) (I:Digs rs) (hK:K<18446744073709551616) (ak:n<=1000000) (ad:a<=1000)
  (hs:∀ W m o',Did w o m W o'->Slots W lo a A N C) (t:∀ i,i<a->RowT w o (.slice (A i) (N i) (C i)) (c i)) (r:∀ i,i<a->Digs (c i))
  (hM:w.heap[bM]? = some (.cells (mzA ao n g K bo l j) 71 (0,0))) (hL:Box w bL (.slice lo a M) 27) (hT:Box w bT (aP o) 57) (hF:Box w bF (.func (.func f) #[] p) 154) (hO:Box w bO (.slice none 0 0) 23)
  (hf:∀ args w,(callFunc f args).run prog w=.ok (.enter f args) w)
  (H:n<=130->∀ W m o',Did w o m W o'->TrRoom W o' rm->ClZ f (#[.int .i64 (n:Int)] ++ p) W fun e w'=>∃ v',e=.returned v'/\lP W o' dE n (fun Y=>okMod ms K rs->jC a n (val ms) N c->G Y) w' v')
  (hE:E=0↔okMod ms K rs/\jC a n (val ms) N c) :
  ClZ 183 #[.pointer (some ⟨bM,0,none⟩),.pointer (some ⟨bL,0,none⟩),.pointer (some ⟨bT,0,none⟩),.pointer (some ⟨bF,0,none⟩),.pointer (some ⟨bO,0,none⟩)] w fun e w'=>
   (n<=130/\∃ (Y:Nat) (v':Value) (w1:World) (o1:Tr),Row .u64 w1 v' (digs Y n)/\(Fresh w v'/\U64s w1 v')/\(E=0->G Y)/\Did w o (List.replicate a (1,(n:Int),0) ++ dE) w1 o1 /\
    ((E=0/\e=.returned (.tuple #[])/\w'=w1.setCell ⟨bO,0,none⟩ v')\/(E≠0/\e=.panicked [refusal 1]/\w'=w1))) \/
   (130<n/\E≠0/\e=.panicked [refusal 1]/\w'=w):=by
 obtain ⟨_,_,_,e1,O,_,_,_,_⟩:=hm.1.open;cases e1
 obtain ⟨tp,J⟩:=aj (aP o)
 obtain ⟨V,hV⟩:=aj (val ms)
 rw [<- hV] at hE H;have q:=ht.1;have JM:HzD (∀ W m o',Did w o m W o'->W.cell? ⟨bM,0,none⟩=some (.slice ao n g)/\W.cell? ⟨bM,1,none⟩=some (.int .u64 (K:Nat))/\W.cell? ⟨bM,2,none⟩=some (.slice bo l j)):=fun W m o' d=>ax ((d.kept.block _ (lt_of_block hM) (aH hM q)).trans hM)
 have JT:HzD (∀ W m o',Did w o m W o'->W.cell? ⟨bT,0,none⟩=some tp):=fun W m o' d=>by rw [J];exact (hT.did d q).cell
 have JF:HzD (∀ W m o',Did w o m W o'->W.cell? ⟨bF,0,none⟩=some (.func (.func f) #[] p)):=fun W m o' d=>(hF.did d q).cell
 have JO:HzD (∀ W m o',Did w o m W o'->W.cell? ⟨bO,0,none⟩=some (.slice none 0 0)/\W.frozen? ⟨bO,0,none⟩=false):=fun W m o' d=>⟨(hO.did d q).cell,(hO.did d q).free⟩
 have h0:=Did.of_kept (ah af w) q;obtain ⟨p0,p1,p2⟩:=JM.o _ _ _ h0;have pL:=hL.cell;have P:=jn 1 w;have B:=gZ 1 w;by_cases hn:n<=130
 ·have g1:¬ (n:Int) > 130:=by omega
  have JB:HzD (∀ W m o' i,Did w o m W o'->TrRoom W o' 1->i<a->ClZ 184 #[tp,.agg (mzA ao n g K bo l j),.slice (A i) (N i) (C i)] W fun e w'=>e=.returned (.int .u64 ((tx (N i) n (val (c i)) V:Nat):Int))/\∃ o2,Did W o' [(1,(n:Int),0)] w' o2):=fun W m o' i d hr hi=>by
   have:=Fg o' ao bo (A i) n (N i) g l j (C i) K ms (c i) W hr (hm.did d) ((t i hi).did d) D (r i hi) (by omega) _ rfl;rw [d.ptr,<- J,<- hV] at this;exact this
  have JD:HzD (∀ W m o',Did w o m W o'->TrRoom W o' rm->ClZ f (#[.int .i64 (n:Int)] ++ p) W fun e w'=>∃ v',e=.returned v'/\lP W o' dE n (fun Y=>okMod ms K rs->jC a n V N c->G Y) w' v'):=H hn;have JK:HzD (∀ W m o' (R:Bool),Did w o m W o'->(R=true↔okMod ms K rs)->ClZ 114 #[.agg (mzA ao n g K bo l j)] W fun e w'=>e=.returned (.bool R)/\Kept af W w'):=fun W m o' R d hR=>oS ao bo n l K g j ms rs R hR W (hm.did d).1 (hr.did d).1 D I hK
  have JS:=aa hs;have HT:=aa ht;have HE:=aa hE;have H0:=aa h0;clear hm hr D I hK hs t r hM hL hT hF hO H hE q J hV ht h0 B O;delta ClZ;go_in;go_wp2_with fail;refine P.mono ?_;rintro e w1 ⟨rfl,rfl⟩;clear P;go_wp2_with fail;go_loopw [6,18] (fun mv i wr=>∃ (k:Nat) (o1:Tr),k<=a/\i=.int .i64 (k:Int)/\mv=.int .u64 ((inN a n V N c k:Nat):Int)/\HzD (Did w1 o (List.replicate k (1,(n:Int),0)) wr o1)) (fun _ i _=>a-(intOf i).toNat)
  case atStart=>exact ⟨0,o,aQ _,rfl,rfl,H0.o⟩
  case round=>
   obtain ⟨k,o1,hk,rfl,rfl,HD⟩:=hrel;by_cases hkc:k<a
   ·have ai:(0:Int)<=(k:Int):=cN _;have gk:(k:Int)<(a:Int):=by omega
    obtain ⟨q0,q1,q2⟩:=JM.o _ _ _ HD.o;have qT:=JT.o _ _ _ HD.o;obtain ⟨b2,ae,rfl,ac⟩:=JS.o _ _ _ HD.o k hkc;have b:TrRoom wr o1 1:=HD.o.room (by rw [bw];exact HT.o.l (by omega));have hB:=JB.o wr _ o1 k HD.o b hkc;have ab:=uP a n V N c k;have T:=aa HD;clear HD b;generalize tx (N k) n (val (c k)) V=mm at *;generalize hm2:inN a n V N c (k+1)=m2 at *;have Z:=aa hm2;clear hm2;generalize inN a n V N c k=m1 at *;go_wp2_with fail;refine hB.mono ?_;rintro e w2 ⟨rfl,o2,d2⟩;have U:=aa (T.o.o.trans d2);clear hB d2 q0 q1 q2 qT ac;go_wp2_with fail;go_roundw
    case rel=>exact ⟨k+1,o2,by omega,by go_num,by rw [Z.o],by unfold HzD;rw [iq];exact U.o⟩
    case measure=>simp [intOf];omega
   ·have gk:¬ (k:Int)<(a:Int):=by omega
    obtain rfl:k=a:=by omega
    have qF:=JF.o _ _ _ HD.o;have b:TrRoom wr o1 rm:=HD.o.room (by rw [bw];exact HT.o);have hD:=JD.o wr _ o1 HD.o b;have HI:=aa (tm k n V N c k);have X:=aa (yk k n V N c k);generalize inN k n V N c k=mem at *;go_wp2_with fail;refine hD.mono ?_;rintro e w3 ⟨v3,rfl,Y,o3,F,hG,d3⟩;have D3:=aa (HD.o.trans d3);obtain ⟨S,Q,rfl⟩:=dK F;have L:=aa (dz F (ag _ _ _));have x:HzD (Fresh w1 (.slice S n Q)/\U64s w3 (.slice S n Q)):=⟨Fresh.own F HD.o.size,U64s.own F⟩
    have HG:=aa hG;obtain ⟨q0,q1,q2⟩:=JM.o _ _ _ D3.o;clear hD d3 F hG qF b;by_cases hok:okMod ms K rs
    ·by_cases hall:jC k n V N c
     ·have s:mem=1:=HI.o.2 hall;subst s;go_wp2_with fail;refine (JK.o w3 _ o3 true D3.o (by simp [hok])).mono ?_;rintro e w4 ⟨rfl,k4⟩;have v:=aa (D3.o.g k4);have z:=aa (L.o.g k4);have y:=aa (⟨x.o.1,x.o.2.g k4⟩:_/\_);obtain ⟨x0,x1⟩:=JO.o _ _ _ v.o;clear k4;go_wp2_with fail;refine (jn 1 _).mono ?_;rintro e w5 ⟨rfl,rfl⟩;go_wp2_with fail;go_end0
      exact .inl ⟨hn,Y,_,w5,o3,z.o,y.o,fun _=>HG.o hok hall,v.o,.inl ⟨HE.o.2 ⟨hok,hall⟩,rfl,rfl⟩⟩
     ·have s:mem=0:=by
       have h1:mem≠1:=fun h=>hall (HI.o.1 h)
       have h2:=X.o;omega
      subst s;go_wp2_with fail;refine (JK.o w3 _ o3 true D3.o (by simp [hok])).mono ?_;rintro e w4 ⟨rfl,k4⟩;have v:=aa (D3.o.g k4);have z:=aa (L.o.g k4);have y:=aa (⟨x.o.1,x.o.2.g k4⟩:_/\_);clear k4;go_wp2_with fail;refine (gZ 1 _).mono ?_;rintro e w5 ⟨rfl,rfl⟩;exact ⟨rfl,.inl ⟨hn,Y,_,_,o3,z.o,y.o,fun h=>absurd (HE.o.1 h).2 hall,v.o,.inr ⟨fun h=>hall (HE.o.1 h).2,rfl,rfl⟩⟩⟩
    ·go_wp2_with fail;refine (JK.o w3 _ o3 false D3.o (by simp [hok])).mono ?_;rintro e w4 ⟨rfl,k4⟩;have v:=aa (D3.o.g k4);have z:=aa (L.o.g k4);have y:=aa (⟨x.o.1,x.o.2.g k4⟩:_/\_);clear k4;go_wp2_with fail;refine (gZ 1 _).mono ?_;rintro e w5 ⟨rfl,rfl⟩;exact ⟨rfl,.inl ⟨hn,Y,_,_,o3,z.o,y.o,fun h=>absurd (HE.o.1 h).1 hok,v.o,.inr ⟨fun h=>hok (HE.o.1 h).1,rfl,rfl⟩⟩⟩
 ·have g1:(n:Int) > 130:=by omega
  have HE:HzD (E≠0):=fun h=>by
   have:=(hE.1 h).1;have h2:=(pP (K:=K) O.o rfl D I hK).1 this;have h3:=h2.1;unfold rfn at h3;rw [cf] at h3;omega
  clear hm hr D I hK hs t r hM hL hT hF hO H hE q J hV ht h0 P O;delta ClZ;go_in;go_wp2_with fail;refine B.mono ?_;rintro e w1 ⟨rfl,rfl⟩;exact ⟨rfl,.inr ⟨by omega,HE.o,rfl,rfl⟩⟩

def Answered (w:World) (o:Tr) (n E cnt:Nat) (dE:List Ev) (G:Nat->Prop) (w':World) (v':Value):Prop:=
 (∃ Y,Row .u64 w' v' (if E=0 then digs Y n else [])/\(E=0->G Y))/\(Fresh w v'/\U64s w' v')/\∃ o',Did w o (if n<=130 then List.replicate cnt (1,(n:Int),0) ++ dE else []) w' o'

theorem yw (o:Tr) (ao bo lo:OA) (n l K a b j p f:Nat) (g:Array Value) (A:Nat->OA) (N C:Nat->Nat) (D:Nat->LN) (ms rs:LN) (E rm:Nat) (dE:List Ev) (G:Nat->Prop) (w:World) (ap:dE.length<=rm)
  (ht:TrRoom w o (j+rm)) (hm:RowT w o (.slice ao n a) ms) (hr:RowT w o (.slice bo l b) rs) (Z:Digs ms) (ac:Digs rs) (hK:K<18446744073709551616) (ab:n<=1000000) (y:j<=1000)
  (hs:∀ W m o',Did w o m W o'->Slots W lo j A N C) (B:∀ i,i<j->RowT w o (.slice (A i) (N i) (C i)) (D i)) (z:∀ i,i<j->Digs (D i))
  (hf:∀ args w,(callFunc f args).run prog w=.ok (.enter f args) w)
  (X:n<=130->∀ W m o',Did w o m W o'->TrRoom W o' rm->ClZ f (#[.int .i64 (n:Int)] ++ g) W fun e w'=>∃ v',e=.returned v'/\lP W o' dE n (fun Y=>okMod ms K rs->jC j n (val ms) N D->G Y) w' v')
  (hE:E=0↔okMod ms K rs/\jC j n (val ms) N D) (al:E<=1) :
  ClZ 119 #[aP o,.agg (mzA ao n a K bo l b),.func (.func f) #[] g,.slice lo j p] w fun e w'=>∃ v',e=.returned (.tuple #[v',.int .i64 (E:Int)])/\Answered w o n E j dE G w' v':=by
 have he:∀ args w,(callFunc 183 args).run prog w=.ok (.enter 183 args) w:=fun _ _=>by simp [go_sem]
 obtain ⟨po,I⟩:=aM o;obtain ⟨W,hW⟩:=aj (((((w.alloc (.cells #[.pointer po] 57)).alloc (.cells (mzA ao n a K bo l b) 71)).alloc (.cells #[.func (.func f) #[] g] 154)).alloc (.cells #[.slice lo j p] 27)).alloc (.cells #[.slice none 0 0] 23))
 have k0:Kept af w W:=by rw [hW];exact (((((ah af w).alloc _).alloc _).alloc _).alloc _).alloc _
 have ad:W.heap.size=w.heap.size+1+1+1+1+1:=by rw [hW];simp
 have T:Box W w.heap.size (.pointer po) 57:=by rw [hW];exact ((((Box.new w _ _).alloc _).alloc _).alloc _).alloc _
 have R:W.heap[w.heap.size+1]? = some (.cells (mzA ao n a K bo l b) 71 (0,0)):=by
  rw [hW];refine aw (aw (aw ?_));have:=heap_alloc_new (w.alloc (.cells #[.pointer po] 57)) (.cells (mzA ao n a K bo l b) 71)
  rwa [show (w.alloc (.cells #[.pointer po] 57)).heap.size=w.heap.size+1 by simp] at this
 have P:Box W (w.heap.size+1+1) (.func (.func f) #[] g) 154:=by
  rw [hW];refine Box.alloc (Box.alloc ?_ _) _;have:=Box.new ((w.alloc (.cells #[.pointer po] 57)).alloc (.cells (mzA ao n a K bo l b) 71)) (.func (.func f) #[] g) 154
  rwa [show ((w.alloc (.cells #[.pointer po] 57)).alloc (.cells (mzA ao n a K bo l b) 71)).heap.size=w.heap.size+1+1 by simp] at this
 have Q:Box W (w.heap.size+1+1+1) (.slice lo j p) 27:=by
  rw [hW];refine Box.alloc ?_ _;have:=Box.new (((w.alloc (.cells #[.pointer po] 57)).alloc (.cells (mzA ao n a K bo l b) 71)).alloc (.cells #[.func (.func f) #[] g] 154)) (.slice lo j p) 27
  rwa [show (((w.alloc (.cells #[.pointer po] 57)).alloc (.cells (mzA ao n a K bo l b) 71)).alloc (.cells #[.func (.func f) #[] g] 154)).heap.size=w.heap.size+1+1+1 by simp] at this
 have F:Box W (w.heap.size+1+1+1+1) (.slice none 0 0) 23:=by
  rw [hW];have:=Box.new ((((w.alloc (.cells #[.pointer po] 57)).alloc (.cells (mzA ao n a K bo l b) 71)).alloc (.cells #[.func (.func f) #[] g] 154)).alloc (.cells #[.slice lo j p] 27)) (.slice none 0 0) 23
  rwa [show ((((w.alloc (.cells #[.pointer po] 57)).alloc (.cells (mzA ao n a K bo l b) 71)).alloc (.cells #[.func (.func f) #[] g] 154)).alloc (.cells #[.slice lo j p] 27)).heap.size=w.heap.size+1+1+1+1 by simp] at this
 have k1:=k0.alloc (.cells #[.int .i64 0] 35);have xe:=Box.new W (.int .i64 0) 35;have h1:=Fc o ao bo lo n l K a b j p f g A N C D ms rs (w.heap.size+1) (w.heap.size+1+1+1) w.heap.size (w.heap.size+1+1) (w.heap.size+1+1+1+1) E rm dE G _ (ht.g k1) (hm.g k1) (hr.g k1) Z ac hK ab y (fun W' m o' d=>hs W' m o' (Did.b k1 d)) (fun i hi=>(B i hi).g k1) z (aw R) (Q.alloc _) (by rw [I];exact T.alloc _) (P.alloc _) (F.alloc (.cells #[.int .i64 0] 35)) hf (fun hn W' m o' d=>X hn W' m o' (Did.b k1 d)) hE;have J:(W.alloc (.cells #[.int .i64 0] 35)).heap.size=W.heap.size+1:=by simp
 have O:=qQ 183 #[.pointer (some ⟨w.heap.size+1,0,none⟩),.pointer (some ⟨w.heap.size+1+1+1,0,none⟩),.pointer (some ⟨w.heap.size,0,none⟩),.pointer (some ⟨w.heap.size+1+1,0,none⟩),.pointer (some ⟨w.heap.size+1+1+1+1,0,none⟩)] W
  (fun c W'=>c=(E:Int)/\∃ (Y:Nat) (v':Value) (o1:Tr),Row .u64 W' v' (if E=0 then digs Y n else [])/\(E=0->G Y)/\((∀ x,v'.ownBlock=some x->W.heap.size+1<=x)/\U64s W' v')/\Did w o (if n<=130 then List.replicate j (1,(n:Int),0) ++ dE else []) W' o1/\TrIn W' o1/\Box W' (w.heap.size+1+1+1+1) v' 23) he (h1.mono (by
  have L:TrIn (W.alloc (.cells #[.int .i64 0] 35)) o:=(ht.g k1).1;rintro e w' (⟨hn,Y,v',w1,o1,hR,hF,hG,d,t⟩ | ⟨hn,h2,rfl,rfl⟩)
  ·have ae:=xe.did d L;have M:=(F.alloc (.cells #[.int .i64 0] 35)).did d L;have ag:TrIn w1 o1:=(d.room (k:=0) ((ht.g k1).l (by rw [bk,bw];omega))).1;have H:∀ x,v'.ownBlock=some x->W.heap.size+1<=x:=fun x hx=>by have:=hF.1 x hx;omega
   rcases t with ⟨h2,rfl,rfl⟩ | ⟨h2,rfl,rfl⟩
   ·have kb:=aF w1 (w.heap.size+1+1+1+1) v';have am:=M.apart ag;have d2:=(Did.b k1 d).wroteNew kb (by omega) am;refine ⟨ae.kept kb (by omega),.inl ⟨rfl,by rw [h2];rfl,Y,v',o1,?_,hG,⟨H,hF.2.kept kb (fun x hx e=>by have:=H x hx;omega)⟩,?_,?_,M.set v'⟩⟩
    ·rw [ai h2];exact hR.kept kb (fun x hx e=>by have:=H x hx;omega)
    ·rw [ai hn];exact d2
    ·exact (d2.room (k:=0) (ht.l (by rw [bk,bw];omega))).1
   ·refine ⟨ae,.inr ⟨1,rfl,by omega,Y,.slice none 0 0,o1,?_,hG,⟨(fun x hx=>by cases hx),U64s.nil _⟩,?_,ag,M⟩⟩
    ·rw [ar h2];exact Row.nil _ _
    ·rw [ai hn];exact Did.b k1 d
  ·refine ⟨xe,.inr ⟨1,rfl,by omega,0,.slice none 0 0,o,?_,(fun h=>absurd h h2),⟨(fun x hx=>by cases hx),U64s.nil _⟩,?_,L,F.alloc _⟩⟩
   ·rw [ar h2];exact Row.nil _ _
   ·rw [aK];exact Did.of_kept k1 ht.1))
 have HW:=aa hW;have q:=aa ad;have HT:=aa ht;rw [I];clear h1 hm hr Z ac hK ab y hs B z X hE al hW k0 k1 R F Q P T xe he ad J ht I hf;delta ClZ;go_in;go_wp2_with (rw [<- HW.o]);refine O.mono ?_;rintro e w' ⟨c,w1,rfl,⟨⟨rfl,Y,v',o1,hR,hG,hF,d,ti,hO⟩,V⟩,rfl⟩;obtain ⟨xo,xn,xc,rfl,_,_,_,_,_⟩:=hR.open;have s:Box w1 W.heap.size (.int .i64 0) 35:=V;have k3:=aF w1 W.heap.size (.int .i64 (E:Int));have an:w.heap.size+1+1+1+1≠W.heap.size:=by have:=q.o;omega
 have r:=hO.other ⟨W.heap.size,0,none⟩ an (.int .i64 (E:Int));have d3:=d.wroteNew k3 (by have:=q.o;omega) (s.apart ti);have ak:TrIn (w1.setCell ⟨W.heap.size,0,none⟩ (.int .i64 (E:Int))) o1:=(d3.room (k:=0) (HT.o.l (by split <;> simp <;> omega))).1;have S:=hR.kept k3 (fun x hx e=>by have:=hF.1 x hx;omega);have U:=hF.2.kept k3 (fun x hx e=>by have:=hF.1 x hx;omega);generalize w1.setCell ⟨W.heap.size,0,none⟩ (.int .i64 (E:Int))=w2 at *;have c0:=r.cell;have f0:=r.free;have c1:=(r.set (.slice xo xn xc)).cell;have k4:=aF w2 (w.heap.size+1+1+1+1) (.slice xo xn xc)
 have HR:=aa (S.kept k4 (fun x hx e=>by have:=hF.1 x hx;have:=q.o;omega));have HU:=aa (U.kept k4 (fun x hx e=>by have:=hF.1 x hx;have:=q.o;omega));have HD:=aa (d3.wroteNew k4 (by omega) (r.apart ak));have HF:HzD (Fresh w (.slice xo xn xc)):=fun x hx=>by have:=hF.1 x hx;have:=q.o;omega
 have HG:=aa hG;clear O hR S U hG hF d d3 ti ak hO r V s k3 k4;go_wp2_with fail;exact bodyPost_ret (v:=.tuple #[.slice xo xn xc,.int .i64 (E:Int)]) (by simp [results,results119,go_sem,c1]) rfl ⟨_,rfl,⟨Y,HR.o,HG.o⟩,⟨HF.o,HU.o⟩,o1,HD.o⟩

theorem okMod.a {l:Nat} (h:okMod ms K rs) (hn:ms.length=n) (hl:rs.length=l) (b:Digs ms) (c:Digs rs) (hK:K<18446744073709551616) :
  (val ms*K+1)%18446744073709551616=0/\0<n/\n<=130/\l=n/\val ms%2=1/\val ms<18446744073709551616^n/\val rs=18446744073709551616^(2*n)%val ms:=by
 obtain ⟨h1,h2,h3,h4⟩:=(pP hn hl b c hK).1 h;have a:val ms<18446744073709551616^n:=by rw [<- hn];exact aE (by omega) b
 obtain ⟨V,hV⟩:=aj (val ms)
 rw [<- hV] at h1 h2 h4 a ⊢;have m:=eu h.1;rw [<- hV] at m;unfold pu at h4;by_cases h5:(V*K+1)%18446744073709551616=0/\val rs=18446744073709551616^(2*n)%V
 ·refine ⟨h5.1,?_,by omega,h3,m.2.2,a,h5.2⟩;rcases cE n with h0 | h0
  ·rw [h0,cP] at a;omega
  ·exact h0
 ·rw [ar h5] at h4;omega

def de (n:Nat):List Ev:=List.replicate n (1,(n:Int),0) ++ List.replicate (n+2) (1,(n:Int),0)

theorem Reduced.done {o:Tr} {v':Value} {G:Nat->Prop} (h:Reduced W o m n K X V w' v') (hG:∀ Y,((V*K+1)%18446744073709551616=0->0<n->X<V*18446744073709551616^n->Y<V/\18446744073709551616^n*Y%V=X%V)->G Y):lP W o (m ++ List.replicate (n+2) (1,(n:Int),0)) n G w' v':=by
 obtain ⟨Y,o',h1,h2,h3⟩:=h;exact ⟨Y,o',h1,hG Y h2,h3⟩

def rK (n V X Z:Nat) (Y:Nat):Prop:=Y<V/\2^(64*n)*Y%V=(X*Z)%V

theorem Ju (o:Tr) (ao bo xo yo:OA) (n l K a c N1 N2 xc yc bT bM bA bB:Nat) (ms rs xs ys:LN) (w:World)
  (ht:TrRoom w o 1000) (hm:RowT w o (.slice ao n a) ms) (hx:RowT w o (.slice xo N1 xc) xs) (hy:RowT w o (.slice yo N2 yc) ys) (i:Digs ms) (v:Digs rs) (s:Digs xs) (t:Digs ys) (x:rs.length=l) (hK:K<18446744073709551616) (hn:n<=130)
  (hT:Box w bT (aP o) 57) (hM:w.heap[bM]? = some (.cells (mzA ao n a K bo l c) 71 (0,0))) (hA:Box w bA (.slice xo N1 xc) 23) (hB:Box w bB (.slice yo N2 yc) 23) :
  ClZ 162 #[.int .i64 (n:Int),.pointer (some ⟨bT,0,none⟩),.pointer (some ⟨bM,0,none⟩),.pointer (some ⟨bA,0,none⟩),.pointer (some ⟨bB,0,none⟩)] w fun e w'=>∃ v',e=.returned v' /\
   lP w o (de n) n (fun Y=>okMod ms K rs->(N1=n/\val xs<val ms)->(N2=n/\val ys<val ms)->rK n (val ms) (val xs) (val ys) Y) w' v':=by
 obtain ⟨_,_,_,e1,q,_,_,_,_⟩:=hm.1.open;cases e1
 obtain ⟨po,j⟩:=aM o;have f:=ht.1;have JC:HzD (∀ W m o',Did w o m W o'->W.cell? ⟨bT,0,none⟩=some (.pointer po)/\W.cell? ⟨bA,0,none⟩=some (.slice xo N1 xc)/\W.cell? ⟨bB,0,none⟩=some (.slice yo N2 yc)/\W.cell? ⟨bM,0,none⟩=some (.slice ao n a)/\W.cell? ⟨bM,1,none⟩=some (.int .u64 (K:Nat))/\W.cell? ⟨bM,2,none⟩=some (.slice bo l c)):=fun W m o' d=>by
  rw [<- j];exact ⟨(hT.did d f).cell,(hA.did d f).cell,(hB.did d f).cell,ax ((d.kept.block _ (lt_of_block hM) (aH hM f)).trans hM)⟩
 have JF:HzD (∀ W (zo:OA) (z zc:Nat) (zs:LN),Kept af w W->RowT w o (.slice zo z zc) zs->Digs zs->ClZ 122 #[.slice zo z zc,.int .i64 (n:Int)] W fun e w'=>∃ g,e=.returned (.slice (some ⟨g,0,none⟩) n n)/\Kept af W w'/\RowT w' o (.slice (some ⟨g,0,none⟩) n n) (digs (val zs) n)):=fun W zo z zc zs k hz y=>by
  refine (A3 (.slice zo z zc) zs n W (hz.1.g k) y).mono ?_;rintro e w' ⟨rfl,ho,k'⟩;exact ⟨_,rfl,k',ib ho (ag _ _ _) (ht.g (k.trans k')).1⟩
 have JX:HzD (∀ W,Kept af w W->ClZ 122 #[.slice xo N1 xc,.int .i64 (n:Int)] W fun e w'=>∃ g,e=.returned (.slice (some ⟨g,0,none⟩) n n)/\Kept af W w'/\RowT w' o (.slice (some ⟨g,0,none⟩) n n) (digs (val xs) n)):=fun W k=>JF.o W _ _ _ _ k hx s
 have JY:HzD (∀ W,Kept af w W->ClZ 122 #[.slice yo N2 yc,.int .i64 (n:Int)] W fun e w'=>∃ g,e=.returned (.slice (some ⟨g,0,none⟩) n n)/\Kept af W w'/\RowT w' o (.slice (some ⟨g,0,none⟩) n n) (digs (val ys) n)):=fun W k=>JF.o W _ _ _ _ k hy t
 have JT:HzD (∀ W g h,Kept af w W->RowT W o (.slice (some ⟨g,0,none⟩) n n) (digs (val xs) n)->RowT W o (.slice (some ⟨h,0,none⟩) n n) (digs (val ys) n)->ClZ 121 #[.pointer po,.agg (mzA ao n a K bo l c),.slice (some ⟨g,0,none⟩) n n,.slice (some ⟨h,0,none⟩) n n] W fun e w'=>∃ v',e=.returned v'/\lP w o (de n) n (fun Y=>okMod ms K rs->(N1=n/\val xs<val ms)->(N2=n/\val ys<val ms)->rK n (val ms) (val xs) (val ys) Y) w' v'):=fun W g h k hg hh=>by
  have:=yy o n K a l c n n ao bo _ _ _ _ ms W (ht.g k) hg hh (hm.g k) (ak (by omega) _ _) (ak (by omega) _ _) i hn;rw [j] at this;refine this.mono ?_;rintro e w' ⟨v',rfl,hR⟩;refine ⟨v',rfl,?_⟩;obtain ⟨Y,o',h1,h2,h3⟩:=hR.done (G:=fun Y=>okMod ms K rs->(N1=n/\val xs<val ms)->(N2=n/\val ys<val ms)->rK n (val ms) (val xs) (val ys) Y) (fun Y hY A h1 h2=>by
   obtain ⟨f1,f2,f3,f4,f5,f6,f7⟩:=A.a q.o x i v hK;rw [ay,ay,aB (bH h1.2 f6),aB (bH h2.2 f6)] at hY;have:=hY f1 f2 (mw h1.2 (eH (bH h2.2 f6)) (aX));rw [B64] at this;exact this)
  exact ⟨Y,o',dg h1 (fun b hb=>aI k.size (h1.lt b hb).1),h2,Did.b k h3⟩
 have h0:=Did.of_kept (ah af w) f;obtain ⟨c0,c1,c2,c3,c4,c5⟩:=JC.o _ _ _ h0;have p:=aa f;have JD:HzD (∀ (W:World) (v':Value) (G:Nat->Prop),lP w o (de n) n G W v'->∃ m o',Did w o m W o'):=fun W v' G h=>by
  obtain ⟨Y,o',_,_,d⟩:=h;exact ⟨_,_,d⟩
 clear ht hm hx hy i v s t x hK hT hM hA hB j f h0 JF q;generalize (fun Y=>okMod ms K rs->(N1=n/\val xs<val ms)->(N2=n/\val ys<val ms)->rK n (val ms) (val xs) (val ys) Y)=G at *;generalize val xs=X at *;generalize val ys=Z at *;delta ClZ;go_in;go_wp2_with fail;go_region_held3 (fun w'=>w'.cell? ⟨bT,0,none⟩=some (.pointer po)/\w'.cell? ⟨bA,0,none⟩=some (.slice xo N1 xc)/\w'.cell? ⟨bB,0,none⟩=some (.slice yo N2 yc)/\w'.cell? ⟨bM,0,none⟩=some (.slice ao n a)/\w'.cell? ⟨bM,1,none⟩=some (.int .u64 (K:Int))/\w'.cell? ⟨bM,2,none⟩=some (.slice bo l c))
  (((try dsimp only);(repeat' apply And.intro) <;> first | (go_keep;done) | assumption))
  (first
  | (go_at_call_of 122 (Value.slice xo N1 xc);refine (JX.o _ ?_).mono ?_;(exact (ah _ _).drew);rintro e w2 ⟨g2,rfl,k2,r2⟩;obtain ⟨q0,q1,q2,q3,q4,q5⟩:=JC.o _ _ _ (Did.of_kept ((ah _ _).drew.trans k2) p.o))
  | (go_at_call_of 122 (Value.slice yo N2 yc);refine (JY.o _ ?_).mono ?_;(exact (ah _ _).drew.trans k2);rintro e w3 ⟨g3,rfl,k3,r3⟩;obtain ⟨s0,s1,s2,s3,s4,s5⟩:=JC.o _ _ _ (Did.of_kept ((ah _ _).drew.trans (k2.trans k3)) p.o))
  | (go_at_call 121;refine (JT.o _ g2 g3 ?_ ?_ ?_).mono ?_;(exact (ah _ _).drew.trans (k2.trans k3));(exact r2.g k3);(exact r3);rintro e w4 ⟨v4,rfl,r⟩;obtain ⟨m4,o4,d4⟩:=JD.o _ _ _ r;obtain ⟨t0,t1,t2,t3,t4,t5⟩:=JC.o _ _ _ d4))
 all_goals
  go_wp2_with fail;go_ret;exact ⟨_,rfl,r⟩

theorem pf {g N1 N2 xc yc:Nat} {xo yo:OA} {t:TypeId} (h:W.heap[g]? = some (.cells #[.slice xo N1 xc,.slice yo N2 yc] t (0,0))):Slots W (some ⟨g,0,none⟩) 2 (fun i=>if i=0 then xo else yo) (fun i=>if i=0 then N1 else N2) (fun i=>if i=0 then xc else yc):=by
 intro i hi;refine ⟨g,0,rfl,?_⟩;have a:i=0\/i=1:=by omega
 rcases a with rfl | rfl
 ·exact (cell_of_row W g 0 _ _ _ h).trans rfl
 ·exact (cell_of_row W g 1 _ _ _ h).trans rfl

theorem qZ {g N1 xc:Nat} {xo:OA} {t:TypeId} (h:W.heap[g]? = some (.cells #[.slice xo N1 xc] t (0,0))):Slots W (some ⟨g,0,none⟩) 1 (fun _=>xo) (fun _=>N1) (fun _=>xc):=by
 intro i hi;refine ⟨g,0,rfl,?_⟩;obtain rfl:i=0:=by omega
 exact (cell_of_row W g 0 _ _ _ h).trans rfl

theorem Answered.b {o:Tr} {E a:Nat} {dE:List Ev} {G:Nat->Prop} {v':Value} (k:Kept af w W) (h:Answered W o n E a dE G w' v'):Answered w o n E a dE G w' v':=by
 obtain ⟨h1,h2,o',d⟩:=h;exact ⟨h1,⟨h2.1.b k,h2.2⟩,o',Did.b k d⟩

theorem Hn (o:Tr) (ao bo xo yo:OA) (n l K a b N1 N2 xc yc E:Nat) (ms rs xs ys:LN) (w:World)
  (ht:TrRoom w o 2000) (hm:RowT w o (.slice ao n a) ms) (hr:RowT w o (.slice bo l b) rs) (hx:RowT w o (.slice xo N1 xc) xs) (hy:RowT w o (.slice yo N2 yc) ys) (A:Digs ms) (C:Digs rs) (y:Digs xs) (z:Digs ys) (hK:K<18446744073709551616) (J:n<=300)
  (hE:E=0↔okMod ms K rs/\(N1=n/\val xs<val ms)/\(N2=n/\val ys<val ms)) (D:E<=1:=by omega) :
  ClZ 105 #[aP o,.agg (mzA ao n a K bo l b),.slice xo N1 xc,.slice yo N2 yc] w fun e w'=>∃ v',e=.returned (.tuple #[v',.int .i64 (E:Int)])/\Answered w o n E 2 (de n) (rK n (val ms) (val xs) (val ys)) w' v':=by
 have he:∀ args w,(callFunc 162 args).run prog w=.ok (.enter 162 args) w:=fun _ _=>by simp [go_sem]
 obtain ⟨po,B⟩:=aM o;obtain ⟨_,_,_,e1,F,_,_,_,_⟩:=hr.1.open;cases e1
 obtain ⟨W,hW⟩:=aj ((((w.alloc (.cells #[.pointer po] 57)).alloc (.cells (mzA ao n a K bo l b) 71)).alloc (.cells #[.slice xo N1 xc] 23)).alloc (.cells #[.slice yo N2 yc] 23))
 have k0:Kept af w W:=by rw [hW];exact ((((ah af w).alloc _).alloc _).alloc _).alloc _
 have x:Box W w.heap.size (.pointer po) 57:=by rw [hW];exact (((Box.new w _ _).alloc _).alloc _).alloc _
 have g:W.heap[w.heap.size+1]? = some (.cells (mzA ao n a K bo l b) 71 (0,0)):=by
  rw [hW];refine aw (aw ?_);have:=heap_alloc_new (w.alloc (.cells #[.pointer po] 57)) (.cells (mzA ao n a K bo l b) 71)
  rwa [show (w.alloc (.cells #[.pointer po] 57)).heap.size=w.heap.size+1 by simp] at this
 have t:Box W (w.heap.size+1+1) (.slice xo N1 xc) 23:=by
  rw [hW];refine Box.alloc ?_ _;have:=Box.new ((w.alloc (.cells #[.pointer po] 57)).alloc (.cells (mzA ao n a K bo l b) 71)) (.slice xo N1 xc) 23
  rwa [show ((w.alloc (.cells #[.pointer po] 57)).alloc (.cells (mzA ao n a K bo l b) 71)).heap.size=w.heap.size+1+1 by simp] at this
 have v:Box W (w.heap.size+1+1+1) (.slice yo N2 yc) 23:=by
  rw [hW];have:=Box.new (((w.alloc (.cells #[.pointer po] 57)).alloc (.cells (mzA ao n a K bo l b) 71)).alloc (.cells #[.slice xo N1 xc] 23)) (.slice yo N2 yc) 23
  rwa [show (((w.alloc (.cells #[.pointer po] 57)).alloc (.cells (mzA ao n a K bo l b) 71)).alloc (.cells #[.slice xo N1 xc] 23)).heap.size=w.heap.size+1+1+1 by simp] at this
 obtain ⟨Wl,q⟩:=aj (W.alloc (.cells #[.slice xo N1 xc,.slice yo N2 yc] 23))
 have kl:Kept af W Wl:=by rw [q];exact (ah af W).alloc _
 have r:Wl.heap[W.heap.size]? = some (.cells #[.slice xo N1 xc,.slice yo N2 yc] 23 (0,0)):=by rw [q];exact heap_alloc_new _ _
 have kk:=k0.trans kl;have c:=yw o ao bo (some ⟨W.heap.size,0,none⟩) n l K a b 2 2 162 #[.pointer (some ⟨w.heap.size,0,none⟩),.pointer (some ⟨w.heap.size+1,0,none⟩),.pointer (some ⟨w.heap.size+1+1,0,none⟩),.pointer (some ⟨w.heap.size+1+1+1,0,none⟩)]
  (fun i=>if i=0 then xo else yo) (fun i=>if i=0 then N1 else N2) (fun i=>if i=0 then xc else yc) (fun i=>if i=0 then xs else ys) ms rs E 1998 (de n) (rK n (val ms) (val xs) (val ys)) Wl (by unfold de;simp;omega)
  (ht.g kk) (hm.g kk) (hr.g kk) A C hK (by omega) (by omega)
  (fun W' m o' d=>pf ((d.kept.block _ (lt_of_block r) (aH r (ht.g kk).1 (by decide) (by decide))).trans r))
  (fun i hi=>by
   have j:i=0\/i=1:=by omega
   rcases j with rfl | rfl
   ·exact hx.g kk
   ·exact hy.g kk)
  (fun i hi=>by
   have j:i=0\/i=1:=by omega
   rcases j with rfl | rfl
   ·exact y
   ·exact z)
  he
  (fun hn W' m o' d p=>by
   have s:=(ht.g kk).1
   refine (Ju o' ao bo xo yo n l K a b N1 N2 xc yc w.heap.size (w.heap.size+1) (w.heap.size+1+1) (w.heap.size+1+1+1) ms rs xs ys W' (p.l (by omega)) ((hm.g kk).did d) ((hx.g kk).did d) ((hy.g kk).did d) A C y z F.o hK hn (by rw [d.ptr,B];exact (x.g kl).did d s) ((d.kept.block _ (lt_of_block ((kl.block _ (lt_of_block g) (fun f=>f)).trans g)) (aH ((kl.block _ (lt_of_block g) (fun f=>f)).trans g) s)).trans ((kl.block _ (lt_of_block g) (fun f=>f)).trans g)) ((t.g kl).did d s) ((v.g kl).did d s)).mono ?_
   rintro e w' ⟨v',rfl,Y,o2,h1,h2,h3⟩;exact ⟨v',rfl,Y,o2,h1,fun L k=>h2 L (k 0 (by omega)) (k 1 (by omega)),h3⟩)
  (by
   rw [hE];refine and_congr_right fun _=>⟨fun h i hi=>?_,fun h=>⟨h 0 (by omega),h 1 (by omega)⟩⟩
   have j:i=0\/i=1:=by omega
   rcases j with rfl | rfl
   ·exact h.1
   ·exact h.2) D
 have HB:HzD (∀ w' v',Answered Wl o n E 2 (de n) (rK n (val ms) (val xs) (val ys)) w' v'->Answered w o n E 2 (de n) (rK n (val ms) (val xs) (val ys)) w' v'):=fun w' v' h=>h.b kk
 have H:W.heap.size=w.heap.size+1+1+1+1:=by rw [hW];simp
 rw [H] at c;have HW:=aa hW;have I:=aa q;have JM:=ax g;obtain ⟨c3,c4,c5⟩:=JM;have c0:=x.cell;have c1:=t.cell;have c2:=v.cell;rw [B] at c ⊢;clear ht hm hr hx hy A C y z hK J hE D B k0 x g t v hW q r kk kl he F H;generalize rK n (val ms) (val xs) (val ys)=G at *;delta ClZ;go_in;go_wp2_with fail;rw [<- HW.o,<- I.o];refine c.mono ?_;rintro e w1 ⟨v1,rfl,h1⟩;have H1:=aa (HB.o _ _ h1);clear c h1 c0 c1 c2 c3 c4 c5;go_wp2_with fail;go_ret2;exact ⟨_,rfl,H1.o⟩

def mV (n V X:Nat) (Y:Nat):Prop:=Y=2^(64*n)*X%V

theorem EK (a:V%2=1) (hY:Y<V) (h:18446744073709551616^n*Y%V=(X*(18446744073709551616^(2*n)%V))%V):mV n V X Y:=by
 unfold mV;have b:Nat.Coprime (18446744073709551616^n) V:=by rw [B64];exact (ia a).symm
 rw [<- B64,<- aB hY];apply jf b;rw [h,cH,ep,<- cH,Nat.two_mul,aL]
 congr 1
 generalize 18446744073709551616^n=p
 grind

def sQ (n V X:Nat) (Y:Nat):Prop:=Y<V/\2^(64*n)*Y%V=X%V

theorem Fe (o:Tr) (ao bo xo:OA) (n l K c a N1 xc bT bM bA:Nat) (ms rs xs:LN) (w:World)
  (ht:TrRoom w o 1000) (hm:RowT w o (.slice ao n c) ms) (hx:RowT w o (.slice xo N1 xc) xs) (hy:RowT w o (.slice bo l a) rs) (i:Digs ms) (p:Digs rs) (v:Digs xs) (x:rs.length=l) (hK:K<18446744073709551616) (hn:n<=130)
  (hT:Box w bT (aP o) 57) (hM:w.heap[bM]? = some (.cells (mzA ao n c K bo l a) 71 (0,0))) (hA:Box w bA (.slice xo N1 xc) 23) :
  ClZ 120 #[.int .i64 (n:Int),.pointer (some ⟨bT,0,none⟩),.pointer (some ⟨bM,0,none⟩),.pointer (some ⟨bA,0,none⟩)] w fun e w'=>∃ v',e=.returned v' /\
   lP w o (de n) n (fun Y=>okMod ms K rs->(N1=n/\val xs<val ms)->mV n (val ms) (val xs) Y) w' v':=by
 obtain ⟨_,_,_,e1,r,_,_,_,_⟩:=hm.1.open;cases e1
 obtain ⟨po,j⟩:=aM o;have f:=ht.1;have JC:HzD (∀ W m o',Did w o m W o'->W.cell? ⟨bT,0,none⟩=some (.pointer po)/\W.cell? ⟨bA,0,none⟩=some (.slice xo N1 xc)/\W.cell? ⟨bM,0,none⟩=some (.slice ao n c)/\W.cell? ⟨bM,1,none⟩=some (.int .u64 (K:Nat))/\W.cell? ⟨bM,2,none⟩=some (.slice bo l a)):=fun W m o' d=>by
  rw [<- j];exact ⟨(hT.did d f).cell,(hA.did d f).cell,ax ((d.kept.block _ (lt_of_block hM) (aH hM f)).trans hM)⟩
 have JF:HzD (∀ W (zo:OA) (z zc:Nat) (zs:LN),Kept af w W->RowT w o (.slice zo z zc) zs->Digs zs->ClZ 122 #[.slice zo z zc,.int .i64 (n:Int)] W fun e w'=>∃ g,e=.returned (.slice (some ⟨g,0,none⟩) n n)/\Kept af W w'/\RowT w' o (.slice (some ⟨g,0,none⟩) n n) (digs (val zs) n)):=fun W zo z zc zs k hz y=>by
  refine (A3 (.slice zo z zc) zs n W (hz.1.g k) y).mono ?_;rintro e w' ⟨rfl,ho,k'⟩;exact ⟨_,rfl,k',ib ho (ag _ _ _) (ht.g (k.trans k')).1⟩
 have JX:HzD (∀ W,Kept af w W->ClZ 122 #[.slice xo N1 xc,.int .i64 (n:Int)] W fun e w'=>∃ g,e=.returned (.slice (some ⟨g,0,none⟩) n n)/\Kept af W w'/\RowT w' o (.slice (some ⟨g,0,none⟩) n n) (digs (val xs) n)):=fun W k=>JF.o W _ _ _ _ k hx v
 have JY:HzD (∀ W,Kept af w W->ClZ 122 #[.slice bo l a,.int .i64 (n:Int)] W fun e w'=>∃ g,e=.returned (.slice (some ⟨g,0,none⟩) n n)/\Kept af W w'/\RowT w' o (.slice (some ⟨g,0,none⟩) n n) (digs (val rs) n)):=fun W k=>JF.o W _ _ _ _ k hy p
 have JT:HzD (∀ W g h,Kept af w W->RowT W o (.slice (some ⟨g,0,none⟩) n n) (digs (val xs) n)->RowT W o (.slice (some ⟨h,0,none⟩) n n) (digs (val rs) n)->ClZ 121 #[.pointer po,.agg (mzA ao n c K bo l a),.slice (some ⟨g,0,none⟩) n n,.slice (some ⟨h,0,none⟩) n n] W fun e w'=>∃ v',e=.returned v'/\lP w o (de n) n (fun Y=>okMod ms K rs->(N1=n/\val xs<val ms)->mV n (val ms) (val xs) Y) w' v'):=fun W g h k hg hh=>by
  have:=yy o n K c l a n n ao bo _ _ _ _ ms W (ht.g k) hg hh (hm.g k) (ak (by omega) _ _) (ak (by omega) _ _) i hn;rw [j] at this;refine this.mono ?_;rintro e w' ⟨v',rfl,hR⟩;refine ⟨v',rfl,?_⟩;obtain ⟨Y,o',h1,h2,h3⟩:=hR.done (G:=fun Y=>okMod ms K rs->(N1=n/\val xs<val ms)->mV n (val ms) (val xs) Y) (fun Y hY A h1=>by
   obtain ⟨f1,f2,f3,f4,f5,f6,f7⟩:=A.a r.o x i p hK;have s:val rs<val ms:=by rw [f7];exact bu
   rw [ay,ay,aB (bH h1.2 f6),aB (bH s f6)] at hY;have h2:=hY f1 f2 (mw h1.2 (eH (bH s f6)) (aX));exact EK f5 h2.1 (by rw [f7] at h2;exact h2.2))
  exact ⟨Y,o',dg h1 (fun b hb=>aI k.size (h1.lt b hb).1),h2,Did.b k h3⟩
 have h0:=Did.of_kept (ah af w) f;obtain ⟨c0,c1,c3,c4,c5⟩:=JC.o _ _ _ h0;have q:=aa f;have JD:HzD (∀ (W:World) (v':Value) (G:Nat->Prop),lP w o (de n) n G W v'->∃ m o',Did w o m W o'):=fun W v' G h=>by
  obtain ⟨Y,o',_,_,d⟩:=h;exact ⟨_,_,d⟩
 clear ht hm hx hy i p v x hK hT hM hA j f h0 JF r;generalize (fun Y=>okMod ms K rs->(N1=n/\val xs<val ms)->mV n (val ms) (val xs) Y)=G at *;generalize val xs=X at *;generalize val rs=Z at *;delta ClZ;go_in;go_wp2_with fail;go_region_held3 (fun w'=>w'.cell? ⟨bT,0,none⟩=some (.pointer po)/\w'.cell? ⟨bA,0,none⟩=some (.slice xo N1 xc)/\w'.cell? ⟨bM,0,none⟩=some (.slice ao n c)/\w'.cell? ⟨bM,1,none⟩=some (.int .u64 (K:Int))/\w'.cell? ⟨bM,2,none⟩=some (.slice bo l a))
  (((try dsimp only);(repeat' apply And.intro) <;> first | (go_keep;done) | assumption))
  (first
  | (go_at_call_of 122 (Value.slice xo N1 xc);refine (JX.o _ ?_).mono ?_;(exact (ah _ _).drew);rintro e w2 ⟨g2,rfl,k2,r2⟩;obtain ⟨q0,q1,q3,q4,q5⟩:=JC.o _ _ _ (Did.of_kept ((ah _ _).drew.trans k2) q.o))
  | (go_at_call_of 122 (Value.slice bo l a);refine (JY.o _ ?_).mono ?_;(exact (ah _ _).drew.trans k2);rintro e w3 ⟨g3,rfl,k3,r3⟩;obtain ⟨s0,s1,s3,s4,s5⟩:=JC.o _ _ _ (Did.of_kept ((ah _ _).drew.trans (k2.trans k3)) q.o))
  | (go_at_call 121;refine (JT.o _ g2 g3 ?_ ?_ ?_).mono ?_;(exact (ah _ _).drew.trans (k2.trans k3));(exact r2.g k3);(exact r3);rintro e w4 ⟨v4,rfl,t⟩;obtain ⟨m4,o4,d4⟩:=JD.o _ _ _ t;obtain ⟨t0,t1,t3,t4,t5⟩:=JC.o _ _ _ d4))
 all_goals
  go_wp2_with fail;go_ret;exact ⟨_,rfl,t⟩

theorem Ff (o:Tr) (ao bo xo:OA) (n l K a b N1 xc bT bM bA:Nat) (ms rs xs:LN) (w:World)
  (ht:TrRoom w o 1000) (hm:RowT w o (.slice ao n a) ms) (hx:RowT w o (.slice xo N1 xc) xs) (f:Digs ms) (r:Digs rs) (q:Digs xs) (s:rs.length=l) (hK:K<18446744073709551616) (hn:n<=130)
  (hT:Box w bT (aP o) 57) (hM:w.heap[bM]? = some (.cells (mzA ao n a K bo l b) 71 (0,0))) (hA:Box w bA (.slice xo N1 xc) 23) :
  ClZ 123 #[.int .i64 (n:Int),.pointer (some ⟨bT,0,none⟩),.pointer (some ⟨bM,0,none⟩),.pointer (some ⟨bA,0,none⟩)] w fun e w'=>∃ v',e=.returned v' /\
   lP w o (List.replicate (n+2) (1,(n:Int),0)) n (fun Y=>okMod ms K rs->(N1=n/\val xs<val ms)->sQ n (val ms) (val xs) Y) w' v':=by
 obtain ⟨_,_,_,e1,j,_,_,_,_⟩:=hm.1.open;cases e1
 obtain ⟨po,i⟩:=aM o;have c:=ht.1;obtain ⟨N,hN⟩:=aj (n+n)
 have JC:HzD (∀ W m o',Did w o m W o'->W.cell? ⟨bT,0,none⟩=some (.pointer po)/\W.cell? ⟨bA,0,none⟩=some (.slice xo N1 xc)/\W.cell? ⟨bM,0,none⟩=some (.slice ao n a)/\W.cell? ⟨bM,1,none⟩=some (.int .u64 (K:Nat))/\W.cell? ⟨bM,2,none⟩=some (.slice bo l b)):=fun W m o' d=>by
  rw [<- i];exact ⟨(hT.did d c).cell,(hA.did d c).cell,ax ((d.kept.block _ (lt_of_block hM) (aH hM c)).trans hM)⟩
 have JX:HzD (∀ W,Kept af w W->ClZ 122 #[.slice xo N1 xc,.int .i64 (N:Int)] W fun e w'=>∃ g,e=.returned (.slice (some ⟨g,0,none⟩) N N)/\Kept af w w'/\w.heap.size<=g/\OwnN .u64 24 w' g (.slice (some ⟨g,0,none⟩) N N) N (digs (val xs) N)):=fun W k=>by
  refine (A3 (.slice xo N1 xc) xs N W (hx.1.g k) q).mono ?_;rintro e w' ⟨rfl,ho,k'⟩;exact ⟨_,rfl,k.trans k',k.size,ho⟩
 have JT:HzD (∀ W g,Kept af w W->w.heap.size<=g->OwnN .u64 24 W g (.slice (some ⟨g,0,none⟩) N N) N (digs (val xs) N)->ClZ 124 #[.pointer po,.agg (mzA ao n a K bo l b),.slice (some ⟨g,0,none⟩) N N] W fun e w'=>∃ v',e=.returned v'/\lP w o (List.replicate (n+2) (1,(n:Int),0)) n (fun Y=>okMod ms K rs->(N1=n/\val xs<val ms)->sQ n (val ms) (val xs) Y) w' v'):=fun W g k hg ho=>by
  have:=qS w o o [] g g N N n K a l b ao bo _ ms W (Did.of_kept k c) (ht.l (by simp;omega)) hg ho (ag _ _ _) (ak (by omega) _ _) hN (by omega) hm f;rw [i] at this;refine this.mono ?_;rintro e w' ⟨v',rfl,hR⟩;refine ⟨v',rfl,?_⟩;have:=hR.done (G:=fun Y=>okMod ms K rs->(N1=n/\val xs<val ms)->sQ n (val ms) (val xs) Y) (fun Y hY y h1=>by
   obtain ⟨f1,f2,f3,f4,f5,f6,f7⟩:=y.a j.o s f r hK;have hp:18446744073709551616^n<=18446744073709551616^N:=bj (by omega) (by omega);rw [ay,aB (bi (bH h1.2 f6) hp)] at hY;have:=hY f1 f2 (bi h1.2 (Nat.le_mul_of_pos_right _ (aX)));rw [B64] at this;exact this)
  exact this
 have h0:=Did.of_kept (ah af w) c;obtain ⟨c0,c1,c3,c4,c5⟩:=JC.o _ _ _ h0;have t:=aa c;have JD:HzD (∀ (W:World) (v':Value) (G:Nat->Prop),lP w o (List.replicate (n+2) (1,(n:Int),0)) n G W v'->∃ m o',Did w o m W o'):=fun W v' G h=>by
  obtain ⟨Y,o',_,_,d⟩:=h;exact ⟨_,_,d⟩
 have g2:IntKind.i64.wrap (2*(n:Int))=(N:Int):=jN
 clear ht hm hx f r q s hK hT hM hA i c h0 j hN;generalize (fun Y=>okMod ms K rs->(N1=n/\val xs<val ms)->sQ n (val ms) (val xs) Y)=G at *;generalize val xs=X at *;delta ClZ;go_in;go_wp2_with fail;go_region_held3 (fun w'=>w'.cell? ⟨bT,0,none⟩=some (.pointer po)/\w'.cell? ⟨bA,0,none⟩=some (.slice xo N1 xc)/\w'.cell? ⟨bM,0,none⟩=some (.slice ao n a)/\w'.cell? ⟨bM,1,none⟩=some (.int .u64 (K:Int))/\w'.cell? ⟨bM,2,none⟩=some (.slice bo l b))
  (((try dsimp only);(repeat' apply And.intro) <;> first | (go_keep;done) | assumption))
  (first
  | (go_at_call 122;refine (JX.o _ ?_).mono ?_;(exact (ah _ _).drew);rintro e w2 ⟨v,rfl,k2,x,r2⟩;obtain ⟨q0,q1,q3,q4,q5⟩:=JC.o _ _ _ (Did.of_kept k2 t.o))
  | (go_at_call 124;refine (JT.o _ v k2 x r2).mono ?_;rintro e w4 ⟨v4,rfl,p⟩;obtain ⟨m4,o4,d4⟩:=JD.o _ _ _ p;obtain ⟨t0,t1,t3,t4,t5⟩:=JC.o _ _ _ d4))
 all_goals
  go_wp2_with fail;go_ret;exact ⟨_,rfl,p⟩

theorem qR (o:Tr) (ao bo xo:OA) (n l K a b N1 xc E:Nat) (ms rs xs:LN) (w:World)
  (ht:TrRoom w o 2000) (hm:RowT w o (.slice ao n a) ms) (hr:RowT w o (.slice bo l b) rs) (hx:RowT w o (.slice xo N1 xc) xs) (v:Digs ms) (y:Digs rs) (t:Digs xs) (hK:K<18446744073709551616) (F:n<=300)
  (hE:E=0↔okMod ms K rs/\(N1=n/\val xs<val ms)) (A:E<=1:=by omega) :
  ClZ 68 #[aP o,.agg (mzA ao n a K bo l b),.slice xo N1 xc] w fun e w'=>∃ v',e=.returned (.tuple #[v',.int .i64 (E:Int)])/\Answered w o n E 1 (de n) (mV n (val ms) (val xs)) w' v':=by
 have he:∀ args w,(callFunc 120 args).run prog w=.ok (.enter 120 args) w:=fun _ _=>by simp [go_sem]
 obtain ⟨po,x⟩:=aM o;obtain ⟨_,_,_,e1,B,_,_,_,_⟩:=hr.1.open;cases e1
 obtain ⟨W,hW⟩:=aj (((w.alloc (.cells #[.pointer po] 57)).alloc (.cells (mzA ao n a K bo l b) 71)).alloc (.cells #[.slice xo N1 xc] 23))
 have k0:Kept af w W:=by rw [hW];exact (((ah af w).alloc _).alloc _).alloc _
 have r:Box W w.heap.size (.pointer po) 57:=by rw [hW];exact ((Box.new w _ _).alloc _).alloc _
 have g:W.heap[w.heap.size+1]? = some (.cells (mzA ao n a K bo l b) 71 (0,0)):=by
  rw [hW];refine aw ?_;have:=heap_alloc_new (w.alloc (.cells #[.pointer po] 57)) (.cells (mzA ao n a K bo l b) 71)
  rwa [show (w.alloc (.cells #[.pointer po] 57)).heap.size=w.heap.size+1 by simp] at this
 have q:Box W (w.heap.size+1+1) (.slice xo N1 xc) 23:=by
  rw [hW];have:=Box.new ((w.alloc (.cells #[.pointer po] 57)).alloc (.cells (mzA ao n a K bo l b) 71)) (.slice xo N1 xc) 23
  rwa [show ((w.alloc (.cells #[.pointer po] 57)).alloc (.cells (mzA ao n a K bo l b) 71)).heap.size=w.heap.size+1+1 by simp] at this
 obtain ⟨Wl,k⟩:=aj (W.alloc (.cells #[.slice xo N1 xc] 23))
 have kl:Kept af W Wl:=by rw [k];exact (ah af W).alloc _
 have p:Wl.heap[W.heap.size]? = some (.cells #[.slice xo N1 xc] 23 (0,0)):=by rw [k];exact heap_alloc_new _ _
 have kk:=k0.trans kl;have c:=yw o ao bo (some ⟨W.heap.size,0,none⟩) n l K a b 1 1 120 #[.pointer (some ⟨w.heap.size,0,none⟩),.pointer (some ⟨w.heap.size+1,0,none⟩),.pointer (some ⟨w.heap.size+1+1,0,none⟩)]
  (fun _=>xo) (fun _=>N1) (fun _=>xc) (fun _=>xs) ms rs E 1999 (de n) (mV n (val ms) (val xs)) Wl (by unfold de;simp;omega)
  (ht.g kk) (hm.g kk) (hr.g kk) v y hK (by omega) (by omega)
  (fun W' m o' d=>qZ ((d.kept.block _ (lt_of_block p) (aH p (ht.g kk).1 (by decide) (by decide))).trans p))
  (fun i hi=>hx.g kk)
  (fun i hi=>t)
  he
  (fun hn W' m o' d j=>by
   have z:=(ht.g kk).1;refine (Fe o' ao bo xo n l K a b N1 xc w.heap.size (w.heap.size+1) (w.heap.size+1+1) ms rs xs W' (j.l (by omega)) ((hm.g kk).did d) ((hx.g kk).did d) ((hr.g kk).did d) v y t B.o hK hn (by rw [d.ptr,x];exact (r.g kl).did d z) ((d.kept.block _ (lt_of_block ((kl.block _ (lt_of_block g) (fun f=>f)).trans g)) (aH ((kl.block _ (lt_of_block g) (fun f=>f)).trans g) z)).trans ((kl.block _ (lt_of_block g) (fun f=>f)).trans g)) ((q.g kl).did d z)).mono ?_;rintro e w' ⟨v',rfl,Y,o2,h1,h2,h3⟩
   exact ⟨v',rfl,Y,o2,h1,fun H s=>h2 H (s 0 (by omega)),h3⟩)
  (by
   rw [hE];exact and_congr_right fun _=>⟨fun h i hi=>h,fun h=>h 0 (by omega)⟩) A
 have HB:HzD (∀ w' v',Answered Wl o n E 1 (de n) (mV n (val ms) (val xs)) w' v'->Answered w o n E 1 (de n) (mV n (val ms) (val xs)) w' v'):=fun w' v' h=>h.b kk
 have C:W.heap.size=w.heap.size+1+1+1:=by rw [hW];simp
 rw [C] at c;have HW:=aa hW;have D:=aa k;have JM:=ax g;obtain ⟨c3,c4,c5⟩:=JM;have c0:=r.cell;have c1:=q.cell;rw [x] at c ⊢;clear ht hm hr hx v y t hK F hE A x k0 r g q hW k p kk kl he B C;generalize mV n (val ms) (val xs)=G at *;delta ClZ;go_in;go_wp2_with fail;rw [<- HW.o,<- D.o];refine c.mono ?_;rintro e w1 ⟨v1,rfl,h1⟩;have H1:=aa (HB.o _ _ h1);clear c h1 c0 c1 c3 c4 c5;go_wp2_with fail;go_ret2;exact ⟨_,rfl,H1.o⟩

theorem CG (o:Tr) (ao bo xo:OA) (n l K a b N1 xc E:Nat) (ms rs xs:LN) (w:World)
  (ht:TrRoom w o 2000) (hm:RowT w o (.slice ao n a) ms) (hr:RowT w o (.slice bo l b) rs) (hx:RowT w o (.slice xo N1 xc) xs) (v:Digs ms) (y:Digs rs) (t:Digs xs) (hK:K<18446744073709551616) (F:n<=300)
  (hE:E=0↔okMod ms K rs/\(N1=n/\val xs<val ms)) (A:E<=1:=by omega) :
  ClZ 69 #[aP o,.agg (mzA ao n a K bo l b),.slice xo N1 xc] w fun e w'=>∃ v',e=.returned (.tuple #[v',.int .i64 (E:Int)])/\Answered w o n E 1 (List.replicate (n+2) (1,(n:Int),0)) (sQ n (val ms) (val xs)) w' v':=by
 have he:∀ args w,(callFunc 123 args).run prog w=.ok (.enter 123 args) w:=fun _ _=>by simp [go_sem]
 obtain ⟨po,x⟩:=aM o;obtain ⟨_,_,_,e1,B,_,_,_,_⟩:=hr.1.open;cases e1
 obtain ⟨W,hW⟩:=aj (((w.alloc (.cells #[.pointer po] 57)).alloc (.cells (mzA ao n a K bo l b) 71)).alloc (.cells #[.slice xo N1 xc] 23))
 have k0:Kept af w W:=by rw [hW];exact (((ah af w).alloc _).alloc _).alloc _
 have r:Box W w.heap.size (.pointer po) 57:=by rw [hW];exact ((Box.new w _ _).alloc _).alloc _
 have g:W.heap[w.heap.size+1]? = some (.cells (mzA ao n a K bo l b) 71 (0,0)):=by
  rw [hW];refine aw ?_;have:=heap_alloc_new (w.alloc (.cells #[.pointer po] 57)) (.cells (mzA ao n a K bo l b) 71)
  rwa [show (w.alloc (.cells #[.pointer po] 57)).heap.size=w.heap.size+1 by simp] at this
 have q:Box W (w.heap.size+1+1) (.slice xo N1 xc) 23:=by
  rw [hW];have:=Box.new ((w.alloc (.cells #[.pointer po] 57)).alloc (.cells (mzA ao n a K bo l b) 71)) (.slice xo N1 xc) 23
  rwa [show ((w.alloc (.cells #[.pointer po] 57)).alloc (.cells (mzA ao n a K bo l b) 71)).heap.size=w.heap.size+1+1 by simp] at this
 obtain ⟨Wl,k⟩:=aj (W.alloc (.cells #[.slice xo N1 xc] 23))
 have kl:Kept af W Wl:=by rw [k];exact (ah af W).alloc _
 have p:Wl.heap[W.heap.size]? = some (.cells #[.slice xo N1 xc] 23 (0,0)):=by rw [k];exact heap_alloc_new _ _
 have kk:=k0.trans kl;have c:=yw o ao bo (some ⟨W.heap.size,0,none⟩) n l K a b 1 1 123 #[.pointer (some ⟨w.heap.size,0,none⟩),.pointer (some ⟨w.heap.size+1,0,none⟩),.pointer (some ⟨w.heap.size+1+1,0,none⟩)]
  (fun _=>xo) (fun _=>N1) (fun _=>xc) (fun _=>xs) ms rs E 1999 (List.replicate (n+2) (1,(n:Int),0)) (sQ n (val ms) (val xs)) Wl (by simp;omega)
  (ht.g kk) (hm.g kk) (hr.g kk) v y hK (by omega) (by omega)
  (fun W' m o' d=>qZ ((d.kept.block _ (lt_of_block p) (aH p (ht.g kk).1 (by decide) (by decide))).trans p))
  (fun i hi=>hx.g kk)
  (fun i hi=>t)
  he
  (fun hn W' m o' d j=>by
   have z:=(ht.g kk).1;refine (Ff o' ao bo xo n l K a b N1 xc w.heap.size (w.heap.size+1) (w.heap.size+1+1) ms rs xs W' (j.l (by omega)) ((hm.g kk).did d) ((hx.g kk).did d) v y t B.o hK hn (by rw [d.ptr,x];exact (r.g kl).did d z) ((d.kept.block _ (lt_of_block ((kl.block _ (lt_of_block g) (fun f=>f)).trans g)) (aH ((kl.block _ (lt_of_block g) (fun f=>f)).trans g) z)).trans ((kl.block _ (lt_of_block g) (fun f=>f)).trans g)) ((q.g kl).did d z)).mono ?_;rintro e w' ⟨v',rfl,Y,o2,h1,h2,h3⟩
   exact ⟨v',rfl,Y,o2,h1,fun H s=>h2 H (s 0 (by omega)),h3⟩)
  (by
   rw [hE];exact and_congr_right fun _=>⟨fun h i hi=>h,fun h=>h 0 (by omega)⟩) A
 have HB:HzD (∀ w' v',Answered Wl o n E 1 (List.replicate (n+2) (1,(n:Int),0)) (sQ n (val ms) (val xs)) w' v'->Answered w o n E 1 (List.replicate (n+2) (1,(n:Int),0)) (sQ n (val ms) (val xs)) w' v'):=fun w' v' h=>h.b kk
 have C:W.heap.size=w.heap.size+1+1+1:=by rw [hW];simp
 rw [C] at c;have HW:=aa hW;have D:=aa k;have JM:=ax g;obtain ⟨c3,c4,c5⟩:=JM;have c0:=r.cell;have c1:=q.cell;rw [x] at c ⊢;clear ht hm hr hx v y t hK F hE A x k0 r g q hW k p kk kl he B C;generalize sQ n (val ms) (val xs)=G at *;delta ClZ;go_in;go_wp2_with fail;rw [<- HW.o,<- D.o];refine c.mono ?_;rintro e w1 ⟨v1,rfl,h1⟩;have H1:=aa (HB.o _ _ h1);clear c h1 c0 c1 c3 c4 c5;go_wp2_with fail;go_ret2;exact ⟨_,rfl,H1.o⟩

theorem LY (ao bo:OA) (n l K b a:Nat) (ms rs RL:LN) (w:World) (hm:Row .u64 w (.slice ao n b) ms) (hr:Row .u64 w (.slice bo l a) rs) (h:Digs ms) (i:Digs rs) (hK:K<18446744073709551616) (x:n<=300)
  (d:okMod ms K rs->RL=digs (2^(64*n)%val ms) n) (c:¬ okMod ms K rs->RL=[]) :
  ClZ 125 #[.agg (mzA ao n b K bo l a)] w fun e w'=>∃ v',e=.returned v'/\Row .u64 w' v' RL/\Kept af w w':=by
 obtain ⟨_,_,_,e1,m,_,_,_,_⟩:=hm.open;cases e1
 obtain ⟨_,_,_,e1,o,_,_,_,_⟩:=hr.open;cases e1
 obtain ⟨W,hW⟩:=aj (w.alloc (.cells (mzA ao n b K bo l a) 71))
 have k0:Kept af w W:=by rw [hW];exact (ah af w).alloc _
 have j:W.heap[w.heap.size]? = some (.cells (mzA ao n b K bo l a) 71 (0,0)):=by rw [hW];exact heap_alloc_new _ _
 obtain ⟨p0,p1,p2⟩:=ax j;have HW:=aa hW;have p:=aa k0;by_cases hok:okMod ms K rs
 ·obtain ⟨f1,f2,f3,f4,f5,f6,f7⟩:=hok.a m.o o.o h i hK;obtain ⟨N,hN⟩:=aj (n+n)
  have hC:=oS ao bo n l K b a ms rs true (by simp [hok]) W (hm.g k0) (hr.g k0) h i hK;have JX:HzD (∀ W',Kept af W W'->ClZ 122 #[.slice bo l a,.int .i64 (N:Int)] W' fun e w'=>∃ g,e=.returned (.slice (some ⟨g,0,none⟩) N N)/\Kept af W w'/\W.heap.size<=g/\OwnN .u64 24 w' g (.slice (some ⟨g,0,none⟩) N N) N (digs (val rs) N)):=fun W' k=>by
   refine (A3 (.slice bo l a) rs N W' (hr.g (k0.trans k)) i).mono ?_;rintro e w' ⟨rfl,ho,k'⟩;exact ⟨_,rfl,k.trans k',k.size,ho⟩
  have JT:HzD (∀ W' g,Kept af W W'->W.heap.size<=g->OwnN .u64 24 W' g (.slice (some ⟨g,0,none⟩) N N) N (digs (val rs) N)->ClZ 124 #[.pointer none,.agg (mzA ao n b K bo l a),.slice (some ⟨g,0,none⟩) N N] W' fun e w'=>∃ v',e=.returned v'/\Row .u64 w' v' RL/\Kept af W w'):=fun W' g k hg ho=>by
   have:=qS W none none [] g g N N n K b l a ao bo _ ms W' (Did.of_kept k trivial) (TrRoom.none _ _ (by simp;omega)) hg ho (ag _ _ _) (ak (by omega) _ _) hN (by omega) (RowT.none (hm.g k0)) h;refine this.mono ?_;rintro e w' ⟨v',rfl,Y,o',h1,h2,h3⟩;refine ⟨v',rfl,?_,h3.none.2⟩;have hp:18446744073709551616^n<=18446744073709551616^N:=bj (by omega) (by omega);have q:val rs<val ms:=by rw [f7];exact bu
   rw [ay,aB (bi (bH q f6) hp)] at h2;obtain ⟨y1,y2⟩:=h2 f1 f2 (bi q (Nat.le_mul_of_pos_right _ (aX)));rw [d hok];have s:Nat.Coprime (18446744073709551616^n) (val ms):=by rw [B64];exact (ia f5).symm
   have hY:Y=2^(64*n)%val ms:=by
    rw [<- B64,<- aB y1];apply jf s;rw [y2,f7,ep,Nat.two_mul,aL]
   rw [<- hY];exact dz h1 (ag _ _ _)
  have JC:HzD (∀ W',Kept af W W'->W'.cell? ⟨w.heap.size,0,none⟩=some (.slice ao n b)/\W'.cell? ⟨w.heap.size,1,none⟩=some (.int .u64 (K:Nat))/\W'.cell? ⟨w.heap.size,2,none⟩=some (.slice bo l a)):=fun W' k=>ax ((k.block _ (lt_of_block j) (fun f=>f)).trans j)
  have g2:IntKind.i64.wrap (2*(n:Int))=(N:Int):=jN
  clear hm hr h i hK d c hok m o hW k0 j f1 f2 f3 f4 f5 f6 f7 hN;delta ClZ;go_in;go_wp2_with (rw [<- HW.o]);refine hC.mono ?_;rintro e w1 ⟨rfl,k1⟩;obtain ⟨q0,q1,q2⟩:=JC.o _ k1;have kd:Kept af W w1.drew:=k1.drew;clear hC p0 p1 p2;go_wp2_with fail;go_region_held3 (fun w'=>w'.cell? ⟨w.heap.size,0,none⟩=some (.slice ao n b)/\w'.cell? ⟨w.heap.size,1,none⟩=some (.int .u64 (K:Int))/\w'.cell? ⟨w.heap.size,2,none⟩=some (.slice bo l a))
   (((try dsimp only);(repeat' apply And.intro) <;> first | (go_keep;done) | assumption))
   (first
   | (go_at_call 122;refine (JX.o _ kd).mono ?_;rintro e w2 ⟨g',rfl,k2,t,r2⟩;obtain ⟨s0,s1,s2⟩:=JC.o _ k2)
   | (go_at_call 124;refine (JT.o _ g' k2 t r2).mono ?_;rintro e w4 ⟨v4,rfl,v,k4⟩;obtain ⟨t0,t1,t2⟩:=JC.o _ k4))
  all_goals
   go_wp2_with fail;go_ret;exact ⟨_,rfl,v,p.o.trans k4⟩
 ·have hC:=oS ao bo n l K b a ms rs false (by simp [hok]) W (hm.g k0) (hr.g k0) h i hK;have r:=aa (c hok);clear hm hr h i hK d c m o hW k0 j;delta ClZ;go_in;go_wp2_with (rw [<- HW.o]);refine hC.mono ?_;rintro e w1 ⟨rfl,k1⟩;go_wp2_with fail;go_ret;exact ⟨_,rfl,by rw [r.o];exact Row.nil _ _,p.o.trans k1⟩

def mon (n V X:Nat):Nat:=2^(64*n)*X%V

theorem m9 (hV:0<V):mon n V X<V:=aY _ hV

theorem CN (n V:Nat):mon n V 0=0:=by
 unfold mon;rw [df,iw]

theorem zN {A B:Nat} (a:V%2=1) (h1:Y<V) (h2:2^(64*n)*Y%V=mon n V A*mon n V B%V):Y=mon n V (A*B):=by
 have b:Nat.Coprime (2^(64*n)) V:=(ia a).symm;refine (aB h1).symm.trans ?_;unfold mon at *;refine jf b ?_;rw [h2,<- cH]
 congr 1
 generalize 2^(64*n)=R
 grind

theorem sx {A:Nat} (a:V%2=1) (h1:Y<V) (h2:2^(64*n)*Y%V=mon n V A%V):Y=A%V:=by
 have b:Nat.Coprime (2^(64*n)) V:=(ia a).symm;refine (aB h1).symm.trans ?_;refine jf b ?_;rw [h2];unfold mon;rw [ep]

def oY (w:Nat):Nat:=w*16%18446744073709551616+w/1152921504606846976

def oA (y:Nat):Nat->Nat
 | 0=>y
 | k+1=>oY (oA y k)

theorem Ai {w:Nat} (h:w<18446744073709551616):oY w<18446744073709551616:=by
 unfold oY;omega

theorem tM (h:y<18446744073709551616):∀ k,oA y k<18446744073709551616
 | 0=>h
 | k+1=>Ai (tM h k)

theorem DH {M:Nat} (hM:0<M) (b:M*N=1152921504606846976) (hy:y<18446744073709551616):oY (y%(16*M)*N+y/(16*M))=y%M*(16*N)+y/M:=by
 obtain ⟨A,hA⟩:=aj (y/(16*M))
 obtain ⟨r,hr⟩:=aj (y%(16*M))
 obtain ⟨d,hd⟩:=aj (r/M)
 obtain ⟨B,hB⟩:=aj (r%M)
 have e1:y=16*M*A+r:=by rw [hA,hr];exact (dD y (16*M)).symm
 have e2:r=M*d+B:=by rw [hd,hB];exact (dD r M).symm
 have c:r<16*M:=by rw [hr];exact bu
 have a:B<M:=by rw [hB];exact aY _ hM
 have e:A<N:=by
  rw [hA];refine Nat.div_lt_of_lt_mul ?_;rw [bd,b];exact hy
 have e3:y=M*(16*A+d)+B:=by rw [e1,e2];grind
 have e4:y/M=16*A+d:=by rw [e3,gH hM,bJ a,aV]
 have e5:y%M=B:=by rw [e3,iZ,aB a]
 rw [e4,e5,<- hA,<- hr];have h6:B*N+A<1152921504606846976:=by
  have:(B+1)*N<=M*N:=cF N a;rw [b,dm,iG] at this;omega
 have e7:r*N+A=1152921504606846976*d+(B*N+A):=by
  rw [e2,<- b]
  grind
 rw [e7];generalize hQ:B*N=Q at *;have e8:B*(16*N)=16*Q:=by rw [<- hQ];grind
 rw [e8];unfold oY;omega

theorem Aj {y:Nat} (hy:y<18446744073709551616):∀ k,k<=16->oA y k=y%16^(16-k)*16^k+y/16^(16-k)
 | 0,_=>by
  rw [oA,et,show (16:Nat)^16=18446744073709551616 from rfl,cP,bI,aB hy,bJ hy,aV]
 | k+1,hk=>by
  have ih:=Aj hy k (by omega);have e:16-k=(16-(k+1))+1:=by omega
  rw [oA,ih,e,aG,aD (16^(16-(k+1))) 16];have h:=DH (M:=16^(16-(k+1))) (N:=16^k) (y:=y) (aX) (by rw [<- aL,show 16-(k+1)+k=15 by omega]) hy;rw [h,aG,aD (16^k) 16]

def xG (ys:LN) (L j:Nat):Nat:=oA (ys.getD (L-1-j/16) 0) (j%16+1)%16

theorem F9 {ys:LN} {L j:Nat} (hd:Digs ys) (hj:j<16*L):xG ys L j=val ys/16^(16*L-1-j)%16:=by
 unfold xG;have hy:ys.getD (L-1-j/16) 0<18446744073709551616:=hd.getD (by omega) _;rw [Aj hy (j%16+1) (by omega)];have e1:16^(j%16+1)=16*16^(j%16):=by rw [aG,aD]
 rw [e1,show ∀ a b c:Nat,a*(16*b)+c=16*(a*b)+c from fun a b c=>by grind,iZ];rw [<- dn (by omega) hd];unfold dig;obtain ⟨k,hk⟩:=aj (j%16)
 obtain ⟨i,hi⟩:=aj (L-1-j/16)
 have ex:16*L-1-j=16*i+(15-k):=by omega
 rw [<- hk,<- hi,ex,show 16-(k+1)=15-k by omega,show (18446744073709551616:Nat)=16^16 from rfl,<- aW];generalize val ys (16^16)=E;have d:k<=15:=by omega
 have e2:(16:Nat)^16=16^(15-k)*16^(k+1):=by rw [<- aL,show 15-k+(k+1)=16 by omega]
 rw [e2,Nat.mod_mul_right_div_self,di,<- aL,aG];exact nI _ (Nat.dvd_mul_left 16 _)

def zk (l:LN):Nat:=l.foldl (fun a d=>16*a+d) 0

theorem sN (l:LN) (d:Nat):zk (l ++ [d])=16*zk l+d:=by simp [zk]

theorem xH {E:Nat} (hE:E<16^N):∀ j,j<=N->zk ((List.range j).map fun i=>E/16^(N-1-i)%16)=E/16^(N-j)
 | 0,_=>by
  rw [List.range_zero,kY,et,bJ hE];rfl
 | j+1,hj=>by
  rw [kZ,dR,jP,kY,sN,xH hE j (by omega)];have e:N-j=(N-1-j)+1:=by omega
  rw [e,aG,<- di,show N-(j+1)=N-1-j by omega];omega

theorem Ga {ys:LN} {L:Nat} (hd:Digs ys) (hl:ys.length=L):zk ((List.range (16*L)).map (xG ys L))=val ys:=by
 have hE:val ys<16^(16*L):=by
  have:=aE (B:=18446744073709551616) (by omega) hd;rw [hl,show (18446744073709551616:Nat)=16^16 from rfl,<- aW] at this;exact this
 have h:=xH hE (16*L) (leR _);rw [cj,cP,fC] at h;rw [<- h]
 congr 1
 refine List.map_congr_left (fun j hj=>?_);exact F9 hd (j8.1 hj)

theorem IC (ys:LN) (L j:Nat):xG ys L j<16:=bu

theorem zi (p:Addr) (w:World) :
  CallsD prog 255 #[.pointer (some p)] .returning w fun e u' w'=>e=.returned (.tuple #[])/\u'=.returning/\w'=w:=by
 refine callsD_of_wpS func255 rfl fun c₀ cs hu=>?_
 apply wpS_seq;apply wpS_region;simp [wpOpsS,go_sem,recoverD,hu,ntmps255,Exit.thenS];apply wpS_seq;apply wpS_seq;apply wpS_region;simp [wpOpsS,go_sem,Exit.thenS];refine wpS_cond (t:=true) (by simp [Act.eval,Array.replicate]) ?_;simp only [if_true];refine wpS_of_wp (wp_ret ?_);cases c₀
 simp_all [bodyPostS,results,results255,Exit.thenS]

theorem Iy (p:Addr) (x n:Int) (a:List PanicEntry) (w:World) (hc:w.cell? p=some (.int .i64 x)) (hz:w.frozen? p=false) :
  CallsD prog 255 #[.pointer (some p)] (.panicking (refusal n :: a)) w fun e u' w'=>
   e=.returned (.tuple #[])/\u'=.panicking ({ refusal n with recovered:=true } :: a)/\w'=w.setCell p (.int .i64 n):=by
 refine callsD_of_wpS func255 rfl fun c₀ cs hu=>?_
 apply wpS_seq;apply wpS_region;simp [wpOpsS,go_sem,recoverD,hu,ntmps255,Exit.thenS];apply wpS_seq;apply wpS_seq;apply wpS_region;simp [wpOpsS,go_sem,Exit.thenS];refine wpS_cond (t:=false) (by simp [Act.eval,Array.replicate]) ?_;simp only [mg,if_false];refine wpS_of_wp (wp_skip ?_);simp only [Exit.thenS];refine wpS_of_wp ?_;have b:∀ w:World,(Instr.typeAssert (.iface 35 (.int .i64 n)) 20 35 true).run prog w=.ok (.tuple #[.int .i64 n,.bool true]) w:=fun w=>by kernel_rfl
 have e:(#[Value.pointer (some p)] ++ ((((Array.replicate 15 undef).setIfInBounds 3 (Value.iface 35 (Value.int IntKind.i64 n))).setIfInBounds 0 (Value.iface 35 (Value.int IntKind.i64 n))).setIfInBounds 4 (Value.iface 35 (Value.int IntKind.i64 n))).setIfInBounds 5 (Value.bool false):Array Value)=#[.pointer (some p),.iface 35 (.int .i64 n),undef,undef,.iface 35 (.int .i64 n),.iface 35 (.int .i64 n),.bool false,undef,undef,undef,undef,undef,undef,undef,undef,undef]:=rfl;rw [e];clear e;go_wp2;simp [bodyPostS,results,results255]

theorem Ed (f:Nat) (b:Array Value) (w:World) (Q:Int->World->Prop) (he:∀ args w,(callFunc f args).run prog w=.ok (.enter f args) w)
  (h:ClZ f b (w.alloc (.cells #[.int .i64 0] 35)) fun e w'=>w'.heap[w.heap.size]? = some (.cells #[.int .i64 0] 35 (0,0)) /\
   ((e=.returned (.tuple #[])/\Q 0 w')\/∃ n,e=.panicked [refusal n]/\Q n w')) :
  ClZ 238 #[.func (.func f) #[] b] w fun e w'=>∃ n w1,e=.returned (.int .i64 n)/\(Q n w1/\w1.heap[w.heap.size]? = some (.cells #[.int .i64 0] 35 (0,0)))/\w'=w1.setCell ⟨w.heap.size,0,none⟩ (.int .i64 n):=by
 go_enter_defers func238,ntmps238
 go_wp2_with fail;refine h.mono ?_;rintro e w1 ⟨hb,(⟨rfl,hq⟩ | ⟨n,rfl,hq⟩)⟩
 ·have hc:w1.cell? ⟨w.heap.size,0,none⟩=some (.int .i64 0):=by simp [World.cell?,hb]
  have hz:w1.frozen? ⟨w.heap.size,0,none⟩=false:=by simp [World.frozen?,hb]
  clear h;go_wp2_with fail;refine leaves_cons (f:=255) (args:=#[.pointer (some ⟨w.heap.size,0,none⟩)]) (by simp) (by simp [go_sem]) ?_;refine (zi ⟨w.heap.size,0,none⟩ _).mono ?_;rintro e u' c ⟨rfl,rfl,rfl⟩;have a:(w1.setCell ⟨w.heap.size,0,none⟩ (.int .i64 0)).cell? ⟨w.heap.size,0,none⟩=some (.int .i64 0):=World.cell?_setCell_same' _ _ _ (by rw [hc];rfl);simp [Leaves,settle,results,results238,go_sem,a];exact ⟨_,⟨hq,hb⟩,rfl⟩
 ·have hc:w1.cell? ⟨w.heap.size,0,none⟩=some (.int .i64 0):=by simp [World.cell?,hb]
  have hz:w1.frozen? ⟨w.heap.size,0,none⟩=false:=by simp [World.frozen?,hb]
  clear h;refine leaves_cons (f:=255) (args:=#[.pointer (some ⟨w.heap.size,0,none⟩)]) (by simp) (by simp [go_sem]) ?_;refine (Iy ⟨w.heap.size,0,none⟩ 0 n [] _ hc hz).mono ?_;rintro e u' c ⟨rfl,rfl,rfl⟩;have a:(w1.setCell ⟨w.heap.size,0,none⟩ (.int .i64 n)).cell? ⟨w.heap.size,0,none⟩=some (.int .i64 n):=World.cell?_setCell_same' _ _ _ (by rw [hc];rfl);simp [Leaves,settle,results,results238,go_sem,a];exact ⟨_,⟨hq,hb⟩,rfl⟩

theorem mG (w:World):ClZ 241 #[.int .i64 0] w fun e w'=>e=.returned (.tuple #[])/\w'=w:=by
 delta ClZ;go_in;go_wp2;go_end0
 exact ⟨rfl,rfl⟩

theorem nn (n:Int) (hn:n≠0) (w:World):ClZ 241 #[.int .i64 n] w fun e w'=>e=.panicked [refusal n]/\w'=w:=by
 delta ClZ;go_in;go_wp2;exact ⟨rfl,rfl,rfl⟩

theorem sM (ao:OA) (n a:Nat) (w:World):ClZ 244 #[.slice ao n a,.int .i64 0] w fun e w'=>e=.returned (.slice ao n a)/\w'=w:=by
 have hR:=mG w;delta ClZ;go_in;go_wp2_with fail;refine hR.mono ?_;rintro e w' ⟨rfl,rfl⟩;go_wp2;go_ret;exact ⟨rfl,rfl⟩

structure Mod8 (w:World) (o:Tr) (ao bo:OA) (n l K mcap rcap:Nat) (ms rs:LN):Prop where
 hm:RowT w o (.slice ao n mcap) ms
 hr:RowT w o (.slice bo l rcap) rs
 hmd:Digs ms
 hrd:Digs rs
 hK:K<18446744073709551616
 ok:okMod ms K rs

theorem Mod8.did {o:Tr} {l a b:Nat} (h:Mod8 w o ao bo n l K a b ms rs) (d:Did w o m w' o'):Mod8 w' o' ao bo n l K a b ms rs:=⟨h.hm.did d,h.hr.did d,h.hmd,h.hrd,h.hK,h.ok⟩

theorem Mod8.g {o:Tr} {l a b:Nat} (h:Mod8 w o ao bo n l K a b ms rs) (k:Kept af w w'):Mod8 w' o ao bo n l K a b ms rs:=⟨h.hm.g k,h.hr.g k,h.hmd,h.hrd,h.hK,h.ok⟩

theorem Mod8.a {o:Tr} {l a b:Nat} (h:Mod8 w o ao bo n l K a b ms rs):(0<n/\n<=130)/\l=n/\val ms%2=1/\2<=val ms/\val ms<18446744073709551616^n:=by
 obtain ⟨_,_,_,e1,h1,_⟩:=h.hm.1.open;cases e1
 obtain ⟨_,_,_,e1,h2,_⟩:=h.hr.1.open;cases e1
 obtain ⟨_,f2,f3,f4,f5,f6,_⟩:=h.ok.a h1.o h2.o h.hmd h.hrd h.hK;have m:=eu h.ok.1;exact ⟨⟨f2,f3⟩,f4,f5,by omega,f6⟩

def MonAt (w:World) (v:Value) (n V P:Nat):Prop:=Row .u64 w v (digs (mon n V P) n)/\U64s w v

theorem MonAt.did {o:Tr} {v:Value} (h:MonAt w v n V P) (d:Did w o m w' o') (ht:TrIn w o):MonAt w' v n V P:=⟨((h.2.rowT h.1 ht).did d).1,h.2.did d ht⟩

theorem MonAt.g {v:Value} (h:MonAt w v n V P) (k:Kept af w w'):MonAt w' v n V P:=⟨h.1.g k,h.2.g k⟩

theorem MonAt.kept {S:Nat->Prop} {v:Value} (h:MonAt w v n V P) (k:Kept S w w') (hs:∀ b,v.ownBlock=some b->¬ S b):MonAt w' v n V P:=⟨h.1.kept k hs,h.2.kept k hs⟩

theorem MonAt.s {v:Value} (h:MonAt w v n V P):∃ xo xc,v=.slice xo n xc:=by
 obtain ⟨xo,xn,xc,rfl,hl,_⟩:=h.1.open;have:=hl.o;rw [ag] at this;subst this;exact ⟨_,_,rfl⟩

theorem lH (hV:0<V) (hn:V<18446744073709551616^n):val (digs (mon n V P) n)=mon n V P:=by
 rw [ay,aB (bH (m9 hV) hn)]

def gC (n:Nat):List Ev:=List.replicate 2 (1,(n:Int),0) ++ de n

def jM (n:Nat):List Ev:=List.replicate 1 (1,(n:Int),0) ++ de n

def mZ (n:Nat):List Ev:=List.replicate 1 (1,(n:Int),0) ++ List.replicate (n+2) (1,(n:Int),0)

theorem ix (h:n<=130):(gC n).length<=2000/\(jM n).length<=2000/\(mZ n).length<=2000:=by
 unfold gC jM mZ de;simp;omega

theorem Jy (o:Tr) (ao bo xo yo:OA) (n l K a b xc yc P Q:Nat) (ms rs:LN) (w:World) (ht:TrRoom w o 2000) (hM:Mod8 w o ao bo n l K a b ms rs) (hx:MonAt w (.slice xo n xc) n (val ms) P) (hy:MonAt w (.slice yo n yc) n (val ms) Q) :
  ClZ 105 #[aP o,.agg (mzA ao n a K bo l b),.slice xo n xc,.slice yo n yc] w fun e w'=>∃ zo zc,e=.returned (.tuple #[.slice zo n zc,.int .i64 0])/\MonAt w' (.slice zo n zc) n (val ms) (P*Q)/\Fresh w (.slice zo n zc)/\∃ o',Did w o (gC n) w' o':=by
 obtain ⟨⟨f0,f1⟩,f2,f3,f4,f5⟩:=hM.a;have hV:0<val ms:=by omega
 have ex:=lH (P:=P) hV f5;have ey:=lH (P:=Q) hV f5;refine (Hn o ao bo xo yo n l K a b n n xc yc 0 ms rs _ _ w ht hM.hm hM.hr (hx.2.rowT hx.1 ht.1) (hy.2.rowT hy.1 ht.1) hM.hmd hM.hrd (ak (by omega) _ _) (ak (by omega) _ _) hM.hK (by omega) ⟨fun _=>⟨hM.ok,⟨rfl,by rw [ex];exact m9 hV⟩,rfl,by rw [ey];exact m9 hV⟩,fun _=>rfl⟩).mono ?_;rintro e w' ⟨v',rfl,⟨Y,hR,hG⟩,⟨hF,hU⟩,o',d⟩;rw [ai f1] at d;rw [ai rfl] at hR;have c:=hG rfl;rw [ex,ey] at c;rw [zN f3 c.1 c.2] at hR;have hA:MonAt w' v' n (val ms) (P*Q):=⟨hR,hU⟩
 obtain ⟨zo,zc,rfl⟩:=hA.s;exact ⟨zo,zc,rfl,hA,hF,o',d⟩

theorem IV (o:Tr) (ao bo xo:OA) (n l K a b xc:Nat) (ms rs xs:LN) (w:World) (ht:TrRoom w o 2000) (hM:Mod8 w o ao bo n l K a b ms rs) (hx:RowT w o (.slice xo n xc) xs) (f:Digs xs) (hlt:val xs<val ms) :
  ClZ 68 #[aP o,.agg (mzA ao n a K bo l b),.slice xo n xc] w fun e w'=>∃ zo zc,e=.returned (.tuple #[.slice zo n zc,.int .i64 0])/\MonAt w' (.slice zo n zc) n (val ms) (val xs)/\Fresh w (.slice zo n zc)/\∃ o',Did w o (jM n) w' o':=by
 obtain ⟨⟨f0,f1⟩,f2,f3,f4,f5⟩:=hM.a;refine (qR o ao bo xo n l K a b n xc 0 ms rs xs w ht hM.hm hM.hr hx hM.hmd hM.hrd f hM.hK (by omega) ⟨fun _=>⟨hM.ok,rfl,hlt⟩,fun _=>rfl⟩).mono ?_;rintro e w' ⟨v',rfl,⟨Y,hR,hG⟩,⟨hF,hU⟩,o',d⟩;rw [ai f1] at d;rw [ai rfl] at hR;have c:Y=mon n (val ms) (val xs):=hG rfl;rw [c] at hR;have hA:MonAt w' v' n (val ms) (val xs):=⟨hR,hU⟩
 obtain ⟨zo,zc,rfl⟩:=hA.s;exact ⟨zo,zc,rfl,hA,hF,o',d⟩

theorem LX (o:Tr) (ao bo xo:OA) (n l K a b xc P:Nat) (ms rs:LN) (w:World) (ht:TrRoom w o 2000) (hM:Mod8 w o ao bo n l K a b ms rs) (hx:MonAt w (.slice xo n xc) n (val ms) P) :
  ClZ 69 #[aP o,.agg (mzA ao n a K bo l b),.slice xo n xc] w fun e w'=>∃ zo zc,e=.returned (.tuple #[.slice zo n zc,.int .i64 0])/\(Row .u64 w' (.slice zo n zc) (digs (P%val ms) n)/\U64s w' (.slice zo n zc))/\Fresh w (.slice zo n zc)/\∃ o',Did w o (mZ n) w' o':=by
 obtain ⟨⟨f0,f1⟩,f2,f3,f4,f5⟩:=hM.a;have hV:0<val ms:=by omega
 have ex:=lH (P:=P) hV f5;refine (CG o ao bo xo n l K a b n xc 0 ms rs _ w ht hM.hm hM.hr (hx.2.rowT hx.1 ht.1) hM.hmd hM.hrd (ak (by omega) _ _) hM.hK (by omega) ⟨fun _=>⟨hM.ok,rfl,by rw [ex];exact m9 hV⟩,fun _=>rfl⟩).mono ?_;rintro e w' ⟨v',rfl,⟨Y,hR,hG⟩,⟨hF,hU⟩,o',d⟩;rw [ai f1] at d;rw [ai rfl] at hR;have c:=hG rfl;rw [ex] at c;rw [sx f3 c.1 c.2] at hR;obtain ⟨zo,zn,zc,rfl,hl,_⟩:=hR.open;have f:=hl.o;rw [ag] at f;subst f;exact ⟨zo,zc,rfl,⟨hR,hU⟩,hF,o',d⟩

theorem Tryz.infoP23:(prog.info? 23).map (fun i=>(i.zero,i.size,i.bytes))=some (some (.slice none 0 0),1,24):=by kernel_rfl

theorem nd {o:Tr} {base size:Nat} {v:Value} {xs:List Value} (h:w.ownsRow base 23 size v n xs) (ht:TrIn w o):∀ b,v.ownBlock=some b->¬ dr o b:=by
 rcases h.2 with ⟨rfl,_⟩ | ⟨g',cap,cur,rfl,_,hgg,_⟩
 ·intro b hb;cases hb
 ·intro b hb;have e:g'=b:=by simpa [Value.ownBlock] using hb
  subst e;exact aH hgg ht

theorem Ao {base size:Nat} {v u:Value} {xs:List Value} (h:w.ownsRow base 23 size v n xs) (hu:U64s w u):∀ b,u.ownBlock=some b->v.ownBlock≠some b:=by
 intro b hb e;obtain ⟨cs,fr,hg⟩:=hu b hb;rcases h.2 with ⟨rfl,_⟩ | ⟨g',cap,cur,rfl,_,hgg,_⟩
 ·cases e
 ·have e':g'=b:=by simpa [Value.ownBlock] using e
  subst e';rw [hgg] at hg;simp only [iI,Obj.cells.injEq] at hg;exact absurd hg.2.1 (by decide)

def Tab8 (w0 w:World) (xv v:Value) (n k:Nat) (A:Nat->OA) (C:Nat->Nat) (V X:Nat):Prop:=
 w.ownsRow w0.heap.size 23 1 v k ((List.range k).map fun j=>.slice (A j) n (C j))/\∀ j,j<k->MonAt w (.slice (A j) n (C j)) n V (X^j)/\(Fresh w0 (.slice (A j) n (C j))\/Value.slice (A j) n (C j)=xv)

theorem Tab8.did {o:Tr} {v:Value} (h:Tab8 w0 w xv v n k A C V X) (d:Did w o m w' o') (ht:TrIn w o):Tab8 w0 w' xv v n k A C V X:=
 ⟨d.kept.own h.1 (nd h.1 ht),fun j hj=>⟨(h.2 j hj).1.did d ht,(h.2 j hj).2⟩⟩

theorem Tab8.g {v:Value} (h:Tab8 w0 w xv v n k A C V X) (kk:Kept af w w'):Tab8 w0 w' xv v n k A C V X:=
 ⟨kk.own h.1 (fun _ _ f=>f),fun j hj=>⟨(h.2 j hj).1.g kk,(h.2 j hj).2⟩⟩

theorem Tab8.push {w4:World} {a:Value} {g c:Nat} {yo:OA} {yc:Nat} (h:Tab8 w0 W xv a n k A C V X) (hy:MonAt W (.slice yo n yc) n V (X^k)) (hf:Fresh w0 (.slice yo n yc))
  (ho:w4.ownsRow w0.heap.size 23 1 (.slice (some ⟨g,0,none⟩) (k+1) c) (k+1) (((List.range k).map fun j=>.slice (A j) n (C j)) ++ [.slice yo n yc])) (hg:W.grownBy w4 a.ownBlock) :
  Tab8 w0 w4 xv (.slice (some ⟨g,0,none⟩) (k+1) c) n (k+1) (fun j=>if j=k then yo else A j) (fun j=>if j=k then yc else C j) V X:=by
 have kk:Kept (fun b=>a.ownBlock=some b) W w4:=(ah _ W).grown hg (fun b e _=>e);refine ⟨?_,fun j hj=>?_⟩
 ·rw [kZ,dR,jP,kY];dsimp only;rw [ai rfl,ai rfl];have e:((List.range k).map fun j=>Value.slice (if j=k then yo else A j) n (if j=k then yc else C j))=(List.range k).map fun j=>Value.slice (A j) n (C j):=by
   refine List.map_congr_left (fun j hj=>?_);have:j<k:=j8.1 hj;rw [aK,aK]
  rw [e];exact ho
 ·by_cases e:j=k
  ·subst e;dsimp only;rw [ai rfl,ai rfl];exact ⟨hy.kept kk (Ao h.1 hy.2),.inl hf⟩
  ·dsimp only;rw [ar e,ar e];obtain ⟨h1,h2⟩:=h.2 j (by omega);exact ⟨h1.kept kk (Ao h.1 h1.2),h2⟩

theorem Tab8.b {v:Value} (h:Tab8 W w xv v n k A C V X) (kk:Kept af w0 W):Tab8 w0 w xv v n k A C V X:=
 ⟨dg h.1 (fun b e=>aI kk.size (World.ownsRow.lt h.1 b e).1),fun j hj=>⟨(h.2 j hj).1,(h.2 j hj).2.imp (fun f=>f.b kk) id⟩⟩

theorem Tab8.at {c g:Nat} (h:Tab8 w0 w xv (.slice (some ⟨g,0,none⟩) k c) n k A C V X) {j:Nat} (hj:j<k):w.cell? ⟨g,j,none⟩=some (.slice (A j) n (C j)):=by
 rw [World.ownsRow.cellAt h.1 j (by omega),bV,List.getElem?_range hj];rfl

def j5 (n:Nat) (k:Nat):List Ev:=jM n ++ (List.replicate k (gC n)).flatten

theorem vJ (n k:Nat):j5 n (k+1)=j5 n k ++ gC n:=by
 unfold j5;rw [iq,List.flatten_append,dX];simp

theorem lY {b:Nat} (h:m.length<=b):∀ k,(List.replicate k m).flatten.length<=k*b
 | 0=>by simp
 | k+1=>by
  have:=lY h k;rw [j9,List.flatten_cons,bk,dm];omega

theorem j6 (h:n<=130) (k:Nat):(j5 n k).length<=2000+k*2000:=by
 obtain ⟨h1,h2,_⟩:=ix h;have:=lY h1 k;unfold j5;rw [bk];omega

theorem FZ (o:Tr) (ao bo xo:OA) (n l K a f xc X:Nat) (ms rs:LN) (w:World) (ht:TrRoom w o 40000) (hM:Mod8 w o ao bo n l K a f ms rs) (hx:MonAt w (.slice xo n xc) n (val ms) X) :
  ClZ 215 #[aP o,.agg (mzA ao n a K bo l f),.slice xo n xc] w fun e w'=>∃ g c,e=.returned (.slice (some ⟨g,0,none⟩) 16 c)/\(∃ A C,Tab8 w w' (.slice xo n xc) (.slice (some ⟨g,0,none⟩) 16 c) n 16 A C (val ms) X)/\∃ o',Did w o (j5 n 14) w' o':=by
 obtain ⟨i0,aq,az,aA,aC⟩:=info_parts Tryz.info24;obtain ⟨j0,ar,au,av,aw⟩:=info_parts Tryz.infoP23;have E:∀ args w,(callFunc 105 args).run prog w=.ok (.enter 105 args) w:=fun _ _=>by simp [go_sem]
 have D:∀ args w,(callFunc 244 args).run prog w=.ok (.enter 244 args) w:=fun _ _=>by simp [go_sem]
 obtain ⟨⟨f0,f1⟩,f2,f3,f4,f5⟩:=hM.a;obtain ⟨po,y⟩:=aM o;obtain ⟨V,hV⟩:=aj (val ms)
 rw [<- hV] at f3 f4 f5 hx ⊢;obtain ⟨W,hW⟩:=aj (w.alloc (.cells (mzA ao n a K bo l f) 71))
 have k0:Kept af w W:=by rw [hW];exact (ah af w).alloc _
 have v:W.heap[w.heap.size]? = some (.cells (mzA ao n a K bo l f) 71 (0,0)):=by rw [hW];exact heap_alloc_new _ _
 have JM:HzD (∀ W' m o',Did W o m W' o'->W'.cell? ⟨w.heap.size,0,none⟩=some (.slice ao n a)/\W'.cell? ⟨w.heap.size,1,none⟩=some (.int .u64 (K:Nat))/\W'.cell? ⟨w.heap.size,2,none⟩=some (.slice bo l f)):=fun W' m o' d=>ax ((d.kept.block _ (lt_of_block v) (aH v (ht.g k0).1 (by decide) (by decide))).trans v)
 have JE:HzD (∀ W' g,Kept af W W'->OwnN .u64 24 W' g (.slice (some ⟨g,0,none⟩) n n) n (digs 1 n)->ClZ 68 #[.pointer po,.agg (mzA ao n a K bo l f),.slice (some ⟨g,0,none⟩) n n] W' fun e w'=>∃ zo zc,e=.returned (.tuple #[.slice zo n zc,.int .i64 0])/\MonAt w' (.slice zo n zc) n V 1/\Fresh W (.slice zo n zc)/\∃ o',Did W o (jM n) w' o'):=fun W' g k ho=>by
  have h1:val (digs 1 n)=1:=by rw [ay,aB (bi (by omega) (eH f5))]
  have:=IV o ao bo (some ⟨g,0,none⟩) n l K a f n ms rs _ W' ((ht.g (k0.trans k)).l (by omega)) (hM.g (k0.trans k)) (ib ho (ag _ _ _) (ht.g (k0.trans k)).1) (ak (by omega) _ _) (by rw [h1,<- hV];omega);rw [h1,y,<- hV] at this;refine this.mono ?_;rintro e w' ⟨zo,zc,rfl,hA,hF,o',d⟩;exact ⟨zo,zc,rfl,hA,hF.b k,o',Did.b k d⟩
 have JB:HzD (∀ W' m o' yo yc P,Did W o m W' o'->TrRoom W' o' 2000->MonAt W' (.slice yo n yc) n V P->ClZ 105 #[.pointer po,.agg (mzA ao n a K bo l f),.slice yo n yc,.slice xo n xc] W' fun e w'=>∃ zo zc,e=.returned (.tuple #[.slice zo n zc,.int .i64 0])/\MonAt w' (.slice zo n zc) n V (P*X)/\Fresh W' (.slice zo n zc)/\∃ o2,Did W' o' (gC n) w' o2):=fun W' m o' yo yc P d hr hA=>by
  have al:=(hx.g k0).did d (ht.g k0).1;rw [hV] at hA al;have:=Jy o' ao bo yo xo n l K a f yc xc P X ms rs W' hr ((hM.g k0).did d) hA al;rw [d.ptr,y,<- hV] at this;exact this
 have HX:HzD (∀ W' m o',Did W o m W' o'->MonAt W' (.slice xo n xc) n V X):=fun W' m o' d=>(hx.g k0).did d (ht.g k0).1
 have HT:=aa (ht.g k0);have HI:HzD ((List.replicate n 0).set 0 1=digs 1 n):=by
  unfold HzD;obtain ⟨m,rfl⟩:∃ m,n=m+1:=⟨n-1,by omega⟩
  refine cS (by omega) ?_ (by simp) ?_
  ·intro d hd;rcases nC hd with h | h
   ·rw [(ff.1 h).2];omega
   ·omega
  ·rw [j9,lsZ,val,eY _ (fun d hd=>(ff.1 hd).2),aB (Nat.one_lt_pow (by omega) (by omega))]
 obtain ⟨p0,p1,p2⟩:=ax v;have HW:=aa hW;have I:=aa k0;have z:=aa f1;rw [y];clear hW v k0 hM hx y hV f2 f3 f4 f5 ht;delta ClZ;go_in
 go_wp2_with (at_make;rw [<- HW.o];refine wpList_make_full _ rfl _ _ 23 rfl W.heap.size 24 i0 _ 1 underlying23 aq az aA _ _ _ _ n rfl rfl rfl rfl (by rw [aC];omega) (by unfold maxLen;omega) (leR _) ?_;intro w3 s Z;rw [bD] at s;have k3:=bf Z;have Y:=World.ownsRow.cellAt s 0 (by omega);have ap:=World.ownsRow.frozenAt s 0;rw [bV,eF,ai f0] at Y;have k4:Kept af W (w3.setCell ⟨W.heap.size,0,none⟩ (.int .u64 1)):=fH k3 ((ah (fun b=>b=W.heap.size) w3).setCell ⟨W.heap.size,0,none⟩ (fun _=>rfl) _) (leR _);obtain ⟨q0,q1,q2⟩:=JM.o _ _ _ (Did.of_kept k4 HT.o.1);clear Z)
 have ab:OwnN .u64 24 (w3.setCell ⟨W.heap.size,0,none⟩ (.int .u64 1)) W.heap.size (.slice (some ⟨W.heap.size,0,none⟩) n n) n (digs 1 n):=by
  have:=(World.ownsRow.stored s 0 (.int .u64 1)).1;unfold OwnN;rw [<- HI.o,cG];exact this
 have hE:=JE.o _ _ k4 ab;generalize w3.setCell ⟨W.heap.size,0,none⟩ (.int .u64 1)=w4 at *;clear s Y ap k3 p0 p1 p2 ab JE HI;refine hE.mono ?_;rintro e w5 ⟨zo,zc,rfl,O,S,o5,d5⟩;have hS:=sM zo n zc w5;clear hE q0 q1 q2;go_wp2_with fail;refine hS.mono ?_;rintro e w6 ⟨rfl,rfl⟩;have k6:Kept af w6 (w6.alloc (.cells #[.slice zo n zc,.slice xo n xc] 23)):=(ah af w6).alloc _;have H:=aa (d5.g k6);have q:HzD (∃ A C,Tab8 W (w6.alloc (.cells #[.slice zo n zc,.slice xo n xc] 23)) (.slice xo n xc) (.slice (some ⟨w6.heap.size,0,none⟩) 2 2) n 2 A C V X):=by
  refine ⟨fun j=>if j=0 then zo else xo,fun j=>if j=0 then zc else xc,?_,fun j hj=>?_⟩
  ·exact World.ownsRow_lit (base:=W.heap.size) (e:=23) (size:=1) w6 #[.slice zo n zc,.slice xo n xc] 2 d5.size (by unfold maxLen;omega) rfl
  ·have am:j=0\/j=1:=by omega
   rcases am with rfl | rfl
   ·exact ⟨O.g k6,.inl S⟩
   ·refine ⟨?_,.inr rfl⟩;have:=(HX.o _ _ _ d5).g k6;rw [i8];exact this
 clear hS O S d5 k6 HX;go_wp2_with fail;go_loopw [8,25] (fun lv i wr=>∃ (k N g c:Nat) (o1:Tr),k<=14/\i=.int .i64 (k:Int)/\lv=.slice (some ⟨g,0,none⟩) N c/\HzD (N=k+2)/\HzD (∃ A C,Tab8 W wr (.slice xo n xc) (.slice (some ⟨g,0,none⟩) N c) n N A C V X)/\HzD (Did W o (j5 n k) wr o1)) (fun _ i _=>14-(intOf i).toNat)
 case atStart=>exact ⟨0,2,w6.heap.size,2,o5,by omega,rfl,rfl,rfl,q.o,by unfold HzD j5;rw [fg,List.flatten_nil,dY];exact H.o⟩
 case round=>
  obtain ⟨k,N,g,c,o1,hk,rfl,rfl,HN,x,HD⟩:=hrel;clear q H;by_cases hk14:k<14
  ·have gk:(k:Int)<14:=by omega
   obtain ⟨A,C,p⟩:=x.o;obtain ⟨J,hJ⟩:=aj (k+1)
   have gJ:IntKind.i64.wrap (J:Int)=(J:Int):=jN
   have aD:(k:Int)+1=(J:Int):=by omega
   have aE:(0:Int)<=(J:Int):=by omega
   have aF:(J:Int)<(N:Int):=by have:=HN.o;omega
   have an:=p.at (j:=J) (by omega);have ae:TrIn wr o1:=(HD.o.room (k:=0) (HT.o.l (by have:=j6 z.o k;omega))).1;have kd:Kept af wr wr.drew:=(ah af wr).drew;have r:=JB.o wr.drew _ o1 (A J) (C J) (X^J) (HD.o.g kd) ((HD.o.g kd).room (HT.o.l (by have:=j6 z.o k;omega))) ((p.2 J (by omega)).1.g kd);obtain ⟨q0,q1,q2⟩:=JM.o _ _ _ HD.o;have L:=aa ae;have M:=aa p;have HJ:=aa hJ;clear ae p hJ x;go_wp2_with fail;go_region_law (first
    | (refine iP 105 _ _ _ (by rfl) (by rfl) (by rfl) E r ?_;rintro e w7 ⟨yo,yc,rfl,Q,T,o7,d7⟩;refine ⟨_,rfl,?_⟩)
    | (refine iP 244 _ _ _ (by rfl) (by rfl) (by rfl) D (sM yo n yc w7) ?_;rintro e w8 ⟨rfl,rfl⟩;refine ⟨_,rfl,?_⟩;have ac:=(((M.o.g kd).did d7 (L.o.g kd)).g ((ah af w8).alloc (.cells #[.slice yo n yc] 23))).1)
    | (refine step_append_lies _ (by rfl) _ _ _ (by rfl) W.heap.size 23 j0 _ 1 24 underlying27 ar au av aw rfl (by omega) _ _ _ (by rfl) ac ⟨w8.heap.size,0,none⟩ 1 1 [.slice yo n yc] (by rfl) (by rfl) (iK w8 _ _) (by simp [Value.oneCell']) (by omega) (by unfold maxLen;have:=HN.o;omega) (by have:=HN.o;omega) (by have:=HD.o.size;have:=d7.size;simp;simp at this;omega) (w8.heap.size+1) (by simp) ?_;intro gg c' w9 ad F B G))
   all_goals
    have ka:Kept af w8 (w8.alloc (.cells #[.slice yo n yc] 23)):=(ah af w8).alloc _;have t8:=((M.o.g kd).did d7 (L.o.g kd)).g ka;have R:MonAt (w8.alloc (.cells #[.slice yo n yc] 23)) (.slice yo n yc) n V (X^N):=by
     have:=Q.g ka;rw [HJ.o,<- aG] at this;rw [HN.o];exact this
    have U:Fresh W (.slice yo n yc):=fun b hb=>aI HD.o.size (T b hb)
    have T9:=aa (t8.push R U ad F);have dd:=((HD.o.g kd).trans d7).g ka;rw [<- vJ] at dd;have t:=(dd.room (k:=0) (HT.o.l (by have:=j6 z.o (k+1);omega))).1;have kg:Kept (fun b=>b=g) (w8.alloc (.cells #[.slice yo n yc] 23)) w9:=(ah _ _).grown F (fun b e _=>by
     have e':g=b:=by simpa [Value.ownBlock] using e
     exact e'.symm)
    have D9:=aa (dd.wroteNew kg (World.ownsRow.lt t8.1 g rfl).1 (nd t8.1 t g rfl));clear ka t8 R U dd t kg ac ad F B G Q T d7 r q0 q1 q2 an;go_wp2_with fail;go_roundw
    case rel=>exact ⟨k+1,N+1,gg,c',o7,by omega,by go_num,rfl,by have:=HN.o;unfold HzD;omega,⟨_,_,T9.o⟩,D9.o⟩
    case measure=>simp [intOf];omega
  ·have gk:¬ (k:Int)<14:=by omega
   obtain rfl:k=14:=by omega
   obtain rfl:N=16:=HN.o;obtain ⟨A,C,p⟩:=x.o;have q:=aa p;clear p x;go_wp2_with fail;go_ret;exact ⟨_,_,rfl,⟨A,C,q.o.b I.o⟩,o1,Did.b I.o HD.o⟩

open Go.RowKit Go.Shelf

attribute [local go_sem] Oper.semAt_some

def MonR (w:World) (v:Value) (n V P:Nat):Prop:=Row .u64 w v (digs (mon n V P) n)

theorem MonR.g {v:Value} (h:MonR w v n V P) (k:Kept af w w'):MonR w' v n V P:=Row.g h k

theorem MonR.s {v:Value} (h:MonR w v n V P):∃ xo xc,v=.slice xo n xc:=by
 obtain ⟨xo,xn,xc,rfl,hl,_⟩:=Row.open h;have:=hl.o;rw [ag] at this;subst this;exact ⟨_,_,rfl⟩

theorem LZ (ao bo xo yo:OA) (n l K a b xc yc P Q:Nat) (ms rs:LN) (w:World) (hM:Mod8 w none ao bo n l K a b ms rs) (hx:MonR w (.slice xo n xc) n (val ms) P) (hy:MonR w (.slice yo n yc) n (val ms) Q) :
  ClZ 105 #[.pointer none,.agg (mzA ao n a K bo l b),.slice xo n xc,.slice yo n yc] w fun e w'=>∃ zo zc,e=.returned (.tuple #[.slice zo n zc,.int .i64 0])/\MonR w' (.slice zo n zc) n (val ms) (P*Q)/\Fresh w (.slice zo n zc)/\Kept af w w':=by
 obtain ⟨⟨f0,f1⟩,f2,f3,f4,f5⟩:=hM.a;have hV:0<val ms:=by omega
 have ex:=lH (P:=P) hV f5;have ey:=lH (P:=Q) hV f5;refine (Hn none ao bo xo yo n l K a b n n xc yc 0 ms rs _ _ w (TrRoom.none w _ (by omega)) hM.hm hM.hr (RowT.none hx) (RowT.none hy) hM.hmd hM.hrd (ak (by omega) _ _) (ak (by omega) _ _) hM.hK (by omega) ⟨fun _=>⟨hM.ok,⟨rfl,by rw [ex];exact m9 hV⟩,rfl,by rw [ey];exact m9 hV⟩,fun _=>rfl⟩).mono ?_;rintro e w' ⟨v',rfl,⟨Y,hR,hG⟩,⟨hF,hU⟩,o',d⟩;rw [ai rfl] at hR;have c:=hG rfl;rw [ex,ey] at c;rw [zN f3 c.1 c.2] at hR;have hA:MonR w' v' n (val ms) (P*Q):=hR;obtain ⟨zo,zc,rfl⟩:=hA.s;exact ⟨zo,zc,rfl,hA,hF,d.none.2⟩

theorem L5 (ao bo:OA) (n l K a b:Nat) (ms rs:LN) (w:World) (hM:Mod8 w none ao bo n l K a b ms rs) :
  ClZ 125 #[.agg (mzA ao n a K bo l b)] w fun e w'=>∃ zo zc,e=.returned (.slice zo n zc)/\MonR w' (.slice zo n zc) n (val ms) 1/\Kept af w w':=by
 obtain ⟨⟨f0,f1⟩,f2,f3,f4,f5⟩:=hM.a;refine (LY ao bo n l K a b ms rs (digs (mon n (val ms) 1) n) w hM.hm.1 hM.hr.1 hM.hmd hM.hrd hM.hK (by omega) (fun _=>by unfold mon;rw [bI]) (fun h=>absurd hM.ok h)).mono ?_;rintro e w' ⟨v',rfl,hR,k⟩;have hA:MonR w' v' n (val ms) 1:=hR;obtain ⟨zo,zc,rfl⟩:=hA.s;exact ⟨zo,zc,rfl,hA,k⟩

structure RS9 (W1 W w:World) (bP n V P:Nat) (qv:Value):Prop where
 box:Box w bP qv 23
 num:MonR w qv n V P
 ne:∀ b,qv.ownBlock=some b->b≠bP
 old:Kept af W1 w
 kept:Kept (fun b=>b=bP) W w

theorem RS9.step {qv:Value} (h:RS9 W1 W w bP n V P qv) (k:Kept af w w'):RS9 W1 W w' bP n V P qv:=
 ⟨h.box.g k,h.num.g k,h.ne,h.old.trans k,h.kept.next k (fun _ _ f=>f.elim)⟩

theorem RS9.put {Q:Nat} {qv zv:Value} (h:RS9 W1 W w bP n V P qv) (hz:MonR w zv n V Q) (a:∀ b,zv.ownBlock=some b->b≠bP) (hb:W1.heap.size<=bP):RS9 W1 W (w.setCell ⟨bP,0,none⟩ zv) bP n V Q zv:=by
 have kb:=aF w bP zv;exact ⟨h.box.set zv,Row.kept hz kb a,a,fH h.old kb hb,h.kept.next kb (fun _ _ f=>f)⟩

def nS {N:Nat} (g:Nat->Nat) (pre:List (Fin N)):Nat:=xQ (pre.map fun x=>g x.val)

theorem rX (g:Nat->Nat) (a:List (Fin N)) (x:Fin N):nS g (a ++ [x])=2*nS g a+g x.val:=by
 unfold nS;rw [dR,jP,kY,rY]

theorem BV {g:Nat->Nat} {ys:List (Fin N)} (h:ys.map Fin.val=List.range N):nS g ys=xQ ((List.range N).map g):=by
 unfold nS;rw [<- h,List.map_map];rfl

def Btw9 (W1:World) (bP n V X:Nat) (ev:Value) {N:Nat} (g:Nat->Nat) (pre:List (Fin N)) (W:World):Prop:=
 ∃ (qo:OA) (qc:Nat),RS9 W1 W W bP n V (X^nS g pre) (.slice qo n qc)/\Box W (bP+1) ev 23

theorem Btw9.turn {B:Nat} {ev:Value} {g:Nat->Nat} {a:List (Fin N)} {W':World} (h:Btw9 W1 bP n V X ev g a W) (t:Turn B W W') (hB:W1.heap.size<=B):Btw9 W1 bP n V X ev g a W':=by
 obtain ⟨qo,qc,h1,h2⟩:=h;exact ⟨qo,qc,⟨t.cells h1.box,t.row h1.num,h1.ne,t.kept h1.old hB,ah _ _⟩,t.cells h2⟩

theorem FE (ao bo xo eo:OA) (n l0 K d i xc L a X:Nat) (ms rs ys:LN) (w:World) (hM:Mod8 w none ao bo n l0 K d i ms rs) (hx:MonR w (.slice xo n xc) n (val ms) X)
  (he:Row .u64 w (.slice eo L a) ys) (au:Digs ys) (hL:L<=300) :
  ClZ 70 #[.agg (mzA ao n d K bo l0 i),.slice xo n xc,.slice eo L a] w fun e w'=>∃ zo zc,e=.returned (.slice zo n zc)/\MonR w' (.slice zo n zc) n (val ms) (X^val ys)/\Kept af w w':=by
 obtain ⟨⟨f0,f1⟩,f2,f3,f4,f5⟩:=hM.a;obtain ⟨V,hV⟩:=aj (val ms)
 rw [<- hV] at f3 f4 f5 hx ⊢;obtain ⟨W0,C⟩:=aj ((w.alloc (.cells (mzA ao n d K bo l0 i) 71)).alloc (.cells #[.slice xo n xc] 23))
 have k0:Kept af w W0:=by rw [C];exact ((ah af w).alloc _).alloc _
 have S:W0.heap[w.heap.size]? = some (.cells (mzA ao n d K bo l0 i) 71 (0,0)):=by
  rw [C];exact aw (heap_alloc_new w _)
 have ak:Box W0 (w.heap.size+1) (.slice xo n xc) 23:=by
  rw [C];have:=Box.new (w.alloc (.cells (mzA ao n d K bo l0 i) 71)) (.slice xo n xc) 23
  rwa [show (w.alloc (.cells (mzA ao n d K bo l0 i) 71)).heap.size=w.heap.size+1 by simp] at this
 have JC:HzD (∀ W,Kept af W0 W->W.cell? ⟨w.heap.size,0,none⟩=some (.slice ao n d)/\W.cell? ⟨w.heap.size,1,none⟩=some (.int .u64 (K:Nat))/\W.cell? ⟨w.heap.size,2,none⟩=some (.slice bo l0 i)/\W.cell? ⟨w.heap.size+1,0,none⟩=some (.slice xo n xc)):=fun W k=>by
  obtain ⟨q0,q1,q2⟩:=ax ((k.block _ (lt_of_block S) (fun f=>f)).trans S);exact ⟨q0,q1,q2,(ak.g k).cell⟩
 have z:HzD (ClZ 125 #[.agg (mzA ao n d K bo l0 i)] W0 fun e w'=>∃ zo zc,e=.returned (.slice zo n zc)/\MonR w' (.slice zo n zc) n V 1/\Kept af W0 w'):=by
  have:=L5 ao bo n l0 K d i ms rs W0 (hM.g k0);rw [<- hV] at this;exact this
 have y:HzD (∀ W yo yc zo zc P Q,Kept af W0 W->MonR W (.slice yo n yc) n V P->MonR W (.slice zo n zc) n V Q->ClZ 105 #[.pointer none,.agg (mzA ao n d K bo l0 i),.slice yo n yc,.slice zo n zc] W fun e w'=>∃ ro rc,e=.returned (.tuple #[.slice ro n rc,.int .i64 0])/\MonR w' (.slice ro n rc) n V (P*Q)/\Fresh W (.slice ro n rc)/\Kept af W w'):=fun W yo yc zo zc P Q k hA hB=>by
  rw [hV] at hA hB ⊢;exact LZ ao bo yo zo n l0 K d i yc zc P Q ms rs W (hM.g (k0.trans k)) hA hB
 have JX:HzD (∀ W,Kept af W0 W->MonR W (.slice xo n xc) n V X):=fun W k=>hx.g (k0.trans k)
 have O:HzD (∀ W,Kept af W0 W->Row .u64 W (.slice eo L a) ys):=fun W k=>he.g (k0.trans k)
 obtain ⟨_,_,_,e1,o,_⟩:=he.open;cases e1
 have M:=aa o;have q:HzD (∀ b,(Value.slice eo L a).ownBlock=some b->0<L->b<w.heap.size):=fun b hb hp=>he.lt (by intro e;rw [e] at o;have:=o.o;simp at this;omega) b hb
 have aq:=aa C;have v:=aa k0;have an:=aa f0;obtain ⟨c0,c1,c2,c3⟩:=JC.o _ (ah af W0);have hO:=z.o;clear C k0 S ak hM hx he o hV f0 f2 f3 z;refine (callsIn_wide (n:=9)).1 ?_;refine callsIn_of_wp_marks func70 rfl trivial ?_ rfl;simp only [ntmps70,iW,dh,fB,Nat.reduceAdd,Nat.reduceSub,iS,iT,iV,iU,bZ,fJ];refine wpIn_wide.2 ?_;go_wp2_with (rw [<- aq.o]);refine hO.mono ?_;rintro e W1 ⟨po,pc,rfl,T,k1⟩;clear hO c0 c1 c2 c3;go_wp2_with fail;have ai:=Im eo L a (W1.alloc (.cells #[.slice po n pc] 23))
 refine ai.mono ?_;rintro e W3 ⟨rfl,rfl⟩;have kP:Kept af W1 (W1.alloc (.cells #[.slice po n pc] 23)):=(ah af W1).alloc _;have kE:=kP.alloc (.cells #[.slice eo L a] 23);have Z:=(Box.new W1 (.slice po n pc) 23).alloc (.cells #[.slice eo L a] 23);have R:=Box.new (W1.alloc (.cells #[.slice po n pc] 23)) (.slice eo L a) 23;have av:((W1.alloc (.cells #[.slice po n pc] 23)).alloc (.cells #[.slice eo L a] 23)).heap.size=W1.heap.size+2:=by simp
 rw [World.size_alloc] at R;have U:=O.o _ (k1.trans kE);have E:∀ b,(Value.slice po n pc).ownBlock=some b->b≠W1.heap.size:=fun b hb e=>by
  have:=Row.lt T (by intro h;have h1:=congrArg List.length h;rw [ag] at h1;have h2:n=0:=h1;have:=an.o;omega) b hb;omega
 have R0:HzD (RS9 W1 _ _ W1.heap.size n V 1 (.slice po n pc)):=aa ⟨Z,T.g kE,E,kE,ah _ _⟩;obtain ⟨N,hN⟩:∃ N,aN (val ys)=N:=⟨_,rfl⟩
 obtain ⟨g,hg⟩:∃ g:Nat->Nat,∀ j,val ys/2^(N-1-j)%2=g j:=⟨_,fun _=>rfl⟩
 have HG:=aa hg;have HN:=aa hN;have K1:=aa k1;clear ai kP Z T E;go_wp2_with fail;generalize (W1.alloc (.cells #[.slice po n pc] 23)).alloc (.cells #[.slice eo L a] 23)=W3 at *;refine (wpIn_wide (n:=9)).1 ?_;refine wpIn_rangeFunc_ownG (F:=Fence.wide) (n:=9) rfl (by omega) (gf:=187) (lb:=#[.pointer (some ⟨W1.heap.size+1,0,none⟩)]) rfl trivial (enters_of func187 (by kernel_rfl) rfl)
  (DM 8 (by omega) (W1.heap.size+1) L N g (.slice eo L a) ys au M.o.o hN (by omega) hg (fun k=>k=W1.heap.size+1\/((Value.slice eo L a).ownBlock=some k/\0<L)) (.inl rfl) (fun b hb hp=>.inr ⟨hb,hp⟩) _ ?hsw R.cell U) KeepB.trans (KeepB.put ?hsw2) (Below.refl _ _) (fun _=>rfl)
  (Btw9 W1 W1.heap.size n V X (.slice eo L a) g) (fun _ _ _=>False)
  (om (fun s A B hs t=>hs.turn t (by rw [av];omega))) (fun _ _ _ _ _ hs _ _=>hs)
  ⟨po,pc,by have:=R0.o;exact this,R⟩
  ?act ?assign ?body ?done ?stop
 case hsw=>
  rintro k (rfl | ⟨hk,hp⟩)
  ·omega
  ·have:=q.o k hk hp;have:=v.o.size;have:=K1.o.size;omega
 case hsw2=>
  rintro k (rfl | ⟨hk,hp⟩)
  ·omega
  ·have:=q.o k hk hp;have:=v.o.size;have:=K1.o.size;omega
 case assign=>
  intro l x W K hK
  gi_wp2
  exact hK
 case body=>
  rintro l p x W ⟨qo,qc,R1,J⟩ hlt;have Y:=aa J;have HX:HzD (g x.val<2):=by rw [<- HG.o];exact bu
  have HR:=aa R1;have r:HzD (∀ (wE:World) (I:OA) (tc:Nat),RS9 W1 W wE W1.heap.size n V (X^nS g (p ++ [x])) (.slice I n tc)->KeepsFrom W3.heap.size W wE/\KeepB (fun k=>k=W1.heap.size+1\/((Value.slice eo L a).ownBlock=some k/\0<L)) W wE/\Btw9 W1 W1.heap.size n V X (.slice eo L a) g (p ++ [x]) wE):=fun wE I tc RE=>by
   have am:Box wE (W1.heap.size+1) (.slice eo L a) 23:=Y.o.kept RE.kept (by omega);refine ⟨l8 RE.kept (fun b hb _=>?_),?_,I,tc,⟨RE.box,RE.num,RE.ne,RE.old,ah _ _⟩,am⟩
   ·subst hb;exact ⟨_,_,_,HR.o.box⟩
   ·rintro k (rfl | ⟨hk,hp⟩)
    ·exact (show wE.heap[_]? = _ from am).trans (show W.heap[_]? = _ from Y.o).symm
    ·have h1:=q.o k hk hp;have h2:=v.o.size;have h3:=K1.o.size;have h4:=HR.o.old.size;exact RE.kept.block k (by omega) (by omega)
  obtain ⟨q0,q1,q2,q3⟩:=JC.o _ (K1.o.trans R1.old);have qP:=R1.box.cell;have fP:=R1.box.free;have m:=y.o W qo qc qo qc _ _ (K1.o.trans R1.old) R1.num R1.num;rw [<- aL] at m;clear R1 J
  gi_wp2_with fail
  refine ⟨trivial,?_⟩;refine (CallsIn.inRound l (callsIn_wide.2 m)).mono ?_;rintro e w7 ⟨so,sc,rfl,ab,ad,d7⟩;have R7:=HR.o.step d7;have G:∀ b,(Value.slice so n sc).ownBlock=some b->b≠W1.heap.size:=fun b hb e=>by
   have h1:=ad b hb;have h2:=HR.o.box.lt;omega
  have R8:=aa (R7.put ab G (leR _));have aA:=R7.box.cell;have ay:=R7.box.free;clear m ab ad d7 G R7 q0 q1 q2 q3 qP fP;by_cases h1:g x.val=1
  ·obtain ⟨q0,q1,q2,q3⟩:=JC.o _ (K1.o.trans R8.o.old);have qP:=R8.o.box.cell;have fP:=R8.o.box.free;have m:=y.o _ so sc xo xc _ _ (K1.o.trans R8.o.old) R8.o.num (JX.o _ (K1.o.trans R8.o.old));rw [<- aG,show (nS g p+nS g p).succ=nS g (p ++ [x]) by rw [rX,h1];omega] at m;have gx:((g x.val:Nat):Int)=1:=by omega
   clear h1
   gi_wp2_with fail
   refine ⟨trivial,?_⟩;refine (CallsIn.inRound l (callsIn_wide.2 m)).mono ?_;rintro e w9 ⟨I,tc,rfl,ac,ae,d9⟩;have R9:=R8.o.step d9;have H:∀ b,(Value.slice I n tc).ownBlock=some b->b≠W1.heap.size:=fun b hb e=>by
    have h1:=ae b hb;have h2:=R8.o.box.lt;omega
   have ar:=aa (R9.put ac H (leR _));have aB:=R9.box.cell;have az:=R9.box.free;clear m ac ae d9 H R9 q0 q1 q2 q3 qP fP
   gi_wp2_with fail
   exact r.o _ _ _ ar.o
  ·have gx:¬ ((g x.val:Nat):Int)=1:=by omega
   have R9:=R8.o;rw [show nS g p+nS g p=nS g (p ++ [x]) by rw [rX];have:=HX.o;omega] at R9;have ap:=aa R9;clear h1 R9
   gi_wp2_with fail
   exact r.o _ _ _ ap.o
 case done=>
  rintro D zs W hD al ⟨qo,qc,R1,J⟩ hK;have qP:=R1.box.cell;have hE:nS g zs=val ys:=by
   rw [BV al,show g=fun j=>val ys/2^(N-1-j)%2 from funext (fun j=>(HG.o j).symm)];exact EC HN.o
  rw [hE] at R1;have HR:=aa R1;have HK:=aa hK;clear hE al R1 J hg hN hK;go_wp2_with fail;refine ⟨by simp,.inl ⟨_,_,rfl,run_takeDeferred HK.o,?_⟩⟩;have tt:=xy (B:=W3.heap.size) hD HK.o rfl (.deferred none);exact ⟨_,results_tmp rfl _ _ _,qo,qc,rfl,tt.row HR.o.num,tt.kept (v.o.trans (K1.o.trans HR.o.old)) (by have h1:=v.o.size;have h2:=K1.o.size;omega)⟩
 case stop=>
  rintro D c p W _ _ h _;exact h.elim

end Go.Proofs.YtpkmoamgpjcdeaaGreatDoor
