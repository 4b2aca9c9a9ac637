/- Put together of: Mon5. -/
import Derived.Test.YtkaojflnghfmcaaGreatDoorQC11

namespace Go.Proofs.YtkaojflnghfmcaaGreatDoor
open _root_.Go.Proofs.Tryz
set_option maxRecDepth 100000
set_option maxHeartbeats 4000000
open Go.RowKit

def jb (cnt n V:Nat) (N:Nat->Nat) (xss:Nat->List Nat):Prop:=∀ i,i<cnt->N i=n/\val (xss i)<V

def inN (cnt n V:Nat) (N:Nat->Nat) (xss:Nat->List Nat):Nat->Nat
 | 0=>1
 | k+1=>if inN cnt n V N xss k=1/\(N k=n/\val (xss k)<V) then 1 else 0

theorem ux (a n V:Nat) (N:Nat->Nat) (b:Nat->List Nat):∀ k,inN a n V N b k<=1
 | 0=>by simp [inN]
 | k+1=>by unfold inN;split <;> omega

theorem ru (b n V:Nat) (N:Nat->Nat) (a:Nat->List Nat):∀ k,inN b n V N a k=1↔jb k n V N a
 | 0=>by simp [inN,jb]
 | k+1=>by
  have ih:=ru b n V N a k;unfold inN;constructor
  ·intro h
   split at h
   ·rename_i h1
    intro i hi;rcases jE i k with h2 | h2
    ·exact ih.1 h1.1 i h2
    ·obtain rfl:i=k:=by omega
     exact h1.2
   ·omega
  ·intro h;rw [ah ⟨ih.2 (fun i hi=>h i (by omega)),h k (by omega)⟩]

theorem sH (b n V:Nat) (N:Nat->Nat) (a:Nat->List Nat) (k:Nat):bits .and .u64 ((inN b n V N a k:Nat):Int) ((rF (N k) n (val (a k)) V:Nat):Int)=((inN b n V N a (k+1):Nat):Int):=by
 have h:=ux b n V N a k;have h1:inN b n V N a (k+1)=if inN b n V N a k=1/\(N k=n/\val (a k)<V) then 1 else 0:=rfl
 rw [h1];unfold rF;generalize inN b n V N a k=m at *;have c:m=0\/m=1:=by omega
 by_cases h2:N k=n/\val (a k)<V
 ·rcases c with rfl | rfl
  ·rw [ah h2,ai (by omega)]
   decide
  ·rw [ah h2,ah ⟨rfl,h2⟩]
   decide
 ·rcases c with rfl | rfl
  ·rw [ai h2,ai (by omega)]
   decide
  ·rw [ai h2,ai (fun h=>h2 h.2)]
   decide

def kI (W:World) (o:Tr) (m:List Ev) (n:Nat) (G:Nat->Prop) (w':World) (v':Value):Prop:=
 ∃ (Y:Nat) (o':Tr),OwnN .u64 24 w' W.heap.size v' n (digs Y n)/\G Y/\Did W o m w' o'

theorem CV (o:Tr) (ao bo lo:Option Addr) (n l K g j a M f:Nat) (p:Array Value) (A:Nat->Option Addr) (N C:Nat->Nat) (c:Nat->List Nat) (ms rs:List Nat) (bM bL bT bF bO E rm:Nat) (dE:List Ev) (G:Nat->Prop) (w:World)
  (ht:TrRoom w o (a+rm)) (hm:RowT w o (.slice ao n g) ms) (hr:RowT w o (.slice bo l j) rs) (D:Digs ms) (I:Digs rs) (hK:K<18446744073709551616) (ak:n<=1000000) (ad:a<=1000)
  (hs:∀ W m o',Did w o m W o'->Slots W lo a A N C) (t:∀ i,i<a->RowT w o (.slice (A i) (N i) (C i)) (c i)) (r:∀ i,i<a->Digs (c i))
  (hM:w.heap[bM]? = some (.cells #[.slice ao n g,.int .u64 (K:Nat),.slice bo l j] 70 (0,0))) (hL:Box w bL (.slice lo a M) 58) (hT:Box w bT (aL o) 53) (hF:Box w bF (.func (.func f) #[] p) 165) (hO:Box w bO (.slice none 0 0) 23)
  (hf:∀ args w,(callFunc f args).run prog w=.ok (.enter f args) w)
  (H:n<=130->∀ W m o',Did w o m W o'->TrRoom W o' rm->Calls prog f (#[.int .i64 (n:Int)] ++ p) W fun e w'=>∃ v',e=.returned v'/\kI W o' dE n (fun Y=>okMod ms K rs->jb a n (val ms) N c->G Y) w' v')
  (hE:E=0↔okMod ms K rs/\jb a n (val ms) N c) :
  Calls prog 175 #[.pointer (some ⟨bM,0,none⟩),.pointer (some ⟨bL,0,none⟩),.pointer (some ⟨bT,0,none⟩),.pointer (some ⟨bF,0,none⟩),.pointer (some ⟨bO,0,none⟩)] w fun e w'=>
   (n<=130/\∃ (Y:Nat) (v':Value) (w1:World) (o1:Tr),Row .u64 w1 v' (digs Y n)/\(Fresh w v'/\U64s w1 v')/\(E=0->G Y)/\Did w o (List.replicate a (1,(n:Int),0) ++ dE) w1 o1 /\
    ((E=0/\e=.returned (.tuple #[])/\w'=w1.setCell ⟨bO,0,none⟩ v')\/(E≠0/\e=.panicked [refusal 1]/\w'=w1))) \/
   (130<n/\E≠0/\e=.panicked [refusal 1]/\w'=w):=by
 obtain ⟨_,_,_,e1,O,_,_,_,_⟩:=hm.1.open;cases e1
 obtain ⟨tp,J⟩:∃ tp,tp=aL o:=⟨_,rfl⟩
 obtain ⟨V,hV⟩:∃ V,V=val ms:=⟨_,rfl⟩
 rw [<- hV] at hE H;have q:=ht.1;have JM:Hid (∀ W m o',Did w o m W o'->W.cell? ⟨bM,0,none⟩=some (.slice ao n g)/\W.cell? ⟨bM,1,none⟩=some (.int .u64 (K:Nat))/\W.cell? ⟨bM,2,none⟩=some (.slice bo l j)):=fun W m o' d=>aw ((d.kept.block _ (lt_of_block hM) (aI hM q (by decide) (by decide))).trans hM)
 have JT:Hid (∀ W m o',Did w o m W o'->W.cell? ⟨bT,0,none⟩=some tp):=fun W m o' d=>by rw [J];exact (hT.did d q (by decide) (by decide)).cell
 have JF:Hid (∀ W m o',Did w o m W o'->W.cell? ⟨bF,0,none⟩=some (.func (.func f) #[] p)):=fun W m o' d=>(hF.did d q (by decide) (by decide)).cell
 have JO:Hid (∀ W m o',Did w o m W o'->W.cell? ⟨bO,0,none⟩=some (.slice none 0 0)/\W.frozen? ⟨bO,0,none⟩=false):=fun W m o' d=>⟨(hO.did d q (by decide) (by decide)).cell,(hO.did d q (by decide) (by decide)).free⟩
 have h0:=Did.of_kept (aj af w) q;obtain ⟨p0,p1,p2⟩:=JM.out _ _ _ h0;have pL:=hL.cell;have P:=iT 1 w;have B:=fN 1 w;by_cases hn:n<=130
 ·have g1:¬ (n:Int) > 130:=by omega
  have JB:Hid (∀ W m o' i,Did w o m W o'->TrRoom W o' 1->i<a->Calls prog 176 #[tp,.agg #[.slice ao n g,.int .u64 (K:Nat),.slice bo l j],.slice (A i) (N i) (C i)] W fun e w'=>e=.returned (.int .u64 ((rF (N i) n (val (c i)) V:Nat):Int))/\∃ o2,Did W o' [(1,(n:Int),0)] w' o2):=fun W m o' i d hr hi=>by
   have:=Da o' ao bo (A i) n (N i) g l j (C i) K ms (c i) W hr (hm.did d) ((t i hi).did d) D (r i hi) (by omega) _ rfl;rw [d.ptr,<- J,<- hV] at this;exact this
  have JD:Hid (∀ W m o',Did w o m W o'->TrRoom W o' rm->Calls prog f (#[.int .i64 (n:Int)] ++ p) W fun e w'=>∃ v',e=.returned v'/\kI W o' dE n (fun Y=>okMod ms K rs->jb a n V N c->G Y) w' v'):=H hn;have JK:Hid (∀ W m o' (R:Bool),Did w o m W o'->(R=true↔okMod ms K rs)->Calls prog 135 #[.agg #[.slice ao n g,.int .u64 (K:Nat),.slice bo l j]] W fun e w'=>e=.returned (.bool R)/\Kept af W w'):=fun W m o' R d hR=>nE ao bo n l K g j ms rs R hR W (hm.did d).1 (hr.did d).1 D I hK (by omega)
  have JS:=aa hs;have HT:=aa ht;have HE:=aa hE;have H0:=aa h0;clear hm hr D I hK hs t r hM hL hT hF hO H hE q J hV ht h0 B O;go_enter func175,ntmps175;go_wp2_with fail;refine P.mono ?_;rintro e w1 ⟨rfl,rfl⟩;clear P;go_wp2_with fail;go_loopw [6,18] (fun mv i wr=>∃ (k:Nat) (o1:Tr),k<=a/\i=.int .i64 (k:Int)/\mv=.int .u64 ((inN a n V N c k:Nat):Int)/\Hid (Did w1 o (List.replicate k (1,(n:Int),0)) wr o1)) (fun _ i _=>a-(intOf i).toNat)
  case atStart=>exact ⟨0,o,aP _,rfl,rfl,H0.out⟩
  case round=>
   obtain ⟨k,o1,hk,rfl,rfl,HD⟩:=hrel;by_cases hkc:k<a
   ·have ai:(0:Int)<=(k:Int):=bY _;have gk:(k:Int)<(a:Int):=by omega
    obtain ⟨q0,q1,q2⟩:=JM.out _ _ _ HD.out;have qT:=JT.out _ _ _ HD.out;obtain ⟨b2,ae,rfl,ac⟩:=JS.out _ _ _ HD.out k hkc;have b:TrRoom wr o1 1:=HD.out.room (by rw [be];exact HT.out.less (by omega));have hB:=JB.out wr _ o1 k HD.out b hkc;have ab:=sH a n V N c k;have T:=aa HD;clear HD b;generalize rF (N k) n (val (c k)) V=mm at *;generalize hm2:inN a n V N c (k+1)=m2 at *;have Z:=aa hm2;clear hm2;generalize inN a n V N c k=m1 at *;go_wp2_with fail;refine hB.mono ?_;rintro e w2 ⟨rfl,o2,d2⟩;have U:=aa (T.out.out.trans d2);clear hB d2 q0 q1 q2 qT ac;go_wp2_with fail;go_roundw
    case rel=>exact ⟨k+1,o2,by omega,by go_num,by rw [Z.out],by unfold Hid;rw [gG];exact U.out⟩
    case measure=>simp [intOf];omega
   ·have gk:¬ (k:Int)<(a:Int):=by omega
    obtain rfl:k=a:=by omega
    have qF:=JF.out _ _ _ HD.out;have b:TrRoom wr o1 rm:=HD.out.room (by rw [be];exact HT.out);have hD:=JD.out wr _ o1 HD.out b;have HI:=aa (ru k n V N c k);have X:=aa (ux k n V N c k);generalize inN k n V N c k=mem at *;go_wp2_with fail;refine hD.mono ?_;rintro e w3 ⟨v3,rfl,Y,o3,F,hG,d3⟩;have D3:=aa (HD.out.trans d3);obtain ⟨S,Q,rfl⟩:=dg F;have L:=aa (cW F (ag _ _ _));have x:Hid (Fresh w1 (.slice S n Q)/\U64s w3 (.slice S n Q)):=⟨Fresh.own F HD.out.size,U64s.own F⟩
    have HG:=aa hG;obtain ⟨q0,q1,q2⟩:=JM.out _ _ _ D3.out;clear hD d3 F hG qF b;by_cases hok:okMod ms K rs
    ·by_cases hall:jb k n V N c
     ·have s:mem=1:=HI.out.2 hall;subst s;go_wp2_with fail;refine (JK.out w3 _ o3 true D3.out (by simp [hok])).mono ?_;rintro e w4 ⟨rfl,k4⟩;have v:=aa (D3.out.grew k4);have z:=aa (L.out.grew k4);have y:=aa (⟨x.out.1,x.out.2.grew k4⟩:_/\_);obtain ⟨x0,x1⟩:=JO.out _ _ _ v.out;clear k4;go_wp2_with fail;refine (iT 1 _).mono ?_;rintro e w5 ⟨rfl,rfl⟩;go_wp2_with fail;go_end0
      exact .inl ⟨hn,Y,_,w5,o3,z.out,y.out,fun _=>HG.out hok hall,v.out,.inl ⟨HE.out.2 ⟨hok,hall⟩,rfl,rfl⟩⟩
     ·have s:mem=0:=by
       have h1:mem≠1:=fun h=>hall (HI.out.1 h)
       have h2:=X.out;omega
      subst s;go_wp2_with fail;refine (JK.out w3 _ o3 true D3.out (by simp [hok])).mono ?_;rintro e w4 ⟨rfl,k4⟩;have v:=aa (D3.out.grew k4);have z:=aa (L.out.grew k4);have y:=aa (⟨x.out.1,x.out.2.grew k4⟩:_/\_);clear k4;go_wp2_with fail;refine (fN 1 _).mono ?_;rintro e w5 ⟨rfl,rfl⟩;exact ⟨rfl,.inl ⟨hn,Y,_,_,o3,z.out,y.out,fun h=>absurd (HE.out.1 h).2 hall,v.out,.inr ⟨fun h=>hall (HE.out.1 h).2,rfl,rfl⟩⟩⟩
    ·go_wp2_with fail;refine (JK.out w3 _ o3 false D3.out (by simp [hok])).mono ?_;rintro e w4 ⟨rfl,k4⟩;have v:=aa (D3.out.grew k4);have z:=aa (L.out.grew k4);have y:=aa (⟨x.out.1,x.out.2.grew k4⟩:_/\_);clear k4;go_wp2_with fail;refine (fN 1 _).mono ?_;rintro e w5 ⟨rfl,rfl⟩;exact ⟨rfl,.inl ⟨hn,Y,_,_,o3,z.out,y.out,fun h=>absurd (HE.out.1 h).1 hok,v.out,.inr ⟨fun h=>hok (HE.out.1 h).1,rfl,rfl⟩⟩⟩
 ·have g1:(n:Int) > 130:=by omega
  have HE:Hid (E≠0):=fun h=>by
   have:=(hE.1 h).1;have h2:=(oF (K:=K) O.out rfl D I hK).1 this;have h3:=h2.1;unfold rfn at h3;rw [ah (by omega)] at h3;omega
  clear hm hr D I hK hs t r hM hL hT hF hO H hE q J hV ht h0 P O;go_enter func175,ntmps175;go_wp2_with fail;refine B.mono ?_;rintro e w1 ⟨rfl,rfl⟩;exact ⟨rfl,.inr ⟨by omega,HE.out,rfl,rfl⟩⟩

def Answered (w:World) (o:Tr) (n E cnt:Nat) (dE:List Ev) (G:Nat->Prop) (w':World) (v':Value):Prop:=
 (∃ Y,Row .u64 w' v' (if E=0 then digs Y n else [])/\(E=0->G Y))/\(Fresh w v'/\U64s w' v')/\∃ o',Did w o (if n<=130 then List.replicate cnt (1,(n:Int),0) ++ dE else []) w' o'

theorem uG (o:Tr) (ao bo lo:Option Addr) (n l K a b j p f:Nat) (g:Array Value) (A:Nat->Option Addr) (N C:Nat->Nat) (D:Nat->List Nat) (ms rs:List Nat) (E rm:Nat) (dE:List Ev) (G:Nat->Prop) (w:World) (aq:dE.length<=rm)
  (ht:TrRoom w o (j+rm)) (hm:RowT w o (.slice ao n a) ms) (hr:RowT w o (.slice bo l b) rs) (Z:Digs ms) (ac:Digs rs) (hK:K<18446744073709551616) (ab:n<=1000000) (y:j<=1000)
  (hs:∀ W m o',Did w o m W o'->Slots W lo j A N C) (B:∀ i,i<j->RowT w o (.slice (A i) (N i) (C i)) (D i)) (z:∀ i,i<j->Digs (D i))
  (hf:∀ args w,(callFunc f args).run prog w=.ok (.enter f args) w)
  (X:n<=130->∀ W m o',Did w o m W o'->TrRoom W o' rm->Calls prog f (#[.int .i64 (n:Int)] ++ g) W fun e w'=>∃ v',e=.returned v'/\kI W o' dE n (fun Y=>okMod ms K rs->jb j n (val ms) N D->G Y) w' v')
  (hE:E=0↔okMod ms K rs/\jb j n (val ms) N D) (al:E<=1) :
  Calls prog 118 #[aL o,.agg #[.slice ao n a,.int .u64 (K:Nat),.slice bo l b],.func (.func f) #[] g,.slice lo j p] w fun e w'=>∃ v',e=.returned (.tuple #[v',.int .i64 (E:Int)])/\Answered w o n E j dE G w' v':=by
 have ap:=im;have he:∀ args w,(callFunc 175 args).run prog w=.ok (.enter 175 args) w:=fun _ _=>by simp [go_sem]
 obtain ⟨po,I⟩:=aK o;obtain ⟨W,hW⟩:∃ W,W=((((w.alloc (.cells #[.pointer po] 53)).alloc (.cells #[.slice ao n a,.int .u64 (K:Nat),.slice bo l b] 70)).alloc (.cells #[.func (.func f) #[] g] 165)).alloc (.cells #[.slice lo j p] 58)).alloc (.cells #[.slice none 0 0] 23):=⟨_,rfl⟩
 have k0:Kept af w W:=by rw [hW];exact (((((aj af w).alloc _).alloc _).alloc _).alloc _).alloc _
 have ad:W.heap.size=w.heap.size+1+1+1+1+1:=by rw [hW];simp
 have T:Box W w.heap.size (.pointer po) 53:=by rw [hW];exact ((((Box.new w _ _).alloc _).alloc _).alloc _).alloc _
 have R:W.heap[w.heap.size+1]? = some (.cells #[.slice ao n a,.int .u64 (K:Nat),.slice bo l b] 70 (0,0)):=by
  rw [hW];refine au (au (au ?_));have:=heap_alloc_new (w.alloc (.cells #[.pointer po] 53)) (.cells #[.slice ao n a,.int .u64 (K:Nat),.slice bo l b] 70)
  rwa [show (w.alloc (.cells #[.pointer po] 53)).heap.size=w.heap.size+1 by simp] at this
 have P:Box W (w.heap.size+1+1) (.func (.func f) #[] g) 165:=by
  rw [hW];refine Box.alloc (Box.alloc ?_ _) _;have:=Box.new ((w.alloc (.cells #[.pointer po] 53)).alloc (.cells #[.slice ao n a,.int .u64 (K:Nat),.slice bo l b] 70)) (.func (.func f) #[] g) 165
  rwa [show ((w.alloc (.cells #[.pointer po] 53)).alloc (.cells #[.slice ao n a,.int .u64 (K:Nat),.slice bo l b] 70)).heap.size=w.heap.size+1+1 by simp] at this
 have Q:Box W (w.heap.size+1+1+1) (.slice lo j p) 58:=by
  rw [hW];refine Box.alloc ?_ _;have:=Box.new (((w.alloc (.cells #[.pointer po] 53)).alloc (.cells #[.slice ao n a,.int .u64 (K:Nat),.slice bo l b] 70)).alloc (.cells #[.func (.func f) #[] g] 165)) (.slice lo j p) 58
  rwa [show (((w.alloc (.cells #[.pointer po] 53)).alloc (.cells #[.slice ao n a,.int .u64 (K:Nat),.slice bo l b] 70)).alloc (.cells #[.func (.func f) #[] g] 165)).heap.size=w.heap.size+1+1+1 by simp] at this
 have F:Box W (w.heap.size+1+1+1+1) (.slice none 0 0) 23:=by
  rw [hW];have:=Box.new ((((w.alloc (.cells #[.pointer po] 53)).alloc (.cells #[.slice ao n a,.int .u64 (K:Nat),.slice bo l b] 70)).alloc (.cells #[.func (.func f) #[] g] 165)).alloc (.cells #[.slice lo j p] 58)) (.slice none 0 0) 23
  rwa [show ((((w.alloc (.cells #[.pointer po] 53)).alloc (.cells #[.slice ao n a,.int .u64 (K:Nat),.slice bo l b] 70)).alloc (.cells #[.func (.func f) #[] g] 165)).alloc (.cells #[.slice lo j p] 58)).heap.size=w.heap.size+1+1+1+1 by simp] at this
 have k1:=k0.alloc (.cells #[.int .i64 0] 32);have xe:=Box.new W (.int .i64 0) 32;have h1:=CV o ao bo lo n l K a b j p f g A N C D ms rs (w.heap.size+1) (w.heap.size+1+1+1) w.heap.size (w.heap.size+1+1) (w.heap.size+1+1+1+1) E rm dE G _ (ht.grew k1) (hm.grew k1) (hr.grew k1) Z ac hK ab y (fun W' m o' d=>hs W' m o' (Did.after k1 d)) (fun i hi=>(B i hi).grew k1) z (au R) (Q.alloc _) (by rw [I];exact T.alloc _) (P.alloc _) (F.alloc (.cells #[.int .i64 0] 32)) hf (fun hn W' m o' d=>X hn W' m o' (Did.after k1 d)) hE;have J:(W.alloc (.cells #[.int .i64 0] 32)).heap.size=W.heap.size+1:=by simp
 have O:=pq 175 #[.pointer (some ⟨w.heap.size+1,0,none⟩),.pointer (some ⟨w.heap.size+1+1+1,0,none⟩),.pointer (some ⟨w.heap.size,0,none⟩),.pointer (some ⟨w.heap.size+1+1,0,none⟩),.pointer (some ⟨w.heap.size+1+1+1+1,0,none⟩)] W
  (fun c W'=>c=(E:Int)/\∃ (Y:Nat) (v':Value) (o1:Tr),Row .u64 W' v' (if E=0 then digs Y n else [])/\(E=0->G Y)/\((∀ x,v'.ownBlock=some x->W.heap.size+1<=x)/\U64s W' v')/\Did w o (if n<=130 then List.replicate j (1,(n:Int),0) ++ dE else []) W' o1/\TrIn W' o1/\Box W' (w.heap.size+1+1+1+1) v' 23) he (h1.mono (by
  have L:TrIn (W.alloc (.cells #[.int .i64 0] 32)) o:=(ht.grew k1).1;rintro e w' (⟨hn,Y,v',w1,o1,hR,hF,hG,d,t⟩ | ⟨hn,h2,rfl,rfl⟩)
  ·have ae:=xe.did d L (by decide) (by decide);have M:=(F.alloc (.cells #[.int .i64 0] 32)).did d L (by decide) (by decide);have ag:TrIn w1 o1:=(d.room (k:=0) ((ht.grew k1).less (by rw [aZ,be];omega))).1;have H:∀ x,v'.ownBlock=some x->W.heap.size+1<=x:=fun x hx=>by have:=hF.1 x hx;omega
   rcases t with ⟨h2,rfl,rfl⟩ | ⟨h2,rfl,rfl⟩
   ·have kb:=aD w1 (w.heap.size+1+1+1+1) v';have am:=M.apart ag (by decide) (by decide);have d2:=(Did.after k1 d).wroteNew kb (by omega) am;refine ⟨ae.kept kb (by omega),.inl ⟨rfl,by rw [h2];rfl,Y,v',o1,?_,hG,⟨H,hF.2.kept kb (fun x hx e=>by have:=H x hx;omega)⟩,?_,?_,M.set v'⟩⟩
    ·rw [ah h2];exact hR.kept kb (fun x hx e=>by have:=H x hx;omega)
    ·rw [ah hn];exact d2
    ·exact (d2.room (k:=0) (ht.less (by rw [aZ,be];omega))).1
   ·refine ⟨ae,.inr ⟨1,rfl,by omega,Y,.slice none 0 0,o1,?_,hG,⟨(fun x hx=>by cases hx),U64s.nil _⟩,?_,ag,M⟩⟩
    ·rw [ai h2];exact Row.nil _ _
    ·rw [ah hn];exact Did.after k1 d
  ·refine ⟨xe,.inr ⟨1,rfl,by omega,0,.slice none 0 0,o,?_,(fun h=>absurd h h2),⟨(fun x hx=>by cases hx),U64s.nil _⟩,?_,L,F.alloc _⟩⟩
   ·rw [ai h2];exact Row.nil _ _
   ·rw [ai (by omega)];exact Did.of_kept k1 ht.1))
 have HW:=aa hW;have q:=aa ad;have HT:=aa ht;rw [I];clear h1 hm hr Z ac hK ab y hs B z X hE al hW k0 k1 R F Q P T xe he ad J ht I hf;go_enter func118,ntmps118;go_wp2_with (rw [<- HW.out]);refine O.mono ?_;rintro e w' ⟨c,w1,rfl,⟨⟨rfl,Y,v',o1,hR,hG,hF,d,ti,hO⟩,V⟩,rfl⟩;obtain ⟨xo,xn,xc,rfl,_,_,_,_,_⟩:=hR.open;have s:Box w1 W.heap.size (.int .i64 0) 32:=V;have k3:=aD w1 W.heap.size (.int .i64 (E:Int));have an:w.heap.size+1+1+1+1≠W.heap.size:=by have:=q.out;omega
 have r:=hO.other ⟨W.heap.size,0,none⟩ an (.int .i64 (E:Int));have d3:=d.wroteNew k3 (by have:=q.out;omega) (s.apart ti (by decide) (by decide));have ak:TrIn (w1.setCell ⟨W.heap.size,0,none⟩ (.int .i64 (E:Int))) o1:=(d3.room (k:=0) (HT.out.less (by split <;> simp <;> omega))).1;have S:=hR.kept k3 (fun x hx e=>by have:=hF.1 x hx;omega);have U:=hF.2.kept k3 (fun x hx e=>by have:=hF.1 x hx;omega);generalize w1.setCell ⟨W.heap.size,0,none⟩ (.int .i64 (E:Int))=w2 at *;have c0:=r.cell;have f0:=r.free;have c1:=(r.set (.slice xo xn xc)).cell;have k4:=aD w2 (w.heap.size+1+1+1+1) (.slice xo xn xc)
 have HR:=aa (S.kept k4 (fun x hx e=>by have:=hF.1 x hx;have:=q.out;omega));have HU:=aa (U.kept k4 (fun x hx e=>by have:=hF.1 x hx;have:=q.out;omega));have HD:=aa (d3.wroteNew k4 (by omega) (r.apart ak (by decide) (by decide)));have HF:Hid (Fresh w (.slice xo xn xc)):=fun x hx=>by have:=hF.1 x hx;have:=q.out;omega
 have HG:=aa hG;clear O hR S U hG hF d d3 ti ak hO r V s k3 k4;go_wp2_with fail;exact bodyPost_ret (v:=.tuple #[.slice xo xn xc,.int .i64 (E:Int)]) (by simp [results,results118,go_sem,c1]) rfl ⟨_,rfl,⟨Y,HR.out,HG.out⟩,⟨HF.out,HU.out⟩,o1,HD.out⟩

theorem okMod.facts {ms rs:List Nat} {K n l:Nat} (h:okMod ms K rs) (hn:ms.length=n) (hl:rs.length=l) (b:Digs ms) (c:Digs rs) (hK:K<18446744073709551616) :
  (val ms*K+1)%18446744073709551616=0/\0<n/\n<=130/\l=n/\val ms%2=1/\val ms<18446744073709551616^n/\val rs=18446744073709551616^(2*n)%val ms:=by
 obtain ⟨h1,h2,h3,h4⟩:=(oF hn hl b c hK).1 h;have a:val ms<18446744073709551616^n:=by rw [<- hn];exact aE (by omega) b
 obtain ⟨V,hV⟩:∃ V,V=val ms:=⟨_,rfl⟩
 rw [<- hV] at h1 h2 h4 a ⊢;have m:=dm h.1;rw [<- hV] at m;unfold n9 at h4;by_cases h5:(V*K+1)%18446744073709551616=0/\val rs=18446744073709551616^(2*n)%V
 ·refine ⟨h5.1,?_,by omega,h3,m.2.2,a,h5.2⟩;rcases cF n with h0 | h0
  ·rw [h0,cw] at a;omega
  ·exact h0
 ·rw [ai h5] at h4;omega

def cD (n:Nat):List Ev:=List.replicate n (1,(n:Int),0) ++ List.replicate (n+2) (1,(n:Int),0)

theorem Reduced.done {W:World} {o:Tr} {m:List Ev} {n K X V:Nat} {w':World} {v':Value} {G:Nat->Prop} (h:Reduced W o m n K X V w' v') (hG:∀ Y,((V*K+1)%18446744073709551616=0->0<n->X<V*18446744073709551616^n->Y<V/\18446744073709551616^n*Y%V=X%V)->G Y):kI W o (m ++ List.replicate (n+2) (1,(n:Int),0)) n G w' v':=by
 obtain ⟨Y,o',h1,h2,h3⟩:=h;exact ⟨Y,o',h1,hG Y h2,h3⟩

def pT (n V X Z:Nat) (Y:Nat):Prop:=Y<V/\2^(64*n)*Y%V=(X*Z)%V

theorem G6 (o:Tr) (ao bo xo yo:Option Addr) (n l K a c N1 N2 xc yc bT bM bA bB:Nat) (ms rs xs ys:List Nat) (w:World)
  (ht:TrRoom w o 1000) (hm:RowT w o (.slice ao n a) ms) (hx:RowT w o (.slice xo N1 xc) xs) (hy:RowT w o (.slice yo N2 yc) ys) (i:Digs ms) (v:Digs rs) (s:Digs xs) (t:Digs ys) (x:rs.length=l) (hK:K<18446744073709551616) (hn:n<=130)
  (hT:Box w bT (aL o) 53) (hM:w.heap[bM]? = some (.cells #[.slice ao n a,.int .u64 (K:Nat),.slice bo l c] 70 (0,0))) (hA:Box w bA (.slice xo N1 xc) 23) (hB:Box w bB (.slice yo N2 yc) 23) :
  Calls prog 181 #[.int .i64 (n:Int),.pointer (some ⟨bT,0,none⟩),.pointer (some ⟨bM,0,none⟩),.pointer (some ⟨bA,0,none⟩),.pointer (some ⟨bB,0,none⟩)] w fun e w'=>∃ v',e=.returned v' /\
   kI w o (cD n) n (fun Y=>okMod ms K rs->(N1=n/\val xs<val ms)->(N2=n/\val ys<val ms)->pT n (val ms) (val xs) (val ys) Y) w' v':=by
 obtain ⟨_,_,_,e1,q,_,_,_,_⟩:=hm.1.open;cases e1
 obtain ⟨po,j⟩:=aK o;have f:=ht.1;have JC:Hid (∀ W m o',Did w o m W o'->W.cell? ⟨bT,0,none⟩=some (.pointer po)/\W.cell? ⟨bA,0,none⟩=some (.slice xo N1 xc)/\W.cell? ⟨bB,0,none⟩=some (.slice yo N2 yc)/\W.cell? ⟨bM,0,none⟩=some (.slice ao n a)/\W.cell? ⟨bM,1,none⟩=some (.int .u64 (K:Nat))/\W.cell? ⟨bM,2,none⟩=some (.slice bo l c)):=fun W m o' d=>by
  rw [<- j];exact ⟨(hT.did d f (by decide) (by decide)).cell,(hA.did d f (by decide) (by decide)).cell,(hB.did d f (by decide) (by decide)).cell,aw ((d.kept.block _ (lt_of_block hM) (aI hM f (by decide) (by decide))).trans hM)⟩
 have JF:Hid (∀ W (zo:Option Addr) (z zc:Nat) (zs:List Nat),Kept af w W->RowT w o (.slice zo z zc) zs->Digs zs->Calls prog 121 #[.slice zo z zc,.int .i64 (n:Int)] W fun e w'=>∃ g,e=.returned (.slice (some ⟨g,0,none⟩) n n)/\Kept af W w'/\RowT w' o (.slice (some ⟨g,0,none⟩) n n) (digs (val zs) n)):=fun W zo z zc zs k hz y=>by
  refine (yH (.slice zo z zc) zs n W (hz.1.grew k) y (by omega)).mono ?_;rintro e w' ⟨rfl,ho,k'⟩;exact ⟨_,rfl,k',fU ho (ag _ _ _) (ht.grew (k.trans k')).1⟩
 have JX:Hid (∀ W,Kept af w W->Calls prog 121 #[.slice xo N1 xc,.int .i64 (n:Int)] W fun e w'=>∃ g,e=.returned (.slice (some ⟨g,0,none⟩) n n)/\Kept af W w'/\RowT w' o (.slice (some ⟨g,0,none⟩) n n) (digs (val xs) n)):=fun W k=>JF.out W _ _ _ _ k hx s
 have JY:Hid (∀ W,Kept af w W->Calls prog 121 #[.slice yo N2 yc,.int .i64 (n:Int)] W fun e w'=>∃ g,e=.returned (.slice (some ⟨g,0,none⟩) n n)/\Kept af W w'/\RowT w' o (.slice (some ⟨g,0,none⟩) n n) (digs (val ys) n)):=fun W k=>JF.out W _ _ _ _ k hy t
 have JT:Hid (∀ W g h,Kept af w W->RowT W o (.slice (some ⟨g,0,none⟩) n n) (digs (val xs) n)->RowT W o (.slice (some ⟨h,0,none⟩) n n) (digs (val ys) n)->Calls prog 120 #[.pointer po,.agg #[.slice ao n a,.int .u64 (K:Nat),.slice bo l c],.slice (some ⟨g,0,none⟩) n n,.slice (some ⟨h,0,none⟩) n n] W fun e w'=>∃ v',e=.returned v'/\kI w o (cD n) n (fun Y=>okMod ms K rs->(N1=n/\val xs<val ms)->(N2=n/\val ys<val ms)->pT n (val ms) (val xs) (val ys) Y) w' v'):=fun W g h k hg hh=>by
  have:=uI o n K a l c n n ao bo _ _ _ _ ms W (ht.grew k) hg hh (hm.grew k) (ak (by omega) _ _) (ak (by omega) _ _) i hn;rw [j] at this;refine this.mono ?_;rintro e w' ⟨v',rfl,hR⟩;refine ⟨v',rfl,?_⟩;obtain ⟨Y,o',h1,h2,h3⟩:=hR.done (G:=fun Y=>okMod ms K rs->(N1=n/\val xs<val ms)->(N2=n/\val ys<val ms)->pT n (val ms) (val xs) (val ys) Y) (fun Y hY A h1 h2=>by
   obtain ⟨f1,f2,f3,f4,f5,f6,f7⟩:=A.facts q.out x i v hK;rw [aB,aB,ax (bk h1.2 f6),ax (bk h2.2 f6)] at hY;have:=hY f1 f2 (lu h1.2 (fE (bk h2.2 f6)) (aC (by omega)));rw [B64] at this;exact this)
  exact ⟨Y,o',cE h1 (fun b hb=>aR k.size (h1.lt b hb).1),h2,Did.after k h3⟩
 have h0:=Did.of_kept (aj af w) f;obtain ⟨c0,c1,c2,c3,c4,c5⟩:=JC.out _ _ _ h0;have p:=aa f;have JD:Hid (∀ (W:World) (v':Value) (G:Nat->Prop),kI w o (cD n) n G W v'->∃ m o',Did w o m W o'):=fun W v' G h=>by
  obtain ⟨Y,o',_,_,d⟩:=h;exact ⟨_,_,d⟩
 clear ht hm hx hy i v s t x hK hT hM hA hB j f h0 JF q;generalize (fun Y=>okMod ms K rs->(N1=n/\val xs<val ms)->(N2=n/\val ys<val ms)->pT n (val ms) (val xs) (val ys) Y)=G at *;generalize val xs=X at *;generalize val ys=Z at *;go_enter func181,ntmps181;go_wp2_with fail;go_region_held3 (fun w'=>w'.cell? ⟨bT,0,none⟩=some (.pointer po)/\w'.cell? ⟨bA,0,none⟩=some (.slice xo N1 xc)/\w'.cell? ⟨bB,0,none⟩=some (.slice yo N2 yc)/\w'.cell? ⟨bM,0,none⟩=some (.slice ao n a)/\w'.cell? ⟨bM,1,none⟩=some (.int .u64 (K:Int))/\w'.cell? ⟨bM,2,none⟩=some (.slice bo l c))
  (((try dsimp only);(repeat' apply And.intro) <;> first | (go_keep;done) | assumption))
  (first
  | (go_at_call_of 121 (Value.slice xo N1 xc);refine (JX.out _ ?_).mono ?_;(exact (aj _ _).drew);rintro e w2 ⟨g2,rfl,k2,r2⟩;obtain ⟨q0,q1,q2,q3,q4,q5⟩:=JC.out _ _ _ (Did.of_kept ((aj _ _).drew.trans k2) p.out))
  | (go_at_call_of 121 (Value.slice yo N2 yc);refine (JY.out _ ?_).mono ?_;(exact (aj _ _).drew.trans k2);rintro e w3 ⟨g3,rfl,k3,r3⟩;obtain ⟨s0,s1,s2,s3,s4,s5⟩:=JC.out _ _ _ (Did.of_kept ((aj _ _).drew.trans (k2.trans k3)) p.out))
  | (go_at_call 120;refine (JT.out _ g2 g3 ?_ ?_ ?_).mono ?_;(exact (aj _ _).drew.trans (k2.trans k3));(exact r2.grew k3);(exact r3);rintro e w4 ⟨v4,rfl,r⟩;obtain ⟨m4,o4,d4⟩:=JD.out _ _ _ r;obtain ⟨t0,t1,t2,t3,t4,t5⟩:=JC.out _ _ _ d4))
 all_goals
  go_wp2_with fail;go_ret;exact ⟨_,rfl,r⟩

theorem nN {W:World} {g N1 N2 xc yc:Nat} {xo yo:Option Addr} {t:TypeId} (h:W.heap[g]? = some (.cells #[.slice xo N1 xc,.slice yo N2 yc] t (0,0))):Slots W (some ⟨g,0,none⟩) 2 (fun i=>if i=0 then xo else yo) (fun i=>if i=0 then N1 else N2) (fun i=>if i=0 then xc else yc):=by
 intro i hi;refine ⟨g,0,rfl,?_⟩;have a:i=0\/i=1:=by omega
 rcases a with rfl | rfl
 ·exact (cell_of_row W g 0 _ _ _ h).trans rfl
 ·exact (cell_of_row W g 1 _ _ _ h).trans rfl

theorem pC {W:World} {g N1 xc:Nat} {xo:Option Addr} {t:TypeId} (h:W.heap[g]? = some (.cells #[.slice xo N1 xc] t (0,0))):Slots W (some ⟨g,0,none⟩) 1 (fun _=>xo) (fun _=>N1) (fun _=>xc):=by
 intro i hi;refine ⟨g,0,rfl,?_⟩;obtain rfl:i=0:=by omega
 exact (cell_of_row W g 0 _ _ _ h).trans rfl

theorem Answered.after {w W:World} {o:Tr} {n E a:Nat} {dE:List Ev} {G:Nat->Prop} {w':World} {v':Value} (k:Kept af w W) (h:Answered W o n E a dE G w' v'):Answered w o n E a dE G w' v':=by
 obtain ⟨h1,h2,o',d⟩:=h;exact ⟨h1,⟨h2.1.after k,h2.2⟩,o',Did.after k d⟩

theorem Fj (o:Tr) (ao bo xo yo:Option Addr) (n l K a b N1 N2 xc yc E:Nat) (ms rs xs ys:List Nat) (w:World)
  (ht:TrRoom w o 2000) (hm:RowT w o (.slice ao n a) ms) (hr:RowT w o (.slice bo l b) rs) (hx:RowT w o (.slice xo N1 xc) xs) (hy:RowT w o (.slice yo N2 yc) ys) (A:Digs ms) (C:Digs rs) (y:Digs xs) (z:Digs ys) (hK:K<18446744073709551616) (J:n<=300)
  (hE:E=0↔okMod ms K rs/\(N1=n/\val xs<val ms)/\(N2=n/\val ys<val ms)) (D:E<=1) :
  Calls prog 126 #[aL o,.agg #[.slice ao n a,.int .u64 (K:Nat),.slice bo l b],.slice xo N1 xc,.slice yo N2 yc] w fun e w'=>∃ v',e=.returned (.tuple #[v',.int .i64 (E:Int)])/\Answered w o n E 2 (cD n) (pT n (val ms) (val xs) (val ys)) w' v':=by
 have M:=im;have he:∀ args w,(callFunc 181 args).run prog w=.ok (.enter 181 args) w:=fun _ _=>by simp [go_sem]
 obtain ⟨po,B⟩:=aK o;obtain ⟨_,_,_,e1,F,_,_,_,_⟩:=hr.1.open;cases e1
 obtain ⟨W,hW⟩:∃ W,W=(((w.alloc (.cells #[.pointer po] 53)).alloc (.cells #[.slice ao n a,.int .u64 (K:Nat),.slice bo l b] 70)).alloc (.cells #[.slice xo N1 xc] 23)).alloc (.cells #[.slice yo N2 yc] 23):=⟨_,rfl⟩
 have k0:Kept af w W:=by rw [hW];exact ((((aj af w).alloc _).alloc _).alloc _).alloc _
 have x:Box W w.heap.size (.pointer po) 53:=by rw [hW];exact (((Box.new w _ _).alloc _).alloc _).alloc _
 have g:W.heap[w.heap.size+1]? = some (.cells #[.slice ao n a,.int .u64 (K:Nat),.slice bo l b] 70 (0,0)):=by
  rw [hW];refine au (au ?_);have:=heap_alloc_new (w.alloc (.cells #[.pointer po] 53)) (.cells #[.slice ao n a,.int .u64 (K:Nat),.slice bo l b] 70)
  rwa [show (w.alloc (.cells #[.pointer po] 53)).heap.size=w.heap.size+1 by simp] at this
 have t:Box W (w.heap.size+1+1) (.slice xo N1 xc) 23:=by
  rw [hW];refine Box.alloc ?_ _;have:=Box.new ((w.alloc (.cells #[.pointer po] 53)).alloc (.cells #[.slice ao n a,.int .u64 (K:Nat),.slice bo l b] 70)) (.slice xo N1 xc) 23
  rwa [show ((w.alloc (.cells #[.pointer po] 53)).alloc (.cells #[.slice ao n a,.int .u64 (K:Nat),.slice bo l b] 70)).heap.size=w.heap.size+1+1 by simp] at this
 have v:Box W (w.heap.size+1+1+1) (.slice yo N2 yc) 23:=by
  rw [hW];have:=Box.new (((w.alloc (.cells #[.pointer po] 53)).alloc (.cells #[.slice ao n a,.int .u64 (K:Nat),.slice bo l b] 70)).alloc (.cells #[.slice xo N1 xc] 23)) (.slice yo N2 yc) 23
  rwa [show (((w.alloc (.cells #[.pointer po] 53)).alloc (.cells #[.slice ao n a,.int .u64 (K:Nat),.slice bo l b] 70)).alloc (.cells #[.slice xo N1 xc] 23)).heap.size=w.heap.size+1+1+1 by simp] at this
 obtain ⟨Wl,q⟩:∃ Wl,Wl=W.alloc (.cells #[.slice xo N1 xc,.slice yo N2 yc] 23):=⟨_,rfl⟩
 have kl:Kept af W Wl:=by rw [q];exact (aj af W).alloc _
 have r:Wl.heap[W.heap.size]? = some (.cells #[.slice xo N1 xc,.slice yo N2 yc] 23 (0,0)):=by rw [q];exact heap_alloc_new _ _
 have kk:=k0.trans kl;have c:=uG o ao bo (some ⟨W.heap.size,0,none⟩) n l K a b 2 2 181 #[.pointer (some ⟨w.heap.size,0,none⟩),.pointer (some ⟨w.heap.size+1,0,none⟩),.pointer (some ⟨w.heap.size+1+1,0,none⟩),.pointer (some ⟨w.heap.size+1+1+1,0,none⟩)]
  (fun i=>if i=0 then xo else yo) (fun i=>if i=0 then N1 else N2) (fun i=>if i=0 then xc else yc) (fun i=>if i=0 then xs else ys) ms rs E 1998 (cD n) (pT n (val ms) (val xs) (val ys)) Wl (by unfold cD;simp;omega)
  (ht.grew kk) (hm.grew kk) (hr.grew kk) A C hK (by omega) (by omega)
  (fun W' m o' d=>nN ((d.kept.block _ (lt_of_block r) (aI r (ht.grew kk).1 (by decide) (by decide))).trans r))
  (fun i hi=>by
   have j:i=0\/i=1:=by omega
   rcases j with rfl | rfl
   ·exact hx.grew kk
   ·exact hy.grew kk)
  (fun i hi=>by
   have j:i=0\/i=1:=by omega
   rcases j with rfl | rfl
   ·exact y
   ·exact z)
  he
  (fun hn W' m o' d p=>by
   have s:=(ht.grew kk).1
   refine (G6 o' ao bo xo yo n l K a b N1 N2 xc yc w.heap.size (w.heap.size+1) (w.heap.size+1+1) (w.heap.size+1+1+1) ms rs xs ys W' (p.less (by omega)) ((hm.grew kk).did d) ((hx.grew kk).did d) ((hy.grew kk).did d) A C y z F.out hK hn (by rw [d.ptr,B];exact (x.grew kl).did d s (by decide) (by decide)) ((d.kept.block _ (lt_of_block ((kl.block _ (lt_of_block g) (fun f=>f)).trans g)) (aI ((kl.block _ (lt_of_block g) (fun f=>f)).trans g) s (by decide) (by decide))).trans ((kl.block _ (lt_of_block g) (fun f=>f)).trans g)) ((t.grew kl).did d s (by decide) (by decide)) ((v.grew kl).did d s (by decide) (by decide))).mono ?_
   rintro e w' ⟨v',rfl,Y,o2,h1,h2,h3⟩;exact ⟨v',rfl,Y,o2,h1,fun L k=>h2 L (k 0 (by omega)) (k 1 (by omega)),h3⟩)
  (by
   rw [hE];refine and_congr_right fun _=>⟨fun h i hi=>?_,fun h=>⟨h 0 (by omega),h 1 (by omega)⟩⟩
   have j:i=0\/i=1:=by omega
   rcases j with rfl | rfl
   ·exact h.1
   ·exact h.2) D
 have HB:Hid (∀ w' v',Answered Wl o n E 2 (cD n) (pT n (val ms) (val xs) (val ys)) w' v'->Answered w o n E 2 (cD n) (pT n (val ms) (val xs) (val ys)) w' v'):=fun w' v' h=>h.after kk
 have H:W.heap.size=w.heap.size+1+1+1+1:=by rw [hW];simp
 rw [H] at c;have HW:=aa hW;have I:=aa q;have JM:=aw g;obtain ⟨c3,c4,c5⟩:=JM;have c0:=x.cell;have c1:=t.cell;have c2:=v.cell;rw [B] at c ⊢;clear ht hm hr hx hy A C y z hK J hE D B k0 x g t v hW q r kk kl he F H;generalize pT n (val ms) (val xs) (val ys)=G at *;go_enter func126,ntmps126;go_wp2_with fail;rw [<- HW.out,<- I.out];refine c.mono ?_;rintro e w1 ⟨v1,rfl,h1⟩;have H1:=aa (HB.out _ _ h1);clear c h1 c0 c1 c2 c3 c4 c5;go_wp2_with fail;go_ret2;exact ⟨_,rfl,H1.out⟩

def lV (n V X:Nat) (Y:Nat):Prop:=Y=2^(64*n)*X%V

theorem Ct {V n X Y:Nat} (a:V%2=1) (hY:Y<V) (h:18446744073709551616^n*Y%V=(X*(18446744073709551616^(2*n)%V))%V):lV n V X Y:=by
 unfold lV;have b:Nat.Coprime (18446744073709551616^n) V:=by rw [B64];exact (fT a).symm
 rw [<- B64,<- ax hY];apply iP b;rw [h,eh,fG,<- eh,Nat.two_mul,aN]
 congr 1
 generalize 18446744073709551616^n=p
 grind

def qW (n V X:Nat) (Y:Nat):Prop:=Y<V/\2^(64*n)*Y%V=X%V

theorem CY (o:Tr) (ao bo xo:Option Addr) (n l K c a N1 xc bT bM bA:Nat) (ms rs xs:List Nat) (w:World)
  (ht:TrRoom w o 1000) (hm:RowT w o (.slice ao n c) ms) (hx:RowT w o (.slice xo N1 xc) xs) (hy:RowT w o (.slice bo l a) rs) (i:Digs ms) (p:Digs rs) (v:Digs xs) (x:rs.length=l) (hK:K<18446744073709551616) (hn:n<=130)
  (hT:Box w bT (aL o) 53) (hM:w.heap[bM]? = some (.cells #[.slice ao n c,.int .u64 (K:Nat),.slice bo l a] 70 (0,0))) (hA:Box w bA (.slice xo N1 xc) 23) :
  Calls prog 119 #[.int .i64 (n:Int),.pointer (some ⟨bT,0,none⟩),.pointer (some ⟨bM,0,none⟩),.pointer (some ⟨bA,0,none⟩)] w fun e w'=>∃ v',e=.returned v' /\
   kI w o (cD n) n (fun Y=>okMod ms K rs->(N1=n/\val xs<val ms)->lV n (val ms) (val xs) Y) w' v':=by
 obtain ⟨_,_,_,e1,r,_,_,_,_⟩:=hm.1.open;cases e1
 obtain ⟨po,j⟩:=aK o;have f:=ht.1;have JC:Hid (∀ W m o',Did w o m W o'->W.cell? ⟨bT,0,none⟩=some (.pointer po)/\W.cell? ⟨bA,0,none⟩=some (.slice xo N1 xc)/\W.cell? ⟨bM,0,none⟩=some (.slice ao n c)/\W.cell? ⟨bM,1,none⟩=some (.int .u64 (K:Nat))/\W.cell? ⟨bM,2,none⟩=some (.slice bo l a)):=fun W m o' d=>by
  rw [<- j];exact ⟨(hT.did d f (by decide) (by decide)).cell,(hA.did d f (by decide) (by decide)).cell,aw ((d.kept.block _ (lt_of_block hM) (aI hM f (by decide) (by decide))).trans hM)⟩
 have JF:Hid (∀ W (zo:Option Addr) (z zc:Nat) (zs:List Nat),Kept af w W->RowT w o (.slice zo z zc) zs->Digs zs->Calls prog 121 #[.slice zo z zc,.int .i64 (n:Int)] W fun e w'=>∃ g,e=.returned (.slice (some ⟨g,0,none⟩) n n)/\Kept af W w'/\RowT w' o (.slice (some ⟨g,0,none⟩) n n) (digs (val zs) n)):=fun W zo z zc zs k hz y=>by
  refine (yH (.slice zo z zc) zs n W (hz.1.grew k) y (by omega)).mono ?_;rintro e w' ⟨rfl,ho,k'⟩;exact ⟨_,rfl,k',fU ho (ag _ _ _) (ht.grew (k.trans k')).1⟩
 have JX:Hid (∀ W,Kept af w W->Calls prog 121 #[.slice xo N1 xc,.int .i64 (n:Int)] W fun e w'=>∃ g,e=.returned (.slice (some ⟨g,0,none⟩) n n)/\Kept af W w'/\RowT w' o (.slice (some ⟨g,0,none⟩) n n) (digs (val xs) n)):=fun W k=>JF.out W _ _ _ _ k hx v
 have JY:Hid (∀ W,Kept af w W->Calls prog 121 #[.slice bo l a,.int .i64 (n:Int)] W fun e w'=>∃ g,e=.returned (.slice (some ⟨g,0,none⟩) n n)/\Kept af W w'/\RowT w' o (.slice (some ⟨g,0,none⟩) n n) (digs (val rs) n)):=fun W k=>JF.out W _ _ _ _ k hy p
 have JT:Hid (∀ W g h,Kept af w W->RowT W o (.slice (some ⟨g,0,none⟩) n n) (digs (val xs) n)->RowT W o (.slice (some ⟨h,0,none⟩) n n) (digs (val rs) n)->Calls prog 120 #[.pointer po,.agg #[.slice ao n c,.int .u64 (K:Nat),.slice bo l a],.slice (some ⟨g,0,none⟩) n n,.slice (some ⟨h,0,none⟩) n n] W fun e w'=>∃ v',e=.returned v'/\kI w o (cD n) n (fun Y=>okMod ms K rs->(N1=n/\val xs<val ms)->lV n (val ms) (val xs) Y) w' v'):=fun W g h k hg hh=>by
  have:=uI o n K c l a n n ao bo _ _ _ _ ms W (ht.grew k) hg hh (hm.grew k) (ak (by omega) _ _) (ak (by omega) _ _) i hn;rw [j] at this;refine this.mono ?_;rintro e w' ⟨v',rfl,hR⟩;refine ⟨v',rfl,?_⟩;obtain ⟨Y,o',h1,h2,h3⟩:=hR.done (G:=fun Y=>okMod ms K rs->(N1=n/\val xs<val ms)->lV n (val ms) (val xs) Y) (fun Y hY A h1=>by
   obtain ⟨f1,f2,f3,f4,f5,f6,f7⟩:=A.facts r.out x i p hK;have s:val rs<val ms:=by rw [f7];exact ay _ (by omega)
   rw [aB,aB,ax (bk h1.2 f6),ax (bk s f6)] at hY;have h2:=hY f1 f2 (lu h1.2 (fE (bk s f6)) (aC (by omega)));exact Ct f5 h2.1 (by rw [f7] at h2;exact h2.2))
  exact ⟨Y,o',cE h1 (fun b hb=>aR k.size (h1.lt b hb).1),h2,Did.after k h3⟩
 have h0:=Did.of_kept (aj af w) f;obtain ⟨c0,c1,c3,c4,c5⟩:=JC.out _ _ _ h0;have q:=aa f;have JD:Hid (∀ (W:World) (v':Value) (G:Nat->Prop),kI w o (cD n) n G W v'->∃ m o',Did w o m W o'):=fun W v' G h=>by
  obtain ⟨Y,o',_,_,d⟩:=h;exact ⟨_,_,d⟩
 clear ht hm hx hy i p v x hK hT hM hA j f h0 JF r;generalize (fun Y=>okMod ms K rs->(N1=n/\val xs<val ms)->lV n (val ms) (val xs) Y)=G at *;generalize val xs=X at *;generalize val rs=Z at *;go_enter func119,ntmps119;go_wp2_with fail;go_region_held3 (fun w'=>w'.cell? ⟨bT,0,none⟩=some (.pointer po)/\w'.cell? ⟨bA,0,none⟩=some (.slice xo N1 xc)/\w'.cell? ⟨bM,0,none⟩=some (.slice ao n c)/\w'.cell? ⟨bM,1,none⟩=some (.int .u64 (K:Int))/\w'.cell? ⟨bM,2,none⟩=some (.slice bo l a))
  (((try dsimp only);(repeat' apply And.intro) <;> first | (go_keep;done) | assumption))
  (first
  | (go_at_call_of 121 (Value.slice xo N1 xc);refine (JX.out _ ?_).mono ?_;(exact (aj _ _).drew);rintro e w2 ⟨g2,rfl,k2,r2⟩;obtain ⟨q0,q1,q3,q4,q5⟩:=JC.out _ _ _ (Did.of_kept ((aj _ _).drew.trans k2) q.out))
  | (go_at_call_of 121 (Value.slice bo l a);refine (JY.out _ ?_).mono ?_;(exact (aj _ _).drew.trans k2);rintro e w3 ⟨g3,rfl,k3,r3⟩;obtain ⟨s0,s1,s3,s4,s5⟩:=JC.out _ _ _ (Did.of_kept ((aj _ _).drew.trans (k2.trans k3)) q.out))
  | (go_at_call 120;refine (JT.out _ g2 g3 ?_ ?_ ?_).mono ?_;(exact (aj _ _).drew.trans (k2.trans k3));(exact r2.grew k3);(exact r3);rintro e w4 ⟨v4,rfl,t⟩;obtain ⟨m4,o4,d4⟩:=JD.out _ _ _ t;obtain ⟨t0,t1,t3,t4,t5⟩:=JC.out _ _ _ d4))
 all_goals
  go_wp2_with fail;go_ret;exact ⟨_,rfl,t⟩

theorem CZ (o:Tr) (ao bo xo:Option Addr) (n l K a b N1 xc bT bM bA:Nat) (ms rs xs:List Nat) (w:World)
  (ht:TrRoom w o 1000) (hm:RowT w o (.slice ao n a) ms) (hx:RowT w o (.slice xo N1 xc) xs) (f:Digs ms) (r:Digs rs) (q:Digs xs) (s:rs.length=l) (hK:K<18446744073709551616) (hn:n<=130)
  (hT:Box w bT (aL o) 53) (hM:w.heap[bM]? = some (.cells #[.slice ao n a,.int .u64 (K:Nat),.slice bo l b] 70 (0,0))) (hA:Box w bA (.slice xo N1 xc) 23) :
  Calls prog 122 #[.int .i64 (n:Int),.pointer (some ⟨bT,0,none⟩),.pointer (some ⟨bM,0,none⟩),.pointer (some ⟨bA,0,none⟩)] w fun e w'=>∃ v',e=.returned v' /\
   kI w o (List.replicate (n+2) (1,(n:Int),0)) n (fun Y=>okMod ms K rs->(N1=n/\val xs<val ms)->qW n (val ms) (val xs) Y) w' v':=by
 obtain ⟨_,_,_,e1,j,_,_,_,_⟩:=hm.1.open;cases e1
 obtain ⟨po,i⟩:=aK o;have c:=ht.1;obtain ⟨N,hN⟩:∃ N,N=n+n:=⟨_,rfl⟩
 have JC:Hid (∀ W m o',Did w o m W o'->W.cell? ⟨bT,0,none⟩=some (.pointer po)/\W.cell? ⟨bA,0,none⟩=some (.slice xo N1 xc)/\W.cell? ⟨bM,0,none⟩=some (.slice ao n a)/\W.cell? ⟨bM,1,none⟩=some (.int .u64 (K:Nat))/\W.cell? ⟨bM,2,none⟩=some (.slice bo l b)):=fun W m o' d=>by
  rw [<- i];exact ⟨(hT.did d c (by decide) (by decide)).cell,(hA.did d c (by decide) (by decide)).cell,aw ((d.kept.block _ (lt_of_block hM) (aI hM c (by decide) (by decide))).trans hM)⟩
 have JX:Hid (∀ W,Kept af w W->Calls prog 121 #[.slice xo N1 xc,.int .i64 (N:Int)] W fun e w'=>∃ g,e=.returned (.slice (some ⟨g,0,none⟩) N N)/\Kept af w w'/\w.heap.size<=g/\OwnN .u64 24 w' g (.slice (some ⟨g,0,none⟩) N N) N (digs (val xs) N)):=fun W k=>by
  refine (yH (.slice xo N1 xc) xs N W (hx.1.grew k) q (by omega)).mono ?_;rintro e w' ⟨rfl,ho,k'⟩;exact ⟨_,rfl,k.trans k',k.size,ho⟩
 have JT:Hid (∀ W g,Kept af w W->w.heap.size<=g->OwnN .u64 24 W g (.slice (some ⟨g,0,none⟩) N N) N (digs (val xs) N)->Calls prog 123 #[.pointer po,.agg #[.slice ao n a,.int .u64 (K:Nat),.slice bo l b],.slice (some ⟨g,0,none⟩) N N] W fun e w'=>∃ v',e=.returned v'/\kI w o (List.replicate (n+2) (1,(n:Int),0)) n (fun Y=>okMod ms K rs->(N1=n/\val xs<val ms)->qW n (val ms) (val xs) Y) w' v'):=fun W g k hg ho=>by
  have:=pu w o o [] g g N N n K a l b ao bo _ ms W (Did.of_kept k c) (ht.less (by simp;omega)) hg ho (ag _ _ _) (ak (by omega) _ _) hN (by omega) hm f;rw [i] at this;refine this.mono ?_;rintro e w' ⟨v',rfl,hR⟩;refine ⟨v',rfl,?_⟩;have:=hR.done (G:=fun Y=>okMod ms K rs->(N1=n/\val xs<val ms)->qW n (val ms) (val xs) Y) (fun Y hY y h1=>by
   obtain ⟨f1,f2,f3,f4,f5,f6,f7⟩:=y.facts j.out s f r hK;have hp:18446744073709551616^n<=18446744073709551616^N:=aY (by omega) (by omega);rw [aB,ax (bd (bk h1.2 f6) hp)] at hY;have:=hY f1 f2 (bd h1.2 (Nat.le_mul_of_pos_right _ (aC (by omega))));rw [B64] at this;exact this)
  exact this
 have h0:=Did.of_kept (aj af w) c;obtain ⟨c0,c1,c3,c4,c5⟩:=JC.out _ _ _ h0;have t:=aa c;have JD:Hid (∀ (W:World) (v':Value) (G:Nat->Prop),kI w o (List.replicate (n+2) (1,(n:Int),0)) n G W v'->∃ m o',Did w o m W o'):=fun W v' G h=>by
  obtain ⟨Y,o',_,_,d⟩:=h;exact ⟨_,_,d⟩
 have g2:IntKind.i64.wrap (2*(n:Int))=(N:Int):=by rw [IntKind.wrap_i64];omega
 clear ht hm hx f r q s hK hT hM hA i c h0 j hN;generalize (fun Y=>okMod ms K rs->(N1=n/\val xs<val ms)->qW n (val ms) (val xs) Y)=G at *;generalize val xs=X at *;go_enter func122,ntmps122;go_wp2_with fail;go_region_held3 (fun w'=>w'.cell? ⟨bT,0,none⟩=some (.pointer po)/\w'.cell? ⟨bA,0,none⟩=some (.slice xo N1 xc)/\w'.cell? ⟨bM,0,none⟩=some (.slice ao n a)/\w'.cell? ⟨bM,1,none⟩=some (.int .u64 (K:Int))/\w'.cell? ⟨bM,2,none⟩=some (.slice bo l b))
  (((try dsimp only);(repeat' apply And.intro) <;> first | (go_keep;done) | assumption))
  (first
  | (go_at_call 121;refine (JX.out _ ?_).mono ?_;(exact (aj _ _).drew);rintro e w2 ⟨v,rfl,k2,x,r2⟩;obtain ⟨q0,q1,q3,q4,q5⟩:=JC.out _ _ _ (Did.of_kept k2 t.out))
  | (go_at_call 123;refine (JT.out _ v k2 x r2).mono ?_;rintro e w4 ⟨v4,rfl,p⟩;obtain ⟨m4,o4,d4⟩:=JD.out _ _ _ p;obtain ⟨t0,t1,t3,t4,t5⟩:=JC.out _ _ _ d4))
 all_goals
  go_wp2_with fail;go_ret;exact ⟨_,rfl,p⟩

theorem pt (o:Tr) (ao bo xo:Option Addr) (n l K a b N1 xc E:Nat) (ms rs xs:List Nat) (w:World)
  (ht:TrRoom w o 2000) (hm:RowT w o (.slice ao n a) ms) (hr:RowT w o (.slice bo l b) rs) (hx:RowT w o (.slice xo N1 xc) xs) (v:Digs ms) (y:Digs rs) (t:Digs xs) (hK:K<18446744073709551616) (F:n<=300)
  (hE:E=0↔okMod ms K rs/\(N1=n/\val xs<val ms)) (A:E<=1) :
  Calls prog 65 #[aL o,.agg #[.slice ao n a,.int .u64 (K:Nat),.slice bo l b],.slice xo N1 xc] w fun e w'=>∃ v',e=.returned (.tuple #[v',.int .i64 (E:Int)])/\Answered w o n E 1 (cD n) (lV n (val ms) (val xs)) w' v':=by
 have I:=im;have he:∀ args w,(callFunc 119 args).run prog w=.ok (.enter 119 args) w:=fun _ _=>by simp [go_sem]
 obtain ⟨po,x⟩:=aK o;obtain ⟨_,_,_,e1,B,_,_,_,_⟩:=hr.1.open;cases e1
 obtain ⟨W,hW⟩:∃ W,W=((w.alloc (.cells #[.pointer po] 53)).alloc (.cells #[.slice ao n a,.int .u64 (K:Nat),.slice bo l b] 70)).alloc (.cells #[.slice xo N1 xc] 23):=⟨_,rfl⟩
 have k0:Kept af w W:=by rw [hW];exact (((aj af w).alloc _).alloc _).alloc _
 have r:Box W w.heap.size (.pointer po) 53:=by rw [hW];exact ((Box.new w _ _).alloc _).alloc _
 have g:W.heap[w.heap.size+1]? = some (.cells #[.slice ao n a,.int .u64 (K:Nat),.slice bo l b] 70 (0,0)):=by
  rw [hW];refine au ?_;have:=heap_alloc_new (w.alloc (.cells #[.pointer po] 53)) (.cells #[.slice ao n a,.int .u64 (K:Nat),.slice bo l b] 70)
  rwa [show (w.alloc (.cells #[.pointer po] 53)).heap.size=w.heap.size+1 by simp] at this
 have q:Box W (w.heap.size+1+1) (.slice xo N1 xc) 23:=by
  rw [hW];have:=Box.new ((w.alloc (.cells #[.pointer po] 53)).alloc (.cells #[.slice ao n a,.int .u64 (K:Nat),.slice bo l b] 70)) (.slice xo N1 xc) 23
  rwa [show ((w.alloc (.cells #[.pointer po] 53)).alloc (.cells #[.slice ao n a,.int .u64 (K:Nat),.slice bo l b] 70)).heap.size=w.heap.size+1+1 by simp] at this
 obtain ⟨Wl,k⟩:∃ Wl,Wl=W.alloc (.cells #[.slice xo N1 xc] 23):=⟨_,rfl⟩
 have kl:Kept af W Wl:=by rw [k];exact (aj af W).alloc _
 have p:Wl.heap[W.heap.size]? = some (.cells #[.slice xo N1 xc] 23 (0,0)):=by rw [k];exact heap_alloc_new _ _
 have kk:=k0.trans kl;have c:=uG o ao bo (some ⟨W.heap.size,0,none⟩) n l K a b 1 1 119 #[.pointer (some ⟨w.heap.size,0,none⟩),.pointer (some ⟨w.heap.size+1,0,none⟩),.pointer (some ⟨w.heap.size+1+1,0,none⟩)]
  (fun _=>xo) (fun _=>N1) (fun _=>xc) (fun _=>xs) ms rs E 1999 (cD n) (lV n (val ms) (val xs)) Wl (by unfold cD;simp;omega)
  (ht.grew kk) (hm.grew kk) (hr.grew kk) v y hK (by omega) (by omega)
  (fun W' m o' d=>pC ((d.kept.block _ (lt_of_block p) (aI p (ht.grew kk).1 (by decide) (by decide))).trans p))
  (fun i hi=>hx.grew kk)
  (fun i hi=>t)
  he
  (fun hn W' m o' d j=>by
   have z:=(ht.grew kk).1;refine (CY o' ao bo xo n l K a b N1 xc w.heap.size (w.heap.size+1) (w.heap.size+1+1) ms rs xs W' (j.less (by omega)) ((hm.grew kk).did d) ((hx.grew kk).did d) ((hr.grew kk).did d) v y t B.out hK hn (by rw [d.ptr,x];exact (r.grew kl).did d z (by decide) (by decide)) ((d.kept.block _ (lt_of_block ((kl.block _ (lt_of_block g) (fun f=>f)).trans g)) (aI ((kl.block _ (lt_of_block g) (fun f=>f)).trans g) z (by decide) (by decide))).trans ((kl.block _ (lt_of_block g) (fun f=>f)).trans g)) ((q.grew kl).did d z (by decide) (by decide))).mono ?_;rintro e w' ⟨v',rfl,Y,o2,h1,h2,h3⟩
   exact ⟨v',rfl,Y,o2,h1,fun H s=>h2 H (s 0 (by omega)),h3⟩)
  (by
   rw [hE];exact and_congr_right fun _=>⟨fun h i hi=>h,fun h=>h 0 (by omega)⟩) A
 have HB:Hid (∀ w' v',Answered Wl o n E 1 (cD n) (lV n (val ms) (val xs)) w' v'->Answered w o n E 1 (cD n) (lV n (val ms) (val xs)) w' v'):=fun w' v' h=>h.after kk
 have C:W.heap.size=w.heap.size+1+1+1:=by rw [hW];simp
 rw [C] at c;have HW:=aa hW;have D:=aa k;have JM:=aw g;obtain ⟨c3,c4,c5⟩:=JM;have c0:=r.cell;have c1:=q.cell;rw [x] at c ⊢;clear ht hm hr hx v y t hK F hE A x k0 r g q hW k p kk kl he B C;generalize lV n (val ms) (val xs)=G at *;go_enter func65,ntmps65;go_wp2_with fail;rw [<- HW.out,<- D.out];refine c.mono ?_;rintro e w1 ⟨v1,rfl,h1⟩;have H1:=aa (HB.out _ _ h1);clear c h1 c0 c1 c3 c4 c5;go_wp2_with fail;go_ret2;exact ⟨_,rfl,H1.out⟩

theorem AD (o:Tr) (ao bo xo:Option Addr) (n l K a b N1 xc E:Nat) (ms rs xs:List Nat) (w:World)
  (ht:TrRoom w o 2000) (hm:RowT w o (.slice ao n a) ms) (hr:RowT w o (.slice bo l b) rs) (hx:RowT w o (.slice xo N1 xc) xs) (v:Digs ms) (y:Digs rs) (t:Digs xs) (hK:K<18446744073709551616) (F:n<=300)
  (hE:E=0↔okMod ms K rs/\(N1=n/\val xs<val ms)) (A:E<=1) :
  Calls prog 66 #[aL o,.agg #[.slice ao n a,.int .u64 (K:Nat),.slice bo l b],.slice xo N1 xc] w fun e w'=>∃ v',e=.returned (.tuple #[v',.int .i64 (E:Int)])/\Answered w o n E 1 (List.replicate (n+2) (1,(n:Int),0)) (qW n (val ms) (val xs)) w' v':=by
 have I:=im;have he:∀ args w,(callFunc 122 args).run prog w=.ok (.enter 122 args) w:=fun _ _=>by simp [go_sem]
 obtain ⟨po,x⟩:=aK o;obtain ⟨_,_,_,e1,B,_,_,_,_⟩:=hr.1.open;cases e1
 obtain ⟨W,hW⟩:∃ W,W=((w.alloc (.cells #[.pointer po] 53)).alloc (.cells #[.slice ao n a,.int .u64 (K:Nat),.slice bo l b] 70)).alloc (.cells #[.slice xo N1 xc] 23):=⟨_,rfl⟩
 have k0:Kept af w W:=by rw [hW];exact (((aj af w).alloc _).alloc _).alloc _
 have r:Box W w.heap.size (.pointer po) 53:=by rw [hW];exact ((Box.new w _ _).alloc _).alloc _
 have g:W.heap[w.heap.size+1]? = some (.cells #[.slice ao n a,.int .u64 (K:Nat),.slice bo l b] 70 (0,0)):=by
  rw [hW];refine au ?_;have:=heap_alloc_new (w.alloc (.cells #[.pointer po] 53)) (.cells #[.slice ao n a,.int .u64 (K:Nat),.slice bo l b] 70)
  rwa [show (w.alloc (.cells #[.pointer po] 53)).heap.size=w.heap.size+1 by simp] at this
 have q:Box W (w.heap.size+1+1) (.slice xo N1 xc) 23:=by
  rw [hW];have:=Box.new ((w.alloc (.cells #[.pointer po] 53)).alloc (.cells #[.slice ao n a,.int .u64 (K:Nat),.slice bo l b] 70)) (.slice xo N1 xc) 23
  rwa [show ((w.alloc (.cells #[.pointer po] 53)).alloc (.cells #[.slice ao n a,.int .u64 (K:Nat),.slice bo l b] 70)).heap.size=w.heap.size+1+1 by simp] at this
 obtain ⟨Wl,k⟩:∃ Wl,Wl=W.alloc (.cells #[.slice xo N1 xc] 23):=⟨_,rfl⟩
 have kl:Kept af W Wl:=by rw [k];exact (aj af W).alloc _
 have p:Wl.heap[W.heap.size]? = some (.cells #[.slice xo N1 xc] 23 (0,0)):=by rw [k];exact heap_alloc_new _ _
 have kk:=k0.trans kl;have c:=uG o ao bo (some ⟨W.heap.size,0,none⟩) n l K a b 1 1 122 #[.pointer (some ⟨w.heap.size,0,none⟩),.pointer (some ⟨w.heap.size+1,0,none⟩),.pointer (some ⟨w.heap.size+1+1,0,none⟩)]
  (fun _=>xo) (fun _=>N1) (fun _=>xc) (fun _=>xs) ms rs E 1999 (List.replicate (n+2) (1,(n:Int),0)) (qW n (val ms) (val xs)) Wl (by simp;omega)
  (ht.grew kk) (hm.grew kk) (hr.grew kk) v y hK (by omega) (by omega)
  (fun W' m o' d=>pC ((d.kept.block _ (lt_of_block p) (aI p (ht.grew kk).1 (by decide) (by decide))).trans p))
  (fun i hi=>hx.grew kk)
  (fun i hi=>t)
  he
  (fun hn W' m o' d j=>by
   have z:=(ht.grew kk).1;refine (CZ o' ao bo xo n l K a b N1 xc w.heap.size (w.heap.size+1) (w.heap.size+1+1) ms rs xs W' (j.less (by omega)) ((hm.grew kk).did d) ((hx.grew kk).did d) v y t B.out hK hn (by rw [d.ptr,x];exact (r.grew kl).did d z (by decide) (by decide)) ((d.kept.block _ (lt_of_block ((kl.block _ (lt_of_block g) (fun f=>f)).trans g)) (aI ((kl.block _ (lt_of_block g) (fun f=>f)).trans g) z (by decide) (by decide))).trans ((kl.block _ (lt_of_block g) (fun f=>f)).trans g)) ((q.grew kl).did d z (by decide) (by decide))).mono ?_;rintro e w' ⟨v',rfl,Y,o2,h1,h2,h3⟩
   exact ⟨v',rfl,Y,o2,h1,fun H s=>h2 H (s 0 (by omega)),h3⟩)
  (by
   rw [hE];exact and_congr_right fun _=>⟨fun h i hi=>h,fun h=>h 0 (by omega)⟩) A
 have HB:Hid (∀ w' v',Answered Wl o n E 1 (List.replicate (n+2) (1,(n:Int),0)) (qW n (val ms) (val xs)) w' v'->Answered w o n E 1 (List.replicate (n+2) (1,(n:Int),0)) (qW n (val ms) (val xs)) w' v'):=fun w' v' h=>h.after kk
 have C:W.heap.size=w.heap.size+1+1+1:=by rw [hW];simp
 rw [C] at c;have HW:=aa hW;have D:=aa k;have JM:=aw g;obtain ⟨c3,c4,c5⟩:=JM;have c0:=r.cell;have c1:=q.cell;rw [x] at c ⊢;clear ht hm hr hx v y t hK F hE A x k0 r g q hW k p kk kl he B C;generalize qW n (val ms) (val xs)=G at *;go_enter func66,ntmps66;go_wp2_with fail;rw [<- HW.out,<- D.out];refine c.mono ?_;rintro e w1 ⟨v1,rfl,h1⟩;have H1:=aa (HB.out _ _ h1);clear c h1 c0 c1 c3 c4 c5;go_wp2_with fail;go_ret2;exact ⟨_,rfl,H1.out⟩

theorem Iy (ao bo:Option Addr) (n l K b a:Nat) (ms rs RL:List Nat) (w:World) (hm:Row .u64 w (.slice ao n b) ms) (hr:Row .u64 w (.slice bo l a) rs) (h:Digs ms) (i:Digs rs) (hK:K<18446744073709551616) (x:n<=300)
  (d:okMod ms K rs->RL=digs (2^(64*n)%val ms) n) (c:¬ okMod ms K rs->RL=[]) :
  Calls prog 124 #[.agg #[.slice ao n b,.int .u64 (K:Nat),.slice bo l a]] w fun e w'=>∃ v',e=.returned v'/\Row .u64 w' v' RL/\Kept af w w':=by
 obtain ⟨_,_,_,e1,m,_,_,_,_⟩:=hm.open;cases e1
 obtain ⟨_,_,_,e1,o,_,_,_,_⟩:=hr.open;cases e1
 obtain ⟨W,hW⟩:∃ W,W=w.alloc (.cells #[.slice ao n b,.int .u64 (K:Nat),.slice bo l a] 70):=⟨_,rfl⟩
 have k0:Kept af w W:=by rw [hW];exact (aj af w).alloc _
 have j:W.heap[w.heap.size]? = some (.cells #[.slice ao n b,.int .u64 (K:Nat),.slice bo l a] 70 (0,0)):=by rw [hW];exact heap_alloc_new _ _
 obtain ⟨p0,p1,p2⟩:=aw j;have HW:=aa hW;have p:=aa k0;by_cases hok:okMod ms K rs
 ·obtain ⟨f1,f2,f3,f4,f5,f6,f7⟩:=hok.facts m.out o.out h i hK;obtain ⟨N,hN⟩:∃ N,N=n+n:=⟨_,rfl⟩
  have hC:=nE ao bo n l K b a ms rs true (by simp [hok]) W (hm.grew k0) (hr.grew k0) h i hK (by omega);have JX:Hid (∀ W',Kept af W W'->Calls prog 121 #[.slice bo l a,.int .i64 (N:Int)] W' fun e w'=>∃ g,e=.returned (.slice (some ⟨g,0,none⟩) N N)/\Kept af W w'/\W.heap.size<=g/\OwnN .u64 24 w' g (.slice (some ⟨g,0,none⟩) N N) N (digs (val rs) N)):=fun W' k=>by
   refine (yH (.slice bo l a) rs N W' (hr.grew (k0.trans k)) i (by omega)).mono ?_;rintro e w' ⟨rfl,ho,k'⟩;exact ⟨_,rfl,k.trans k',k.size,ho⟩
  have JT:Hid (∀ W' g,Kept af W W'->W.heap.size<=g->OwnN .u64 24 W' g (.slice (some ⟨g,0,none⟩) N N) N (digs (val rs) N)->Calls prog 123 #[.pointer none,.agg #[.slice ao n b,.int .u64 (K:Nat),.slice bo l a],.slice (some ⟨g,0,none⟩) N N] W' fun e w'=>∃ v',e=.returned v'/\Row .u64 w' v' RL/\Kept af W w'):=fun W' g k hg ho=>by
   have:=pu W none none [] g g N N n K b l a ao bo _ ms W' (Did.of_kept k trivial) (TrRoom.none _ _ (by simp;omega)) hg ho (ag _ _ _) (ak (by omega) _ _) hN (by omega) (RowT.none (hm.grew k0)) h;refine this.mono ?_;rintro e w' ⟨v',rfl,Y,o',h1,h2,h3⟩;refine ⟨v',rfl,?_,h3.none.2⟩;have hp:18446744073709551616^n<=18446744073709551616^N:=aY (by omega) (by omega);have q:val rs<val ms:=by rw [f7];exact ay _ (by omega)
   rw [aB,ax (bd (bk q f6) hp)] at h2;obtain ⟨y1,y2⟩:=h2 f1 f2 (bd q (Nat.le_mul_of_pos_right _ (aC (by omega))));rw [d hok];have s:Nat.Coprime (18446744073709551616^n) (val ms):=by rw [B64];exact (fT f5).symm
   have hY:Y=2^(64*n)%val ms:=by
    rw [<- B64,<- ax y1];apply iP s;rw [y2,f7,fG,Nat.two_mul,aN]
   rw [<- hY];exact cW h1 (ag _ _ _)
  have JC:Hid (∀ W',Kept af W W'->W'.cell? ⟨w.heap.size,0,none⟩=some (.slice ao n b)/\W'.cell? ⟨w.heap.size,1,none⟩=some (.int .u64 (K:Nat))/\W'.cell? ⟨w.heap.size,2,none⟩=some (.slice bo l a)):=fun W' k=>aw ((k.block _ (lt_of_block j) (fun f=>f)).trans j)
  have g2:IntKind.i64.wrap (2*(n:Int))=(N:Int):=by rw [IntKind.wrap_i64];omega
  clear hm hr h i hK d c hok m o hW k0 j f1 f2 f3 f4 f5 f6 f7 hN;go_enter func124,ntmps124;go_wp2_with (rw [<- HW.out]);refine hC.mono ?_;rintro e w1 ⟨rfl,k1⟩;obtain ⟨q0,q1,q2⟩:=JC.out _ k1;have kd:Kept af W w1.drew:=k1.drew;clear hC p0 p1 p2;go_wp2_with fail;go_region_held3 (fun w'=>w'.cell? ⟨w.heap.size,0,none⟩=some (.slice ao n b)/\w'.cell? ⟨w.heap.size,1,none⟩=some (.int .u64 (K:Int))/\w'.cell? ⟨w.heap.size,2,none⟩=some (.slice bo l a))
   (((try dsimp only);(repeat' apply And.intro) <;> first | (go_keep;done) | assumption))
   (first
   | (go_at_call 121;refine (JX.out _ kd).mono ?_;rintro e w2 ⟨g',rfl,k2,t,r2⟩;obtain ⟨s0,s1,s2⟩:=JC.out _ k2)
   | (go_at_call 123;refine (JT.out _ g' k2 t r2).mono ?_;rintro e w4 ⟨v4,rfl,v,k4⟩;obtain ⟨t0,t1,t2⟩:=JC.out _ k4))
  all_goals
   go_wp2_with fail;go_ret;exact ⟨_,rfl,v,p.out.trans k4⟩
 ·have hC:=nE ao bo n l K b a ms rs false (by simp [hok]) W (hm.grew k0) (hr.grew k0) h i hK (by omega);have r:=aa (c hok);clear hm hr h i hK d c m o hW k0 j;go_enter func124,ntmps124;go_wp2_with (rw [<- HW.out]);refine hC.mono ?_;rintro e w1 ⟨rfl,k1⟩;go_wp2_with fail;go_ret;exact ⟨_,rfl,by rw [r.out];exact Row.nil _ _,p.out.trans k1⟩

end Go.Proofs.YtkaojflnghfmcaaGreatDoor
