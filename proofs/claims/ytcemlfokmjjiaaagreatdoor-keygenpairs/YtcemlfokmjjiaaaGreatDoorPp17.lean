/- Put together of: Mon5. -/
import Derived.Test.YtcemlfokmjjiaaaGreatDoorPp16

namespace Go.Proofs.YtcemlfokmjjiaaaGreatDoor
set_option maxRecDepth 100000
set_option maxHeartbeats 4000000
open Go.RowKit

def fd (cnt n V:Nat) (N:Nat→Nat) (xss:Nat→List Nat):Prop:=∀ i,i<cnt→N i=n∧val (xss i)<V

def inN (cnt n V:Nat) (N:Nat→Nat) (xss:Nat→List Nat):Nat→Nat
 | 0=>1
 | k+1=>if inN cnt n V N xss k=1∧(N k=n∧val (xss k)<V) then 1 else 0

theorem oQ (b n V:Nat) (N:Nat→Nat) (a:Nat→List Nat):∀ k,inN b n V N a k≤1
 | 0=>by simp [inN]
 | k+1=>by unfold inN;split <;> omega

theorem lQ (b n V:Nat) (N:Nat→Nat) (a:Nat→List Nat):∀ k,inN b n V N a k=1↔fd k n V N a
 | 0=>by simp [inN,fd]
 | k+1=>by
  have ih:=lQ b n V N a k;unfold inN;constructor
  ·intro h
   split at h
   ·rename_i h1
    intro i hi;rcases Nat.lt_or_ge i k with h2 | h2
    ·exact ih.1 h1.1 i h2
    ·obtain rfl:i=k:=by omega
     exact h1.2
   ·omega
  ·intro h;rw [if_pos ⟨ih.2 (fun i hi=>h i (by omega)),h k (by omega)⟩]

theorem nK (b n V:Nat) (N:Nat→Nat) (a:Nat→List Nat) (k:Nat):bits .and .u64 ((inN b n V N a k:Nat):Int) ((lw (N k) n (val (a k)) V:Nat):Int)=((inN b n V N a (k+1):Nat):Int):=by
 have h:=oQ b n V N a k;have h1:inN b n V N a (k+1)=if inN b n V N a k=1∧(N k=n∧val (a k)<V) then 1 else 0:=rfl
 rw [h1];unfold lw;generalize inN b n V N a k=m at *;have c:m=0∨m=1:=by omega
 by_cases h2:N k=n∧val (a k)<V
 ·rcases c with rfl | rfl
  ·rw [if_pos h2,if_neg (by omega)]
   decide
  ·rw [if_pos h2,if_pos ⟨rfl,h2⟩]
   decide
 ·rcases c with rfl | rfl
  ·rw [if_neg h2,if_neg (by omega)]
   decide
  ·rw [if_neg h2,if_neg (fun h=>h2 h.2)]
   decide

def gW (W:World) (o:Tr) (m:List Ev) (n:Nat) (G:Nat→Prop) (w':World) (v':Value):Prop:=
 ∃ (Y:Nat) (o':Tr),OwnN .u64 23 w' W.heap.size v' n (ag Y n)∧G Y∧Did W o m w' o'

theorem uZ (o:Tr) (ao bo lo:Option Addr) (n l K g j a L f:Nat) (p:Array Value) (A:Nat→Option Addr) (N C:Nat→Nat) (c:Nat→List Nat) (ms rs:List Nat) (bM bL bT bF bO E rm:Nat) (dE:List Ev) (G:Nat→Prop) (w:World)
  (ht:TrRoom w o (a+rm)) (hm:RowT w o (.slice ao n g) ms) (hr:RowT w o (.slice bo l j) rs) (F:Digs ms) (I:Digs rs) (hK:K<18446744073709551616) (ak:n≤1000000) (Z:a≤1000)
  (hs:∀ W m o',Did w o m W o'→Slots W lo a A N C) (r:∀ i,i<a→RowT w o (.slice (A i) (N i) (C i)) (c i)) (s:∀ i,i<a→Digs (c i))
  (hM:w.heap[bM]? = some (.cells #[.slice ao n g,.int .u64 (K:Nat),.slice bo l j] 130 (0,0))) (hL:Box w bL (.slice lo a L) 86) (hT:Box w bT (aD o) 127) (hF:Box w bF (.func (.func f) #[] p) 221) (hO:Box w bO (.slice none 0 0) 32)
  (hf:∀ args w,(callFunc f args).run Tryz.prog w=.ok (.enter f args) w)
  (H:n≤130→∀ W m o',Did w o m W o'→TrRoom W o' rm→Calls Tryz.prog f (#[.int .i64 (n:Int)] ++ p) W fun e w'=>∃ v',e=.returned v'∧gW W o' dE n (fun Y=>okMod ms K rs→fd a n (val ms) N c→G Y) w' v')
  (hE:E=0↔okMod ms K rs∧fd a n (val ms) N c) :
  Calls Tryz.prog 242 #[.pointer (some ⟨bM,0,none⟩),.pointer (some ⟨bL,0,none⟩),.pointer (some ⟨bT,0,none⟩),.pointer (some ⟨bF,0,none⟩),.pointer (some ⟨bO,0,none⟩)] w fun e w'=>
   (n≤130∧∃ (Y:Nat) (v':Value) (w1:World) (o1:Tr),Row .u64 w1 v' (ag Y n)∧(Fresh w v'∧U64s w1 v')∧(E=0→G Y)∧Did w o (List.replicate a (1,(n:Int),0) ++ dE) w1 o1 ∧
    ((E=0∧e=.returned (.tuple #[])∧w'=w1.setCell ⟨bO,0,none⟩ v')∨(E≠0∧e=.panicked [refusal 1]∧w'=w1))) ∨
   (130<n∧E≠0∧e=.panicked [refusal 1]∧w'=w):=by
 obtain ⟨_,_,_,e1,P,_,_,_,_⟩:=hm.1.open;cases e1
 obtain ⟨tp,J⟩:∃ tp,tp=aD o:=⟨_,rfl⟩
 obtain ⟨V,hV⟩:∃ V,V=val ms:=⟨_,rfl⟩
 rw [← hV] at hE H;have q:=ht.1;have JM:Hid (∀ W m o',Did w o m W o'→W.cell? ⟨bM,0,none⟩=some (.slice ao n g)∧W.cell? ⟨bM,1,none⟩=some (.int .u64 (K:Nat))∧W.cell? ⟨bM,2,none⟩=some (.slice bo l j)):=fun W m o' d=>ay ((d.kept.block _ (lt_of_block hM) (ax hM q (by decide) (by decide))).trans hM)
 have JT:Hid (∀ W m o',Did w o m W o'→W.cell? ⟨bT,0,none⟩=some tp):=fun W m o' d=>by rw [J];exact (hT.did d q (by decide) (by decide)).cell
 have JF:Hid (∀ W m o',Did w o m W o'→W.cell? ⟨bF,0,none⟩=some (.func (.func f) #[] p)):=fun W m o' d=>(hF.did d q (by decide) (by decide)).cell
 have JO:Hid (∀ W m o',Did w o m W o'→W.cell? ⟨bO,0,none⟩=some (.slice none 0 0)∧W.frozen? ⟨bO,0,none⟩=false):=fun W m o' d=>⟨(hO.did d q (by decide) (by decide)).cell,(hO.did d q (by decide) (by decide)).free⟩
 have h0:=Did.of_kept (ah ae w) q;obtain ⟨p0,p1,p2⟩:=JM.out _ _ _ h0;have pL:=hL.cell;have O:=eh 1 w;have z:=dh 1 w;by_cases hn:n≤130
 ·have g1:¬ (n:Int) > 130:=by omega
  have JB:Hid (∀ W m o' i,Did w o m W o'→TrRoom W o' 1→i<a→Calls Tryz.prog 243 #[tp,.agg #[.slice ao n g,.int .u64 (K:Nat),.slice bo l j],.slice (A i) (N i) (C i)] W fun e w'=>e=.returned (.int .u64 ((lw (N i) n (val (c i)) V:Nat):Int))∧∃ o2,Did W o' [(1,(n:Int),0)] w' o2):=fun W m o' i d hr hi=>by
   have:=yg o' ao bo (A i) n (N i) g l j (C i) K ms (c i) W hr (hm.did d) ((r i hi).did d) F (s i hi) (by omega) _ rfl;rw [d.ptr,← J,← hV] at this;exact this
  have JD:Hid (∀ W m o',Did w o m W o'→TrRoom W o' rm→Calls Tryz.prog f (#[.int .i64 (n:Int)] ++ p) W fun e w'=>∃ v',e=.returned v'∧gW W o' dE n (fun Y=>okMod ms K rs→fd a n V N c→G Y) w' v'):=H hn;have JK:Hid (∀ W m o' (R:Bool),Did w o m W o'→(R=true↔okMod ms K rs)→Calls Tryz.prog 146 #[.agg #[.slice ao n g,.int .u64 (K:Nat),.slice bo l j]] W fun e w'=>e=.returned (.bool R)∧Kept ae W w'):=fun W m o' R d hR=>iP ao bo n l K g j ms rs R hR W (hm.did d).1 (hr.did d).1 F I hK (by omega)
  have JS:=aa hs;have HT:=aa ht;have HE:=aa hE;have H0:=aa h0;clear hm hr F I hK hs r s hM hL hT hF hO H hE q J hV ht h0 z P;go_enter Tryz.func242,Tryz.ntmps242;go_wp2_with fail;refine O.mono ?_;rintro e w1 ⟨rfl,rfl⟩;clear O;go_wp2_with fail;go_loopw [6,18] (fun mv i wr=>∃ (k:Nat) (o1:Tr),k≤a∧i=.int .i64 (k:Int)∧mv=.int .u64 ((inN a n V N c k:Nat):Int)∧Hid (Did w1 o (List.replicate k (1,(n:Int),0)) wr o1)) (fun _ i _=>a-(intOf i).toNat)
  case atStart=>exact ⟨0,o,Nat.zero_le _,rfl,rfl,H0.out⟩
  case round=>
   obtain ⟨k,o1,hk,rfl,rfl,HD⟩:=hrel;by_cases hkc:k<a
   ·have aj:(0:Int)≤(k:Int):=Int.natCast_nonneg _;have gk:(k:Int)<(a:Int):=by omega
    obtain ⟨q0,q1,q2⟩:=JM.out _ _ _ HD.out;have qT:=JT.out _ _ _ HD.out;obtain ⟨b2,X,rfl,T⟩:=JS.out _ _ _ HD.out k hkc;have b:TrRoom wr o1 1:=HD.out.room (by rw [List.length_replicate];exact HT.out.less (by omega));have hB:=JB.out wr _ o1 k HD.out b hkc;have U:=nK a n V N c k;have ac:=aa HD;clear HD b;generalize lw (N k) n (val (c k)) V=mm at *;generalize hm2:inN a n V N c (k+1)=m2 at *;have ab:=aa hm2;clear hm2;generalize inN a n V N c k=m1 at *;go_wp2_with fail;refine hB.mono ?_;rintro e w2 ⟨rfl,o2,d2⟩;have ai:=aa (ac.out.out.trans d2);clear hB d2 q0 q1 q2 qT T;go_wp2_with fail;go_roundw
    case rel=>exact ⟨k+1,o2,by omega,by go_num,by rw [ab.out],by unfold Hid;rw [List.replicate_succ'];exact ai.out⟩
    case measure=>simp [intOf];omega
   ·have gk:¬ (k:Int)<(a:Int):=by omega
    obtain rfl:k=a:=by omega
    have qF:=JF.out _ _ _ HD.out;have b:TrRoom wr o1 rm:=HD.out.room (by rw [List.length_replicate];exact HT.out);have hD:=JD.out wr _ o1 HD.out b;have HI:=aa (lQ k n V N c k);have ad:=aa (oQ k n V N c k);generalize inN k n V N c k=mem at *;go_wp2_with fail;refine hD.mono ?_;rintro e w3 ⟨v3,rfl,Y,o3,D,hG,d3⟩;have D3:=aa (HD.out.trans d3);obtain ⟨Q,S,rfl⟩:=aV D;have M:=aa (aS D (af _ _ _));have v:Hid (Fresh w1 (.slice Q n S)∧U64s w3 (.slice Q n S)):=⟨Fresh.own D HD.out.size,U64s.own D⟩
    have HG:=aa hG;obtain ⟨q0,q1,q2⟩:=JM.out _ _ _ D3.out;clear hD d3 D hG qF b;by_cases hok:okMod ms K rs
    ·by_cases hall:fd k n V N c
     ·have t:mem=1:=HI.out.2 hall;subst t;go_wp2_with fail;refine (JK.out w3 _ o3 true D3.out (by simp [hok])).mono ?_;rintro e w4 ⟨rfl,k4⟩;have x:=aa (D3.out.grew k4);have y:=aa (M.out.grew k4);have B:=aa (⟨v.out.1,v.out.2.grew k4⟩:_∧_);obtain ⟨x0,x1⟩:=JO.out _ _ _ x.out;clear k4;go_wp2_with fail;refine (eh 1 _).mono ?_;rintro e w5 ⟨rfl,rfl⟩;go_wp2_with fail;go_end0
      exact .inl ⟨hn,Y,_,w5,o3,y.out,B.out,fun _=>HG.out hok hall,x.out,.inl ⟨HE.out.2 ⟨hok,hall⟩,rfl,rfl⟩⟩
     ·have t:mem=0:=by
       have h1:mem≠1:=fun h=>hall (HI.out.1 h)
       have h2:=ad.out;omega
      subst t;go_wp2_with fail;refine (JK.out w3 _ o3 true D3.out (by simp [hok])).mono ?_;rintro e w4 ⟨rfl,k4⟩;have x:=aa (D3.out.grew k4);have y:=aa (M.out.grew k4);have B:=aa (⟨v.out.1,v.out.2.grew k4⟩:_∧_);clear k4;go_wp2_with fail;refine (dh 1 _).mono ?_;rintro e w5 ⟨rfl,rfl⟩;exact ⟨rfl,.inl ⟨hn,Y,_,_,o3,y.out,B.out,fun h=>absurd (HE.out.1 h).2 hall,x.out,.inr ⟨fun h=>hall (HE.out.1 h).2,rfl,rfl⟩⟩⟩
    ·go_wp2_with fail;refine (JK.out w3 _ o3 false D3.out (by simp [hok])).mono ?_;rintro e w4 ⟨rfl,k4⟩;have x:=aa (D3.out.grew k4);have y:=aa (M.out.grew k4);have B:=aa (⟨v.out.1,v.out.2.grew k4⟩:_∧_);clear k4;go_wp2_with fail;refine (dh 1 _).mono ?_;rintro e w5 ⟨rfl,rfl⟩;exact ⟨rfl,.inl ⟨hn,Y,_,_,o3,y.out,B.out,fun h=>absurd (HE.out.1 h).1 hok,x.out,.inr ⟨fun h=>hok (HE.out.1 h).1,rfl,rfl⟩⟩⟩
 ·have g1:(n:Int) > 130:=by omega
  have HE:Hid (E≠0):=fun h=>by
   have:=(hE.1 h).1;have h2:=(jo (K:=K) P.out rfl F I hK).1 this;have h3:=h2.1;unfold rfn at h3;rw [if_pos (by omega)] at h3;omega
  clear hm hr F I hK hs r s hM hL hT hF hO H hE q J hV ht h0 O P;go_enter Tryz.func242,Tryz.ntmps242;go_wp2_with fail;refine z.mono ?_;rintro e w1 ⟨rfl,rfl⟩;exact ⟨rfl,.inr ⟨by omega,HE.out,rfl,rfl⟩⟩

def Answered (w:World) (o:Tr) (n E cnt:Nat) (dE:List Ev) (G:Nat→Prop) (w':World) (v':Value):Prop:=
 (∃ Y,Row .u64 w' v' (if E=0 then ag Y n else [])∧(E=0→G Y))∧(Fresh w v'∧U64s w' v')∧∃ o',Did w o (if n≤130 then List.replicate cnt (1,(n:Int),0) ++ dE else []) w' o'

theorem oC (o:Tr) (ao bo lo:Option Addr) (n l K a b j p f:Nat) (g:Array Value) (A:Nat→Option Addr) (N C:Nat→Nat) (r:Nat→List Nat) (ms rs:List Nat) (E rm:Nat) (dE:List Ev) (G:Nat→Prop) (w:World) (ap:dE.length≤rm)
  (ht:TrRoom w o (j+rm)) (hm:RowT w o (.slice ao n a) ms) (hr:RowT w o (.slice bo l b) rs) (Z:Digs ms) (ab:Digs rs) (hK:K<18446744073709551616) (U:n≤1000000) (z:j≤1000)
  (hs:∀ W m o',Did w o m W o'→Slots W lo j A N C) (y:∀ i,i<j→RowT w o (.slice (A i) (N i) (C i)) (r i)) (t:∀ i,i<j→Digs (r i))
  (hf:∀ args w,(callFunc f args).run Tryz.prog w=.ok (.enter f args) w)
  (S:n≤130→∀ W m o',Did w o m W o'→TrRoom W o' rm→Calls Tryz.prog f (#[.int .i64 (n:Int)] ++ g) W fun e w'=>∃ v',e=.returned v'∧gW W o' dE n (fun Y=>okMod ms K rs→fd j n (val ms) N r→G Y) w' v')
  (hE:E=0↔okMod ms K rs∧fd j n (val ms) N r) (al:E≤1) :
  Calls Tryz.prog 212 #[aD o,.agg #[.slice ao n a,.int .u64 (K:Nat),.slice bo l b],.func (.func f) #[] g,.slice lo j p] w fun e w'=>∃ v',e=.returned (.tuple #[v',.int .i64 (E:Int)])∧Answered w o n E j dE G w' v':=by
 have aq:=eI;have he:∀ args w,(callFunc 242 args).run Tryz.prog w=.ok (.enter 242 args) w:=fun _ _=>by simp [go_sem]
 obtain ⟨po,J⟩:=aH o;obtain ⟨W,hW⟩:∃ W,W=((((w.alloc (.cells #[.pointer po] 127)).alloc (.cells #[.slice ao n a,.int .u64 (K:Nat),.slice bo l b] 130)).alloc (.cells #[.func (.func f) #[] g] 221)).alloc (.cells #[.slice lo j p] 86)).alloc (.cells #[.slice none 0 0] 32):=⟨_,rfl⟩
 have k0:Kept ae w W:=by rw [hW];exact (((((ah ae w).alloc _).alloc _).alloc _).alloc _).alloc _
 have R:W.heap.size=w.heap.size+1+1+1+1+1:=by rw [hW];simp
 have T:Box W w.heap.size (.pointer po) 127:=by rw [hW];exact ((((Box.new w _ _).alloc _).alloc _).alloc _).alloc _
 have ai:W.heap[w.heap.size+1]? = some (.cells #[.slice ao n a,.int .u64 (K:Nat),.slice bo l b] 130 (0,0)):=by
  rw [hW];refine am (am (am ?_));have:=heap_alloc_new (w.alloc (.cells #[.pointer po] 127)) (.cells #[.slice ao n a,.int .u64 (K:Nat),.slice bo l b] 130)
  rwa [show (w.alloc (.cells #[.pointer po] 127)).heap.size=w.heap.size+1 by simp] at this
 have aj:Box W (w.heap.size+1+1) (.func (.func f) #[] g) 221:=by
  rw [hW];refine Box.alloc (Box.alloc ?_ _) _;have:=Box.new ((w.alloc (.cells #[.pointer po] 127)).alloc (.cells #[.slice ao n a,.int .u64 (K:Nat),.slice bo l b] 130)) (.func (.func f) #[] g) 221
  rwa [show ((w.alloc (.cells #[.pointer po] 127)).alloc (.cells #[.slice ao n a,.int .u64 (K:Nat),.slice bo l b] 130)).heap.size=w.heap.size+1+1 by simp] at this
 have ac:Box W (w.heap.size+1+1+1) (.slice lo j p) 86:=by
  rw [hW];refine Box.alloc ?_ _;have:=Box.new (((w.alloc (.cells #[.pointer po] 127)).alloc (.cells #[.slice ao n a,.int .u64 (K:Nat),.slice bo l b] 130)).alloc (.cells #[.func (.func f) #[] g] 221)) (.slice lo j p) 86
  rwa [show (((w.alloc (.cells #[.pointer po] 127)).alloc (.cells #[.slice ao n a,.int .u64 (K:Nat),.slice bo l b] 130)).alloc (.cells #[.func (.func f) #[] g] 221)).heap.size=w.heap.size+1+1+1 by simp] at this
 have F:Box W (w.heap.size+1+1+1+1) (.slice none 0 0) 32:=by
  rw [hW];have:=Box.new ((((w.alloc (.cells #[.pointer po] 127)).alloc (.cells #[.slice ao n a,.int .u64 (K:Nat),.slice bo l b] 130)).alloc (.cells #[.func (.func f) #[] g] 221)).alloc (.cells #[.slice lo j p] 86)) (.slice none 0 0) 32
  rwa [show ((((w.alloc (.cells #[.pointer po] 127)).alloc (.cells #[.slice ao n a,.int .u64 (K:Nat),.slice bo l b] 130)).alloc (.cells #[.func (.func f) #[] g] 221)).alloc (.cells #[.slice lo j p] 86)).heap.size=w.heap.size+1+1+1+1 by simp] at this
 have k1:=k0.alloc (.cells #[.int .i64 0] 33);have xe:=Box.new W (.int .i64 0) 33;have h1:=uZ o ao bo lo n l K a b j p f g A N C r ms rs (w.heap.size+1) (w.heap.size+1+1+1) w.heap.size (w.heap.size+1+1) (w.heap.size+1+1+1+1) E rm dE G _ (ht.grew k1) (hm.grew k1) (hr.grew k1) Z ab hK U z (fun W' m o' d=>hs W' m o' (Did.after k1 d)) (fun i hi=>(y i hi).grew k1) t (am ai) (ac.alloc _) (by rw [J];exact T.alloc _) (aj.alloc _) (F.alloc (.cells #[.int .i64 0] 33)) hf (fun hn W' m o' d=>S hn W' m o' (Did.after k1 d)) hE;have I:(W.alloc (.cells #[.int .i64 0] 33)).heap.size=W.heap.size+1:=by simp
 have ad:=jD 242 #[.pointer (some ⟨w.heap.size+1,0,none⟩),.pointer (some ⟨w.heap.size+1+1+1,0,none⟩),.pointer (some ⟨w.heap.size,0,none⟩),.pointer (some ⟨w.heap.size+1+1,0,none⟩),.pointer (some ⟨w.heap.size+1+1+1+1,0,none⟩)] W
  (fun c W'=>c=(E:Int)∧∃ (Y:Nat) (v':Value) (o1:Tr),Row .u64 W' v' (if E=0 then ag Y n else [])∧(E=0→G Y)∧((∀ x,v'.ownBlock=some x→W.heap.size+1≤x)∧U64s W' v')∧Did w o (if n≤130 then List.replicate j (1,(n:Int),0) ++ dE else []) W' o1∧TrIn W' o1∧Box W' (w.heap.size+1+1+1+1) v' 32) he (h1.mono (by
  have L:TrIn (W.alloc (.cells #[.int .i64 0] 33)) o:=(ht.grew k1).1;rintro e w' (⟨hn,Y,v',w1,o1,hR,hF,hG,d,D⟩ | ⟨hn,h2,rfl,rfl⟩)
  ·have O:=xe.did d L (by decide) (by decide);have H:=(F.alloc (.cells #[.int .i64 0] 33)).did d L (by decide) (by decide);have X:TrIn w1 o1:=(d.room (k:=0) ((ht.grew k1).less (by rw [List.length_append,List.length_replicate];omega))).1;have M:∀ x,v'.ownBlock=some x→W.heap.size+1≤x:=fun x hx=>by have:=hF.1 x hx;omega
   rcases D with ⟨h2,rfl,rfl⟩ | ⟨h2,rfl,rfl⟩
   ·have kb:=ar w1 (w.heap.size+1+1+1+1) v';have ak:=H.apart X (by decide) (by decide);have d2:=(Did.after k1 d).wroteNew kb (by omega) ak;refine ⟨O.kept kb (by omega),.inl ⟨rfl,by rw [h2];rfl,Y,v',o1,?_,hG,⟨M,hF.2.kept kb (fun x hx e=>by have:=M x hx;omega)⟩,?_,?_,H.set v'⟩⟩
    ·rw [if_pos h2];exact hR.kept kb (fun x hx e=>by have:=M x hx;omega)
    ·rw [if_pos hn];exact d2
    ·exact (d2.room (k:=0) (ht.less (by rw [List.length_append,List.length_replicate];omega))).1
   ·refine ⟨O,.inr ⟨1,rfl,by omega,Y,.slice none 0 0,o1,?_,hG,⟨(fun x hx=>by cases hx),U64s.nil _⟩,?_,X,H⟩⟩
    ·rw [if_neg h2];exact Row.nil _ _
    ·rw [if_pos hn];exact Did.after k1 d
  ·refine ⟨xe,.inr ⟨1,rfl,by omega,0,.slice none 0 0,o,?_,(fun h=>absurd h h2),⟨(fun x hx=>by cases hx),U64s.nil _⟩,?_,L,F.alloc _⟩⟩
   ·rw [if_neg h2];exact Row.nil _ _
   ·rw [if_neg (by omega)];exact Did.of_kept k1 ht.1))
 have HW:=aa hW;have B:=aa R;have HT:=aa ht;rw [J];clear h1 hm hr Z ab hK U z hs y t S hE al hW k0 k1 ai F ac aj T xe he R I ht J hf;go_enter Tryz.func212,Tryz.ntmps212;go_wp2_with (rw [← HW.out]);refine ad.mono ?_;rintro e w' ⟨c,w1,rfl,⟨⟨rfl,Y,v',o1,hR,hG,hF,d,ti,hO⟩,P⟩,rfl⟩;obtain ⟨xo,xn,xc,rfl,_,_,_,_,_⟩:=hR.open;have q:Box w1 W.heap.size (.int .i64 0) 33:=P;have k3:=ar w1 W.heap.size (.int .i64 (E:Int));have an:w.heap.size+1+1+1+1≠W.heap.size:=by have:=B.out;omega
 have s:=hO.other ⟨W.heap.size,0,none⟩ an (.int .i64 (E:Int));have d3:=d.wroteNew k3 (by have:=B.out;omega) (q.apart ti (by decide) (by decide));have V:TrIn (w1.setCell ⟨W.heap.size,0,none⟩ (.int .i64 (E:Int))) o1:=(d3.room (k:=0) (HT.out.less (by split <;> simp <;> omega))).1;have af:=hR.kept k3 (fun x hx e=>by have:=hF.1 x hx;omega);have Q:=hF.2.kept k3 (fun x hx e=>by have:=hF.1 x hx;omega);generalize w1.setCell ⟨W.heap.size,0,none⟩ (.int .i64 (E:Int))=w2 at *;have c0:=s.cell;have f0:=s.free;have c1:=(s.set (.slice xo xn xc)).cell;have k4:=ar w2 (w.heap.size+1+1+1+1) (.slice xo xn xc)
 have HR:=aa (af.kept k4 (fun x hx e=>by have:=hF.1 x hx;have:=B.out;omega));have HU:=aa (Q.kept k4 (fun x hx e=>by have:=hF.1 x hx;have:=B.out;omega));have HD:=aa (d3.wroteNew k4 (by omega) (s.apart V (by decide) (by decide)));have HF:Hid (Fresh w (.slice xo xn xc)):=fun x hx=>by have:=hF.1 x hx;have:=B.out;omega
 have HG:=aa hG;clear ad hR af Q hG hF d d3 ti V hO s P q k3 k4;go_wp2_with fail;exact bodyPost_ret (v:=.tuple #[.slice xo xn xc,.int .i64 (E:Int)]) (by simp [results,Tryz.results212,go_sem,c1]) rfl ⟨_,rfl,⟨Y,HR.out,HG.out⟩,⟨HF.out,HU.out⟩,o1,HD.out⟩

theorem okMod.facts {ms rs:List Nat} {K n l:Nat} (h:okMod ms K rs) (hn:ms.length=n) (hl:rs.length=l) (b:Digs ms) (c:Digs rs) (hK:K<18446744073709551616) :
  (val ms*K+1)%18446744073709551616=0∧0<n∧n≤130∧l=n∧val ms%2=1∧val ms<18446744073709551616^n∧val rs=18446744073709551616^(2*n)%val ms:=by
 obtain ⟨h1,h2,h3,h4⟩:=(jo hn hl b c hK).1 h;have a:val ms<18446744073709551616^n:=by rw [← hn];exact aq (by omega) b
 obtain ⟨V,hV⟩:∃ V,V=val ms:=⟨_,rfl⟩
 rw [← hV] at h1 h2 h4 a ⊢;have m:=eu h.1;rw [← hV] at m;unfold jd at h4;by_cases h5:(V*K+1)%18446744073709551616=0∧val rs=18446744073709551616^(2*n)%V
 ·refine ⟨h5.1,?_,by omega,h3,m.2.2,a,h5.2⟩;rcases Nat.eq_zero_or_pos n with h0 | h0
  ·rw [h0,Nat.pow_zero] at a;omega
  ·exact h0
 ·rw [if_neg h5] at h4;omega

def bC (n:Nat):List Ev:=List.replicate n (1,(n:Int),0) ++ List.replicate (n+2) (1,(n:Int),0)

theorem Reduced.done {W:World} {o:Tr} {m:List Ev} {n K X V:Nat} {w':World} {v':Value} {G:Nat→Prop} (h:Reduced W o m n K X V w' v') (hG:∀ Y,((V*K+1)%18446744073709551616=0→0<n→X<V*18446744073709551616^n→Y<V∧18446744073709551616^n*Y%V=X%V)→G Y):gW W o (m ++ List.replicate (n+2) (1,(n:Int),0)) n G w' v':=by
 obtain ⟨Y,o',h1,h2,h3⟩:=h;exact ⟨Y,o',h1,hG Y h2,h3⟩

def mf (n V X Z:Nat) (Y:Nat):Prop:=Y<V∧2^(64*n)*Y%V=(X*Z)%V

theorem Bp (o:Tr) (ao bo xo yo:Option Addr) (n l K a c N1 N2 xc yc bT bM bA bB:Nat) (ms rs xs ys:List Nat) (w:World)
  (ht:TrRoom w o 1000) (hm:RowT w o (.slice ao n a) ms) (hx:RowT w o (.slice xo N1 xc) xs) (hy:RowT w o (.slice yo N2 yc) ys) (i:Digs ms) (v:Digs rs) (r:Digs xs) (q:Digs ys) (s:rs.length=l) (hK:K<18446744073709551616) (hn:n≤130)
  (hT:Box w bT (aD o) 127) (hM:w.heap[bM]? = some (.cells #[.slice ao n a,.int .u64 (K:Nat),.slice bo l c] 130 (0,0))) (hA:Box w bA (.slice xo N1 xc) 32) (hB:Box w bB (.slice yo N2 yc) 32) :
  Calls Tryz.prog 217 #[.int .i64 (n:Int),.pointer (some ⟨bT,0,none⟩),.pointer (some ⟨bM,0,none⟩),.pointer (some ⟨bA,0,none⟩),.pointer (some ⟨bB,0,none⟩)] w fun e w'=>∃ v',e=.returned v' ∧
   gW w o (bC n) n (fun Y=>okMod ms K rs→(N1=n∧val xs<val ms)→(N2=n∧val ys<val ms)→mf n (val ms) (val xs) (val ys) Y) w' v':=by
 obtain ⟨_,_,_,e1,x,_,_,_,_⟩:=hm.1.open;cases e1
 obtain ⟨po,j⟩:=aH o;have f:=ht.1;have JC:Hid (∀ W m o',Did w o m W o'→W.cell? ⟨bT,0,none⟩=some (.pointer po)∧W.cell? ⟨bA,0,none⟩=some (.slice xo N1 xc)∧W.cell? ⟨bB,0,none⟩=some (.slice yo N2 yc)∧W.cell? ⟨bM,0,none⟩=some (.slice ao n a)∧W.cell? ⟨bM,1,none⟩=some (.int .u64 (K:Nat))∧W.cell? ⟨bM,2,none⟩=some (.slice bo l c)):=fun W m o' d=>by
  rw [← j];exact ⟨(hT.did d f (by decide) (by decide)).cell,(hA.did d f (by decide) (by decide)).cell,(hB.did d f (by decide) (by decide)).cell,ay ((d.kept.block _ (lt_of_block hM) (ax hM f (by decide) (by decide))).trans hM)⟩
 have JF:Hid (∀ W (zo:Option Addr) (z zc:Nat) (zs:List Nat),Kept ae w W→RowT w o (.slice zo z zc) zs→Digs zs→Calls Tryz.prog 215 #[.slice zo z zc,.int .i64 (n:Int)] W fun e w'=>∃ g,e=.returned (.slice (some ⟨g,0,none⟩) n n)∧Kept ae W w'∧RowT w' o (.slice (some ⟨g,0,none⟩) n n) (ag (val zs) n)):=fun W zo z zc zs k hz A=>by
  refine (qN (.slice zo z zc) zs n W (hz.1.grew k) A (by omega)).mono ?_;rintro e w' ⟨rfl,ho,k'⟩;exact ⟨_,rfl,k',fw ho (af _ _ _) (ht.grew (k.trans k')).1⟩
 have JX:Hid (∀ W,Kept ae w W→Calls Tryz.prog 215 #[.slice xo N1 xc,.int .i64 (n:Int)] W fun e w'=>∃ g,e=.returned (.slice (some ⟨g,0,none⟩) n n)∧Kept ae W w'∧RowT w' o (.slice (some ⟨g,0,none⟩) n n) (ag (val xs) n)):=fun W k=>JF.out W _ _ _ _ k hx r
 have JY:Hid (∀ W,Kept ae w W→Calls Tryz.prog 215 #[.slice yo N2 yc,.int .i64 (n:Int)] W fun e w'=>∃ g,e=.returned (.slice (some ⟨g,0,none⟩) n n)∧Kept ae W w'∧RowT w' o (.slice (some ⟨g,0,none⟩) n n) (ag (val ys) n)):=fun W k=>JF.out W _ _ _ _ k hy q
 have JT:Hid (∀ W g h,Kept ae w W→RowT W o (.slice (some ⟨g,0,none⟩) n n) (ag (val xs) n)→RowT W o (.slice (some ⟨h,0,none⟩) n n) (ag (val ys) n)→Calls Tryz.prog 214 #[.pointer po,.agg #[.slice ao n a,.int .u64 (K:Nat),.slice bo l c],.slice (some ⟨g,0,none⟩) n n,.slice (some ⟨h,0,none⟩) n n] W fun e w'=>∃ v',e=.returned v'∧gW w o (bC n) n (fun Y=>okMod ms K rs→(N1=n∧val xs<val ms)→(N2=n∧val ys<val ms)→mf n (val ms) (val xs) (val ys) Y) w' v'):=fun W g h k hg hh=>by
  have:=oD o n K a l c n n ao bo _ _ _ _ ms W (ht.grew k) hg hh (hm.grew k) (ai (by omega) _ _) (ai (by omega) _ _) i hn;rw [j] at this;refine this.mono ?_;rintro e w' ⟨v',rfl,hR⟩;refine ⟨v',rfl,?_⟩;obtain ⟨Y,o',h1,h2,h3⟩:=hR.done (G:=fun Y=>okMod ms K rs→(N1=n∧val xs<val ms)→(N2=n∧val ys<val ms)→mf n (val ms) (val xs) (val ys) Y) (fun Y hY y h1 h2=>by
   obtain ⟨f1,f2,f3,f4,f5,f6,f7⟩:=y.facts x.out s i v hK;rw [ak,ak,al (Nat.lt_trans h1.2 f6),al (Nat.lt_trans h2.2 f6)] at hY;have:=hY f1 f2 (Nat.mul_lt_mul_of_lt_of_le h1.2 (Nat.le_of_lt (Nat.lt_trans h2.2 f6)) (Nat.pow_pos (by omega)));rw [B64] at this;exact this)
  exact ⟨Y,o',aU h1 (fun b hb=>Nat.le_trans k.size (h1.lt b hb).1),h2,Did.after k h3⟩
 have h0:=Did.of_kept (ah ae w) f;obtain ⟨c0,c1,c2,c3,c4,c5⟩:=JC.out _ _ _ h0;have t:=aa f;have JD:Hid (∀ (W:World) (v':Value) (G:Nat→Prop),gW w o (bC n) n G W v'→∃ m o',Did w o m W o'):=fun W v' G h=>by
  obtain ⟨Y,o',_,_,d⟩:=h;exact ⟨_,_,d⟩
 clear ht hm hx hy i v r q s hK hT hM hA hB j f h0 JF x;generalize (fun Y=>okMod ms K rs→(N1=n∧val xs<val ms)→(N2=n∧val ys<val ms)→mf n (val ms) (val xs) (val ys) Y)=G at *;generalize val xs=X at *;generalize val ys=Z at *;go_enter Tryz.func217,Tryz.ntmps217;go_wp2_with fail;go_region_held3 (fun w'=>w'.cell? ⟨bT,0,none⟩=some (.pointer po)∧w'.cell? ⟨bA,0,none⟩=some (.slice xo N1 xc)∧w'.cell? ⟨bB,0,none⟩=some (.slice yo N2 yc)∧w'.cell? ⟨bM,0,none⟩=some (.slice ao n a)∧w'.cell? ⟨bM,1,none⟩=some (.int .u64 (K:Int))∧w'.cell? ⟨bM,2,none⟩=some (.slice bo l c))
  (((try dsimp only);(repeat' apply And.intro) <;> first | (go_keep;done) | assumption))
  (first
  | (go_at_call_of 215 (Value.slice xo N1 xc);refine (JX.out _ ?_).mono ?_;(exact (ah _ _).drew);rintro e w2 ⟨g2,rfl,k2,r2⟩;obtain ⟨q0,q1,q2,q3,q4,q5⟩:=JC.out _ _ _ (Did.of_kept ((ah _ _).drew.trans k2) t.out))
  | (go_at_call_of 215 (Value.slice yo N2 yc);refine (JY.out _ ?_).mono ?_;(exact (ah _ _).drew.trans k2);rintro e w3 ⟨g3,rfl,k3,r3⟩;obtain ⟨s0,s1,s2,s3,s4,s5⟩:=JC.out _ _ _ (Did.of_kept ((ah _ _).drew.trans (k2.trans k3)) t.out))
  | (go_at_call 214;refine (JT.out _ g2 g3 ?_ ?_ ?_).mono ?_;(exact (ah _ _).drew.trans (k2.trans k3));(exact r2.grew k3);(exact r3);rintro e w4 ⟨v4,rfl,p⟩;obtain ⟨m4,o4,d4⟩:=JD.out _ _ _ p;obtain ⟨t0,t1,t2,t3,t4,t5⟩:=JC.out _ _ _ d4))
 all_goals
  go_wp2_with fail;go_ret;exact ⟨_,rfl,p⟩

theorem qm {W:World} {g N1 N2 xc yc:Nat} {xo yo:Option Addr} {t:TypeId} (h:W.heap[g]? = some (.cells #[.slice xo N1 xc,.slice yo N2 yc] t (0,0))):Slots W (some ⟨g,0,none⟩) 2 (fun i=>if i=0 then xo else yo) (fun i=>if i=0 then N1 else N2) (fun i=>if i=0 then xc else yc):=by
 intro i hi;refine ⟨g,0,rfl,?_⟩;have a:i=0∨i=1:=by omega
 rcases a with rfl | rfl
 ·exact (cell_of_row W g 0 _ _ _ h).trans rfl
 ·exact (cell_of_row W g 1 _ _ _ h).trans rfl

theorem jz {W:World} {g N1 xc:Nat} {xo:Option Addr} {t:TypeId} (h:W.heap[g]? = some (.cells #[.slice xo N1 xc] t (0,0))):Slots W (some ⟨g,0,none⟩) 1 (fun _=>xo) (fun _=>N1) (fun _=>xc):=by
 intro i hi;refine ⟨g,0,rfl,?_⟩;obtain rfl:i=0:=by omega
 exact (cell_of_row W g 0 _ _ _ h).trans rfl

theorem Answered.after {w W:World} {o:Tr} {n E a:Nat} {dE:List Ev} {G:Nat→Prop} {w':World} {v':Value} (k:Kept ae w W) (h:Answered W o n E a dE G w' v'):Answered w o n E a dE G w' v':=by
 obtain ⟨h1,h2,o',d⟩:=h;exact ⟨h1,⟨h2.1.after k,h2.2⟩,o',Did.after k d⟩

theorem Cd (o:Tr) (ao bo xo yo:Option Addr) (n l K a b N1 N2 xc yc E:Nat) (ms rs xs ys:List Nat) (w:World)
  (ht:TrRoom w o 2000) (hm:RowT w o (.slice ao n a) ms) (hr:RowT w o (.slice bo l b) rs) (hx:RowT w o (.slice xo N1 xc) xs) (hy:RowT w o (.slice yo N2 yc) ys) (y:Digs ms) (z:Digs rs) (v:Digs xs) (t:Digs ys) (hK:K<18446744073709551616) (L:n≤300)
  (hE:E=0↔okMod ms K rs∧(N1=n∧val xs<val ms)∧(N2=n∧val ys<val ms)) (D:E≤1) :
  Calls Tryz.prog 176 #[aD o,.agg #[.slice ao n a,.int .u64 (K:Nat),.slice bo l b],.slice xo N1 xc,.slice yo N2 yc] w fun e w'=>∃ v',e=.returned (.tuple #[v',.int .i64 (E:Int)])∧Answered w o n E 2 (bC n) (mf n (val ms) (val xs) (val ys)) w' v':=by
 have M:=eI;have he:∀ args w,(callFunc 217 args).run Tryz.prog w=.ok (.enter 217 args) w:=fun _ _=>by simp [go_sem]
 obtain ⟨po,A⟩:=aH o;obtain ⟨_,_,_,e1,H,_,_,_,_⟩:=hr.1.open;cases e1
 obtain ⟨W,hW⟩:∃ W,W=(((w.alloc (.cells #[.pointer po] 127)).alloc (.cells #[.slice ao n a,.int .u64 (K:Nat),.slice bo l b] 130)).alloc (.cells #[.slice xo N1 xc] 32)).alloc (.cells #[.slice yo N2 yc] 32):=⟨_,rfl⟩
 have k0:Kept ae w W:=by rw [hW];exact ((((ah ae w).alloc _).alloc _).alloc _).alloc _
 have x:Box W w.heap.size (.pointer po) 127:=by rw [hW];exact (((Box.new w _ _).alloc _).alloc _).alloc _
 have g:W.heap[w.heap.size+1]? = some (.cells #[.slice ao n a,.int .u64 (K:Nat),.slice bo l b] 130 (0,0)):=by
  rw [hW];refine am (am ?_);have:=heap_alloc_new (w.alloc (.cells #[.pointer po] 127)) (.cells #[.slice ao n a,.int .u64 (K:Nat),.slice bo l b] 130)
  rwa [show (w.alloc (.cells #[.pointer po] 127)).heap.size=w.heap.size+1 by simp] at this
 have C:Box W (w.heap.size+1+1) (.slice xo N1 xc) 32:=by
  rw [hW];refine Box.alloc ?_ _;have:=Box.new ((w.alloc (.cells #[.pointer po] 127)).alloc (.cells #[.slice ao n a,.int .u64 (K:Nat),.slice bo l b] 130)) (.slice xo N1 xc) 32
  rwa [show ((w.alloc (.cells #[.pointer po] 127)).alloc (.cells #[.slice ao n a,.int .u64 (K:Nat),.slice bo l b] 130)).heap.size=w.heap.size+1+1 by simp] at this
 have B:Box W (w.heap.size+1+1+1) (.slice yo N2 yc) 32:=by
  rw [hW];have:=Box.new (((w.alloc (.cells #[.pointer po] 127)).alloc (.cells #[.slice ao n a,.int .u64 (K:Nat),.slice bo l b] 130)).alloc (.cells #[.slice xo N1 xc] 32)) (.slice yo N2 yc) 32
  rwa [show (((w.alloc (.cells #[.pointer po] 127)).alloc (.cells #[.slice ao n a,.int .u64 (K:Nat),.slice bo l b] 130)).alloc (.cells #[.slice xo N1 xc] 32)).heap.size=w.heap.size+1+1+1 by simp] at this
 obtain ⟨Wl,r⟩:∃ Wl,Wl=W.alloc (.cells #[.slice xo N1 xc,.slice yo N2 yc] 32):=⟨_,rfl⟩
 have kl:Kept ae W Wl:=by rw [r];exact (ah ae W).alloc _
 have q:Wl.heap[W.heap.size]? = some (.cells #[.slice xo N1 xc,.slice yo N2 yc] 32 (0,0)):=by rw [r];exact heap_alloc_new _ _
 have kk:=k0.trans kl;have c:=oC o ao bo (some ⟨W.heap.size,0,none⟩) n l K a b 2 2 217 #[.pointer (some ⟨w.heap.size,0,none⟩),.pointer (some ⟨w.heap.size+1,0,none⟩),.pointer (some ⟨w.heap.size+1+1,0,none⟩),.pointer (some ⟨w.heap.size+1+1+1,0,none⟩)]
  (fun i=>if i=0 then xo else yo) (fun i=>if i=0 then N1 else N2) (fun i=>if i=0 then xc else yc) (fun i=>if i=0 then xs else ys) ms rs E 1998 (bC n) (mf n (val ms) (val xs) (val ys)) Wl (by unfold bC;simp;omega)
  (ht.grew kk) (hm.grew kk) (hr.grew kk) y z hK (by omega) (by omega)
  (fun W' m o' d=>qm ((d.kept.block _ (lt_of_block q) (ax q (ht.grew kk).1 (by decide) (by decide))).trans q))
  (fun i hi=>by
   have p:i=0∨i=1:=by omega
   rcases p with rfl | rfl
   ·exact hx.grew kk
   ·exact hy.grew kk)
  (fun i hi=>by
   have p:i=0∨i=1:=by omega
   rcases p with rfl | rfl
   ·exact v
   ·exact t)
  he
  (fun hn W' m o' d k=>by
   have s:=(ht.grew kk).1
   refine (Bp o' ao bo xo yo n l K a b N1 N2 xc yc w.heap.size (w.heap.size+1) (w.heap.size+1+1) (w.heap.size+1+1+1) ms rs xs ys W' (k.less (by omega)) ((hm.grew kk).did d) ((hx.grew kk).did d) ((hy.grew kk).did d) y z v t H.out hK hn (by rw [d.ptr,A];exact (x.grew kl).did d s (by decide) (by decide)) ((d.kept.block _ (lt_of_block ((kl.block _ (lt_of_block g) (fun f=>f)).trans g)) (ax ((kl.block _ (lt_of_block g) (fun f=>f)).trans g) s (by decide) (by decide))).trans ((kl.block _ (lt_of_block g) (fun f=>f)).trans g)) ((C.grew kl).did d s (by decide) (by decide)) ((B.grew kl).did d s (by decide) (by decide))).mono ?_
   rintro e w' ⟨v',rfl,Y,o2,h1,h2,h3⟩;exact ⟨v',rfl,Y,o2,h1,fun I j=>h2 I (j 0 (by omega)) (j 1 (by omega)),h3⟩)
  (by
   rw [hE];refine and_congr_right fun _=>⟨fun h i hi=>?_,fun h=>⟨h 0 (by omega),h 1 (by omega)⟩⟩
   have p:i=0∨i=1:=by omega
   rcases p with rfl | rfl
   ·exact h.1
   ·exact h.2) D
 have HB:Hid (∀ w' v',Answered Wl o n E 2 (bC n) (mf n (val ms) (val xs) (val ys)) w' v'→Answered w o n E 2 (bC n) (mf n (val ms) (val xs) (val ys)) w' v'):=fun w' v' h=>h.after kk
 have F:W.heap.size=w.heap.size+1+1+1+1:=by rw [hW];simp
 rw [F] at c;have HW:=aa hW;have J:=aa r;have JM:=ay g;obtain ⟨c3,c4,c5⟩:=JM;have c0:=x.cell;have c1:=C.cell;have c2:=B.cell;rw [A] at c ⊢;clear ht hm hr hx hy y z v t hK L hE D A k0 x g C B hW r q kk kl he H F;generalize mf n (val ms) (val xs) (val ys)=G at *;go_enter Tryz.func176,Tryz.ntmps176;go_wp2_with fail;rw [← HW.out,← J.out];refine c.mono ?_;rintro e w1 ⟨v1,rfl,h1⟩;have H1:=aa (HB.out _ _ h1);clear c h1 c0 c1 c2 c3 c4 c5;go_wp2_with fail;go_ret2;exact ⟨_,rfl,H1.out⟩

def jX (n V X:Nat) (Y:Nat):Prop:=Y=2^(64*n)*X%V

theorem vL {V n X Y:Nat} (a:V%2=1) (hY:Y<V) (h:18446744073709551616^n*Y%V=(X*(18446744073709551616^(2*n)%V))%V):jX n V X Y:=by
 unfold jX;have b:Nat.Coprime (18446744073709551616^n) V:=by rw [B64];exact (dL a).symm
 rw [← B64,← al hY];apply e8 b;rw [h,Nat.mul_mod,Nat.mod_mod,← Nat.mul_mod,Nat.two_mul,Nat.pow_add]
 congr 1
 generalize 18446744073709551616^n=p
 grind

def l9 (n V X:Nat) (Y:Nat):Prop:=Y<V∧2^(64*n)*Y%V=X%V

theorem vX (o:Tr) (ao bo xo:Option Addr) (n l K c a N1 xc bT bM bA:Nat) (ms rs xs:List Nat) (w:World)
  (ht:TrRoom w o 1000) (hm:RowT w o (.slice ao n c) ms) (hx:RowT w o (.slice xo N1 xc) xs) (hy:RowT w o (.slice bo l a) rs) (i:Digs ms) (j:Digs rs) (s:Digs xs) (t:rs.length=l) (hK:K<18446744073709551616) (hn:n≤130)
  (hT:Box w bT (aD o) 127) (hM:w.heap[bM]? = some (.cells #[.slice ao n c,.int .u64 (K:Nat),.slice bo l a] 130 (0,0))) (hA:Box w bA (.slice xo N1 xc) 32) :
  Calls Tryz.prog 213 #[.int .i64 (n:Int),.pointer (some ⟨bT,0,none⟩),.pointer (some ⟨bM,0,none⟩),.pointer (some ⟨bA,0,none⟩)] w fun e w'=>∃ v',e=.returned v' ∧
   gW w o (bC n) n (fun Y=>okMod ms K rs→(N1=n∧val xs<val ms)→jX n (val ms) (val xs) Y) w' v':=by
 obtain ⟨_,_,_,e1,x,_,_,_,_⟩:=hm.1.open;cases e1
 obtain ⟨po,p⟩:=aH o;have f:=ht.1;have JC:Hid (∀ W m o',Did w o m W o'→W.cell? ⟨bT,0,none⟩=some (.pointer po)∧W.cell? ⟨bA,0,none⟩=some (.slice xo N1 xc)∧W.cell? ⟨bM,0,none⟩=some (.slice ao n c)∧W.cell? ⟨bM,1,none⟩=some (.int .u64 (K:Nat))∧W.cell? ⟨bM,2,none⟩=some (.slice bo l a)):=fun W m o' d=>by
  rw [← p];exact ⟨(hT.did d f (by decide) (by decide)).cell,(hA.did d f (by decide) (by decide)).cell,ay ((d.kept.block _ (lt_of_block hM) (ax hM f (by decide) (by decide))).trans hM)⟩
 have JF:Hid (∀ W (zo:Option Addr) (z zc:Nat) (zs:List Nat),Kept ae w W→RowT w o (.slice zo z zc) zs→Digs zs→Calls Tryz.prog 215 #[.slice zo z zc,.int .i64 (n:Int)] W fun e w'=>∃ g,e=.returned (.slice (some ⟨g,0,none⟩) n n)∧Kept ae W w'∧RowT w' o (.slice (some ⟨g,0,none⟩) n n) (ag (val zs) n)):=fun W zo z zc zs k hz A=>by
  refine (qN (.slice zo z zc) zs n W (hz.1.grew k) A (by omega)).mono ?_;rintro e w' ⟨rfl,ho,k'⟩;exact ⟨_,rfl,k',fw ho (af _ _ _) (ht.grew (k.trans k')).1⟩
 have JX:Hid (∀ W,Kept ae w W→Calls Tryz.prog 215 #[.slice xo N1 xc,.int .i64 (n:Int)] W fun e w'=>∃ g,e=.returned (.slice (some ⟨g,0,none⟩) n n)∧Kept ae W w'∧RowT w' o (.slice (some ⟨g,0,none⟩) n n) (ag (val xs) n)):=fun W k=>JF.out W _ _ _ _ k hx s
 have JY:Hid (∀ W,Kept ae w W→Calls Tryz.prog 215 #[.slice bo l a,.int .i64 (n:Int)] W fun e w'=>∃ g,e=.returned (.slice (some ⟨g,0,none⟩) n n)∧Kept ae W w'∧RowT w' o (.slice (some ⟨g,0,none⟩) n n) (ag (val rs) n)):=fun W k=>JF.out W _ _ _ _ k hy j
 have JT:Hid (∀ W g h,Kept ae w W→RowT W o (.slice (some ⟨g,0,none⟩) n n) (ag (val xs) n)→RowT W o (.slice (some ⟨h,0,none⟩) n n) (ag (val rs) n)→Calls Tryz.prog 214 #[.pointer po,.agg #[.slice ao n c,.int .u64 (K:Nat),.slice bo l a],.slice (some ⟨g,0,none⟩) n n,.slice (some ⟨h,0,none⟩) n n] W fun e w'=>∃ v',e=.returned v'∧gW w o (bC n) n (fun Y=>okMod ms K rs→(N1=n∧val xs<val ms)→jX n (val ms) (val xs) Y) w' v'):=fun W g h k hg hh=>by
  have:=oD o n K c l a n n ao bo _ _ _ _ ms W (ht.grew k) hg hh (hm.grew k) (ai (by omega) _ _) (ai (by omega) _ _) i hn;rw [p] at this;refine this.mono ?_;rintro e w' ⟨v',rfl,hR⟩;refine ⟨v',rfl,?_⟩;obtain ⟨Y,o',h1,h2,h3⟩:=hR.done (G:=fun Y=>okMod ms K rs→(N1=n∧val xs<val ms)→jX n (val ms) (val xs) Y) (fun Y hY y h1=>by
   obtain ⟨f1,f2,f3,f4,f5,f6,f7⟩:=y.facts x.out t i j hK;have q:val rs<val ms:=by rw [f7];exact Nat.mod_lt _ (by omega)
   rw [ak,ak,al (Nat.lt_trans h1.2 f6),al (Nat.lt_trans q f6)] at hY;have h2:=hY f1 f2 (Nat.mul_lt_mul_of_lt_of_le h1.2 (Nat.le_of_lt (Nat.lt_trans q f6)) (Nat.pow_pos (by omega)));exact vL f5 h2.1 (by rw [f7] at h2;exact h2.2))
  exact ⟨Y,o',aU h1 (fun b hb=>Nat.le_trans k.size (h1.lt b hb).1),h2,Did.after k h3⟩
 have h0:=Did.of_kept (ah ae w) f;obtain ⟨c0,c1,c3,c4,c5⟩:=JC.out _ _ _ h0;have v:=aa f;have JD:Hid (∀ (W:World) (v':Value) (G:Nat→Prop),gW w o (bC n) n G W v'→∃ m o',Did w o m W o'):=fun W v' G h=>by
  obtain ⟨Y,o',_,_,d⟩:=h;exact ⟨_,_,d⟩
 clear ht hm hx hy i j s t hK hT hM hA p f h0 JF x;generalize (fun Y=>okMod ms K rs→(N1=n∧val xs<val ms)→jX n (val ms) (val xs) Y)=G at *;generalize val xs=X at *;generalize val rs=Z at *;go_enter Tryz.func213,Tryz.ntmps213;go_wp2_with fail;go_region_held3 (fun w'=>w'.cell? ⟨bT,0,none⟩=some (.pointer po)∧w'.cell? ⟨bA,0,none⟩=some (.slice xo N1 xc)∧w'.cell? ⟨bM,0,none⟩=some (.slice ao n c)∧w'.cell? ⟨bM,1,none⟩=some (.int .u64 (K:Int))∧w'.cell? ⟨bM,2,none⟩=some (.slice bo l a))
  (((try dsimp only);(repeat' apply And.intro) <;> first | (go_keep;done) | assumption))
  (first
  | (go_at_call_of 215 (Value.slice xo N1 xc);refine (JX.out _ ?_).mono ?_;(exact (ah _ _).drew);rintro e w2 ⟨g2,rfl,k2,r2⟩;obtain ⟨q0,q1,q3,q4,q5⟩:=JC.out _ _ _ (Did.of_kept ((ah _ _).drew.trans k2) v.out))
  | (go_at_call_of 215 (Value.slice bo l a);refine (JY.out _ ?_).mono ?_;(exact (ah _ _).drew.trans k2);rintro e w3 ⟨g3,rfl,k3,r3⟩;obtain ⟨s0,s1,s3,s4,s5⟩:=JC.out _ _ _ (Did.of_kept ((ah _ _).drew.trans (k2.trans k3)) v.out))
  | (go_at_call 214;refine (JT.out _ g2 g3 ?_ ?_ ?_).mono ?_;(exact (ah _ _).drew.trans (k2.trans k3));(exact r2.grew k3);(exact r3);rintro e w4 ⟨v4,rfl,r⟩;obtain ⟨m4,o4,d4⟩:=JD.out _ _ _ r;obtain ⟨t0,t1,t3,t4,t5⟩:=JC.out _ _ _ d4))
 all_goals
  go_wp2_with fail;go_ret;exact ⟨_,rfl,r⟩

theorem yd (o:Tr) (ao bo xo:Option Addr) (n l K a b N1 xc bT bM bA:Nat) (ms rs xs:List Nat) (w:World)
  (ht:TrRoom w o 1000) (hm:RowT w o (.slice ao n a) ms) (hx:RowT w o (.slice xo N1 xc) xs) (f:Digs ms) (r:Digs rs) (p:Digs xs) (q:rs.length=l) (hK:K<18446744073709551616) (hn:n≤130)
  (hT:Box w bT (aD o) 127) (hM:w.heap[bM]? = some (.cells #[.slice ao n a,.int .u64 (K:Nat),.slice bo l b] 130 (0,0))) (hA:Box w bA (.slice xo N1 xc) 32) :
  Calls Tryz.prog 240 #[.int .i64 (n:Int),.pointer (some ⟨bT,0,none⟩),.pointer (some ⟨bM,0,none⟩),.pointer (some ⟨bA,0,none⟩)] w fun e w'=>∃ v',e=.returned v' ∧
   gW w o (List.replicate (n+2) (1,(n:Int),0)) n (fun Y=>okMod ms K rs→(N1=n∧val xs<val ms)→l9 n (val ms) (val xs) Y) w' v':=by
 obtain ⟨_,_,_,e1,s,_,_,_,_⟩:=hm.1.open;cases e1
 obtain ⟨po,i⟩:=aH o;have c:=ht.1;obtain ⟨N,hN⟩:∃ N,N=n+n:=⟨_,rfl⟩
 have JC:Hid (∀ W m o',Did w o m W o'→W.cell? ⟨bT,0,none⟩=some (.pointer po)∧W.cell? ⟨bA,0,none⟩=some (.slice xo N1 xc)∧W.cell? ⟨bM,0,none⟩=some (.slice ao n a)∧W.cell? ⟨bM,1,none⟩=some (.int .u64 (K:Nat))∧W.cell? ⟨bM,2,none⟩=some (.slice bo l b)):=fun W m o' d=>by
  rw [← i];exact ⟨(hT.did d c (by decide) (by decide)).cell,(hA.did d c (by decide) (by decide)).cell,ay ((d.kept.block _ (lt_of_block hM) (ax hM c (by decide) (by decide))).trans hM)⟩
 have JX:Hid (∀ W,Kept ae w W→Calls Tryz.prog 215 #[.slice xo N1 xc,.int .i64 (N:Int)] W fun e w'=>∃ g,e=.returned (.slice (some ⟨g,0,none⟩) N N)∧Kept ae w w'∧w.heap.size≤g∧OwnN .u64 23 w' g (.slice (some ⟨g,0,none⟩) N N) N (ag (val xs) N)):=fun W k=>by
  refine (qN (.slice xo N1 xc) xs N W (hx.1.grew k) p (by omega)).mono ?_;rintro e w' ⟨rfl,ho,k'⟩;exact ⟨_,rfl,k.trans k',k.size,ho⟩
 have JT:Hid (∀ W g,Kept ae w W→w.heap.size≤g→OwnN .u64 23 W g (.slice (some ⟨g,0,none⟩) N N) N (ag (val xs) N)→Calls Tryz.prog 216 #[.pointer po,.agg #[.slice ao n a,.int .u64 (K:Nat),.slice bo l b],.slice (some ⟨g,0,none⟩) N N] W fun e w'=>∃ v',e=.returned v'∧gW w o (List.replicate (n+2) (1,(n:Int),0)) n (fun Y=>okMod ms K rs→(N1=n∧val xs<val ms)→l9 n (val ms) (val xs) Y) w' v'):=fun W g k hg ho=>by
  have:=j5 w o o [] g g N N n K a l b ao bo _ ms W (Did.of_kept k c) (ht.less (by simp;omega)) hg ho (af _ _ _) (ai (by omega) _ _) hN (by omega) hm f;rw [i] at this;refine this.mono ?_;rintro e w' ⟨v',rfl,hR⟩;refine ⟨v',rfl,?_⟩;have:=hR.done (G:=fun Y=>okMod ms K rs→(N1=n∧val xs<val ms)→l9 n (val ms) (val xs) Y) (fun Y hY v h1=>by
   obtain ⟨f1,f2,f3,f4,f5,f6,f7⟩:=v.facts s.out q f r hK;have hp:18446744073709551616^n≤18446744073709551616^N:=Nat.pow_le_pow_right (by omega) (by omega);rw [ak,al (Nat.lt_of_lt_of_le (Nat.lt_trans h1.2 f6) hp)] at hY;have:=hY f1 f2 (Nat.lt_of_lt_of_le h1.2 (Nat.le_mul_of_pos_right _ (Nat.pow_pos (by omega))));rw [B64] at this;exact this)
  exact this
 have h0:=Did.of_kept (ah ae w) c;obtain ⟨c0,c1,c3,c4,c5⟩:=JC.out _ _ _ h0;have y:=aa c;have JD:Hid (∀ (W:World) (v':Value) (G:Nat→Prop),gW w o (List.replicate (n+2) (1,(n:Int),0)) n G W v'→∃ m o',Did w o m W o'):=fun W v' G h=>by
  obtain ⟨Y,o',_,_,d⟩:=h;exact ⟨_,_,d⟩
 have g2:IntKind.i64.wrap (2*(n:Int))=(N:Int):=by rw [IntKind.wrap_i64];omega
 clear ht hm hx f r p q hK hT hM hA i c h0 s hN;generalize (fun Y=>okMod ms K rs→(N1=n∧val xs<val ms)→l9 n (val ms) (val xs) Y)=G at *;generalize val xs=X at *;go_enter Tryz.func240,Tryz.ntmps240;go_wp2_with fail;go_region_held3 (fun w'=>w'.cell? ⟨bT,0,none⟩=some (.pointer po)∧w'.cell? ⟨bA,0,none⟩=some (.slice xo N1 xc)∧w'.cell? ⟨bM,0,none⟩=some (.slice ao n a)∧w'.cell? ⟨bM,1,none⟩=some (.int .u64 (K:Int))∧w'.cell? ⟨bM,2,none⟩=some (.slice bo l b))
  (((try dsimp only);(repeat' apply And.intro) <;> first | (go_keep;done) | assumption))
  (first
  | (go_at_call 215;refine (JX.out _ ?_).mono ?_;(exact (ah _ _).drew);rintro e w2 ⟨t,rfl,k2,x,r2⟩;obtain ⟨q0,q1,q3,q4,q5⟩:=JC.out _ _ _ (Did.of_kept k2 y.out))
  | (go_at_call 216;refine (JT.out _ t k2 x r2).mono ?_;rintro e w4 ⟨v4,rfl,j⟩;obtain ⟨m4,o4,d4⟩:=JD.out _ _ _ j;obtain ⟨t0,t1,t3,t4,t5⟩:=JC.out _ _ _ d4))
 all_goals
  go_wp2_with fail;go_ret;exact ⟨_,rfl,j⟩

theorem sD (o:Tr) (ao bo xo:Option Addr) (n l K a b N1 xc E:Nat) (ms rs xs:List Nat) (w:World)
  (ht:TrRoom w o 2000) (hm:RowT w o (.slice ao n a) ms) (hr:RowT w o (.slice bo l b) rs) (hx:RowT w o (.slice xo N1 xc) xs) (v:Digs ms) (x:Digs rs) (s:Digs xs) (hK:K<18446744073709551616) (H:n≤300)
  (hE:E=0↔okMod ms K rs∧(N1=n∧val xs<val ms)) (A:E≤1) :
  Calls Tryz.prog 173 #[aD o,.agg #[.slice ao n a,.int .u64 (K:Nat),.slice bo l b],.slice xo N1 xc] w fun e w'=>∃ v',e=.returned (.tuple #[v',.int .i64 (E:Int)])∧Answered w o n E 1 (bC n) (jX n (val ms) (val xs)) w' v':=by
 have I:=eI;have he:∀ args w,(callFunc 213 args).run Tryz.prog w=.ok (.enter 213 args) w:=fun _ _=>by simp [go_sem]
 obtain ⟨po,y⟩:=aH o;obtain ⟨_,_,_,e1,C,_,_,_,_⟩:=hr.1.open;cases e1
 obtain ⟨W,hW⟩:∃ W,W=((w.alloc (.cells #[.pointer po] 127)).alloc (.cells #[.slice ao n a,.int .u64 (K:Nat),.slice bo l b] 130)).alloc (.cells #[.slice xo N1 xc] 32):=⟨_,rfl⟩
 have k0:Kept ae w W:=by rw [hW];exact (((ah ae w).alloc _).alloc _).alloc _
 have t:Box W w.heap.size (.pointer po) 127:=by rw [hW];exact ((Box.new w _ _).alloc _).alloc _
 have g:W.heap[w.heap.size+1]? = some (.cells #[.slice ao n a,.int .u64 (K:Nat),.slice bo l b] 130 (0,0)):=by
  rw [hW];refine am ?_;have:=heap_alloc_new (w.alloc (.cells #[.pointer po] 127)) (.cells #[.slice ao n a,.int .u64 (K:Nat),.slice bo l b] 130)
  rwa [show (w.alloc (.cells #[.pointer po] 127)).heap.size=w.heap.size+1 by simp] at this
 have z:Box W (w.heap.size+1+1) (.slice xo N1 xc) 32:=by
  rw [hW];have:=Box.new ((w.alloc (.cells #[.pointer po] 127)).alloc (.cells #[.slice ao n a,.int .u64 (K:Nat),.slice bo l b] 130)) (.slice xo N1 xc) 32
  rwa [show ((w.alloc (.cells #[.pointer po] 127)).alloc (.cells #[.slice ao n a,.int .u64 (K:Nat),.slice bo l b] 130)).heap.size=w.heap.size+1+1 by simp] at this
 obtain ⟨Wl,p⟩:∃ Wl,Wl=W.alloc (.cells #[.slice xo N1 xc] 32):=⟨_,rfl⟩
 have kl:Kept ae W Wl:=by rw [p];exact (ah ae W).alloc _
 have k:Wl.heap[W.heap.size]? = some (.cells #[.slice xo N1 xc] 32 (0,0)):=by rw [p];exact heap_alloc_new _ _
 have kk:=k0.trans kl;have c:=oC o ao bo (some ⟨W.heap.size,0,none⟩) n l K a b 1 1 213 #[.pointer (some ⟨w.heap.size,0,none⟩),.pointer (some ⟨w.heap.size+1,0,none⟩),.pointer (some ⟨w.heap.size+1+1,0,none⟩)]
  (fun _=>xo) (fun _=>N1) (fun _=>xc) (fun _=>xs) ms rs E 1999 (bC n) (jX n (val ms) (val xs)) Wl (by unfold bC;simp;omega)
  (ht.grew kk) (hm.grew kk) (hr.grew kk) v x hK (by omega) (by omega)
  (fun W' m o' d=>jz ((d.kept.block _ (lt_of_block k) (ax k (ht.grew kk).1 (by decide) (by decide))).trans k))
  (fun i hi=>hx.grew kk)
  (fun i hi=>s)
  he
  (fun hn W' m o' d j=>by
   have r:=(ht.grew kk).1;refine (vX o' ao bo xo n l K a b N1 xc w.heap.size (w.heap.size+1) (w.heap.size+1+1) ms rs xs W' (j.less (by omega)) ((hm.grew kk).did d) ((hx.grew kk).did d) ((hr.grew kk).did d) v x s C.out hK hn (by rw [d.ptr,y];exact (t.grew kl).did d r (by decide) (by decide)) ((d.kept.block _ (lt_of_block ((kl.block _ (lt_of_block g) (fun f=>f)).trans g)) (ax ((kl.block _ (lt_of_block g) (fun f=>f)).trans g) r (by decide) (by decide))).trans ((kl.block _ (lt_of_block g) (fun f=>f)).trans g)) ((z.grew kl).did d r (by decide) (by decide))).mono ?_;rintro e w' ⟨v',rfl,Y,o2,h1,h2,h3⟩
   exact ⟨v',rfl,Y,o2,h1,fun D q=>h2 D (q 0 (by omega)),h3⟩)
  (by
   rw [hE];exact and_congr_right fun _=>⟨fun h i hi=>h,fun h=>h 0 (by omega)⟩) A
 have HB:Hid (∀ w' v',Answered Wl o n E 1 (bC n) (jX n (val ms) (val xs)) w' v'→Answered w o n E 1 (bC n) (jX n (val ms) (val xs)) w' v'):=fun w' v' h=>h.after kk
 have B:W.heap.size=w.heap.size+1+1+1:=by rw [hW];simp
 rw [B] at c;have HW:=aa hW;have F:=aa p;have JM:=ay g;obtain ⟨c3,c4,c5⟩:=JM;have c0:=t.cell;have c1:=z.cell;rw [y] at c ⊢;clear ht hm hr hx v x s hK H hE A y k0 t g z hW p k kk kl he C B;generalize jX n (val ms) (val xs)=G at *;go_enter Tryz.func173,Tryz.ntmps173;go_wp2_with fail;rw [← HW.out,← F.out];refine c.mono ?_;rintro e w1 ⟨v1,rfl,h1⟩;have H1:=aa (HB.out _ _ h1);clear c h1 c0 c1 c3 c4 c5;go_wp2_with fail;go_ret2;exact ⟨_,rfl,H1.out⟩

theorem zC (o:Tr) (ao bo xo:Option Addr) (n l K a b N1 xc E:Nat) (ms rs xs:List Nat) (w:World)
  (ht:TrRoom w o 2000) (hm:RowT w o (.slice ao n a) ms) (hr:RowT w o (.slice bo l b) rs) (hx:RowT w o (.slice xo N1 xc) xs) (v:Digs ms) (x:Digs rs) (s:Digs xs) (hK:K<18446744073709551616) (H:n≤300)
  (hE:E=0↔okMod ms K rs∧(N1=n∧val xs<val ms)) (A:E≤1) :
  Calls Tryz.prog 210 #[aD o,.agg #[.slice ao n a,.int .u64 (K:Nat),.slice bo l b],.slice xo N1 xc] w fun e w'=>∃ v',e=.returned (.tuple #[v',.int .i64 (E:Int)])∧Answered w o n E 1 (List.replicate (n+2) (1,(n:Int),0)) (l9 n (val ms) (val xs)) w' v':=by
 have I:=eI;have he:∀ args w,(callFunc 240 args).run Tryz.prog w=.ok (.enter 240 args) w:=fun _ _=>by simp [go_sem]
 obtain ⟨po,y⟩:=aH o;obtain ⟨_,_,_,e1,C,_,_,_,_⟩:=hr.1.open;cases e1
 obtain ⟨W,hW⟩:∃ W,W=((w.alloc (.cells #[.pointer po] 127)).alloc (.cells #[.slice ao n a,.int .u64 (K:Nat),.slice bo l b] 130)).alloc (.cells #[.slice xo N1 xc] 32):=⟨_,rfl⟩
 have k0:Kept ae w W:=by rw [hW];exact (((ah ae w).alloc _).alloc _).alloc _
 have t:Box W w.heap.size (.pointer po) 127:=by rw [hW];exact ((Box.new w _ _).alloc _).alloc _
 have g:W.heap[w.heap.size+1]? = some (.cells #[.slice ao n a,.int .u64 (K:Nat),.slice bo l b] 130 (0,0)):=by
  rw [hW];refine am ?_;have:=heap_alloc_new (w.alloc (.cells #[.pointer po] 127)) (.cells #[.slice ao n a,.int .u64 (K:Nat),.slice bo l b] 130)
  rwa [show (w.alloc (.cells #[.pointer po] 127)).heap.size=w.heap.size+1 by simp] at this
 have z:Box W (w.heap.size+1+1) (.slice xo N1 xc) 32:=by
  rw [hW];have:=Box.new ((w.alloc (.cells #[.pointer po] 127)).alloc (.cells #[.slice ao n a,.int .u64 (K:Nat),.slice bo l b] 130)) (.slice xo N1 xc) 32
  rwa [show ((w.alloc (.cells #[.pointer po] 127)).alloc (.cells #[.slice ao n a,.int .u64 (K:Nat),.slice bo l b] 130)).heap.size=w.heap.size+1+1 by simp] at this
 obtain ⟨Wl,p⟩:∃ Wl,Wl=W.alloc (.cells #[.slice xo N1 xc] 32):=⟨_,rfl⟩
 have kl:Kept ae W Wl:=by rw [p];exact (ah ae W).alloc _
 have k:Wl.heap[W.heap.size]? = some (.cells #[.slice xo N1 xc] 32 (0,0)):=by rw [p];exact heap_alloc_new _ _
 have kk:=k0.trans kl;have c:=oC o ao bo (some ⟨W.heap.size,0,none⟩) n l K a b 1 1 240 #[.pointer (some ⟨w.heap.size,0,none⟩),.pointer (some ⟨w.heap.size+1,0,none⟩),.pointer (some ⟨w.heap.size+1+1,0,none⟩)]
  (fun _=>xo) (fun _=>N1) (fun _=>xc) (fun _=>xs) ms rs E 1999 (List.replicate (n+2) (1,(n:Int),0)) (l9 n (val ms) (val xs)) Wl (by simp;omega)
  (ht.grew kk) (hm.grew kk) (hr.grew kk) v x hK (by omega) (by omega)
  (fun W' m o' d=>jz ((d.kept.block _ (lt_of_block k) (ax k (ht.grew kk).1 (by decide) (by decide))).trans k))
  (fun i hi=>hx.grew kk)
  (fun i hi=>s)
  he
  (fun hn W' m o' d j=>by
   have r:=(ht.grew kk).1;refine (yd o' ao bo xo n l K a b N1 xc w.heap.size (w.heap.size+1) (w.heap.size+1+1) ms rs xs W' (j.less (by omega)) ((hm.grew kk).did d) ((hx.grew kk).did d) v x s C.out hK hn (by rw [d.ptr,y];exact (t.grew kl).did d r (by decide) (by decide)) ((d.kept.block _ (lt_of_block ((kl.block _ (lt_of_block g) (fun f=>f)).trans g)) (ax ((kl.block _ (lt_of_block g) (fun f=>f)).trans g) r (by decide) (by decide))).trans ((kl.block _ (lt_of_block g) (fun f=>f)).trans g)) ((z.grew kl).did d r (by decide) (by decide))).mono ?_;rintro e w' ⟨v',rfl,Y,o2,h1,h2,h3⟩
   exact ⟨v',rfl,Y,o2,h1,fun D q=>h2 D (q 0 (by omega)),h3⟩)
  (by
   rw [hE];exact and_congr_right fun _=>⟨fun h i hi=>h,fun h=>h 0 (by omega)⟩) A
 have HB:Hid (∀ w' v',Answered Wl o n E 1 (List.replicate (n+2) (1,(n:Int),0)) (l9 n (val ms) (val xs)) w' v'→Answered w o n E 1 (List.replicate (n+2) (1,(n:Int),0)) (l9 n (val ms) (val xs)) w' v'):=fun w' v' h=>h.after kk
 have B:W.heap.size=w.heap.size+1+1+1:=by rw [hW];simp
 rw [B] at c;have HW:=aa hW;have F:=aa p;have JM:=ay g;obtain ⟨c3,c4,c5⟩:=JM;have c0:=t.cell;have c1:=z.cell;rw [y] at c ⊢;clear ht hm hr hx v x s hK H hE A y k0 t g z hW p k kk kl he C B;generalize l9 n (val ms) (val xs)=G at *;go_enter Tryz.func210,Tryz.ntmps210;go_wp2_with fail;rw [← HW.out,← F.out];refine c.mono ?_;rintro e w1 ⟨v1,rfl,h1⟩;have H1:=aa (HB.out _ _ h1);clear c h1 c0 c1 c3 c4 c5;go_wp2_with fail;go_ret2;exact ⟨_,rfl,H1.out⟩

theorem Cc (ao bo:Option Addr) (n l K b a:Nat) (ms rs RL:List Nat) (w:World) (hm:Row .u64 w (.slice ao n b) ms) (hr:Row .u64 w (.slice bo l a) rs) (h:Digs ms) (i:Digs rs) (hK:K<18446744073709551616) (x:n≤300)
  (c:okMod ms K rs→RL=ag (2^(64*n)%val ms) n) (d:¬ okMod ms K rs→RL=[]) :
  Calls Tryz.prog 174 #[.agg #[.slice ao n b,.int .u64 (K:Nat),.slice bo l a]] w fun e w'=>∃ v',e=.returned v'∧Row .u64 w' v' RL∧Kept ae w w':=by
 obtain ⟨_,_,_,e1,o,_,_,_,_⟩:=hm.open;cases e1
 obtain ⟨_,_,_,e1,m,_,_,_,_⟩:=hr.open;cases e1
 obtain ⟨W,hW⟩:∃ W,W=w.alloc (.cells #[.slice ao n b,.int .u64 (K:Nat),.slice bo l a] 130):=⟨_,rfl⟩
 have k0:Kept ae w W:=by rw [hW];exact (ah ae w).alloc _
 have j:W.heap[w.heap.size]? = some (.cells #[.slice ao n b,.int .u64 (K:Nat),.slice bo l a] 130 (0,0)):=by rw [hW];exact heap_alloc_new _ _
 obtain ⟨p0,p1,p2⟩:=ay j;have HW:=aa hW;have p:=aa k0;by_cases hok:okMod ms K rs
 ·obtain ⟨f1,f2,f3,f4,f5,f6,f7⟩:=hok.facts o.out m.out h i hK;obtain ⟨N,hN⟩:∃ N,N=n+n:=⟨_,rfl⟩
  have hC:=iP ao bo n l K b a ms rs true (by simp [hok]) W (hm.grew k0) (hr.grew k0) h i hK (by omega);have JX:Hid (∀ W',Kept ae W W'→Calls Tryz.prog 215 #[.slice bo l a,.int .i64 (N:Int)] W' fun e w'=>∃ g,e=.returned (.slice (some ⟨g,0,none⟩) N N)∧Kept ae W w'∧W.heap.size≤g∧OwnN .u64 23 w' g (.slice (some ⟨g,0,none⟩) N N) N (ag (val rs) N)):=fun W' k=>by
   refine (qN (.slice bo l a) rs N W' (hr.grew (k0.trans k)) i (by omega)).mono ?_;rintro e w' ⟨rfl,ho,k'⟩;exact ⟨_,rfl,k.trans k',k.size,ho⟩
  have JT:Hid (∀ W' g,Kept ae W W'→W.heap.size≤g→OwnN .u64 23 W' g (.slice (some ⟨g,0,none⟩) N N) N (ag (val rs) N)→Calls Tryz.prog 216 #[.pointer none,.agg #[.slice ao n b,.int .u64 (K:Nat),.slice bo l a],.slice (some ⟨g,0,none⟩) N N] W' fun e w'=>∃ v',e=.returned v'∧Row .u64 w' v' RL∧Kept ae W w'):=fun W' g k hg ho=>by
   have:=j5 W none none [] g g N N n K b l a ao bo _ ms W' (Did.of_kept k trivial) (TrRoom.none _ _ (by simp;omega)) hg ho (af _ _ _) (ai (by omega) _ _) hN (by omega) (RowT.none (hm.grew k0)) h;refine this.mono ?_;rintro e w' ⟨v',rfl,Y,o',h1,h2,h3⟩;refine ⟨v',rfl,?_,h3.none.2⟩;have hp:18446744073709551616^n≤18446744073709551616^N:=Nat.pow_le_pow_right (by omega) (by omega);have q:val rs<val ms:=by rw [f7];exact Nat.mod_lt _ (by omega)
   rw [ak,al (Nat.lt_of_lt_of_le (Nat.lt_trans q f6) hp)] at h2;obtain ⟨y1,y2⟩:=h2 f1 f2 (Nat.lt_of_lt_of_le q (Nat.le_mul_of_pos_right _ (Nat.pow_pos (by omega))));rw [c hok];have r:Nat.Coprime (18446744073709551616^n) (val ms):=by rw [B64];exact (dL f5).symm
   have hY:Y=2^(64*n)%val ms:=by
    rw [← B64,← al y1];apply e8 r;rw [y2,f7,Nat.mod_mod,Nat.two_mul,Nat.pow_add]
   rw [← hY];exact aS h1 (af _ _ _)
  have JC:Hid (∀ W',Kept ae W W'→W'.cell? ⟨w.heap.size,0,none⟩=some (.slice ao n b)∧W'.cell? ⟨w.heap.size,1,none⟩=some (.int .u64 (K:Nat))∧W'.cell? ⟨w.heap.size,2,none⟩=some (.slice bo l a)):=fun W' k=>ay ((k.block _ (lt_of_block j) (fun f=>f)).trans j)
  have g2:IntKind.i64.wrap (2*(n:Int))=(N:Int):=by rw [IntKind.wrap_i64];omega
  clear hm hr h i hK c d hok o m hW k0 j f1 f2 f3 f4 f5 f6 f7 hN;go_enter Tryz.func174,Tryz.ntmps174;go_wp2_with (rw [← HW.out]);refine hC.mono ?_;rintro e w1 ⟨rfl,k1⟩;obtain ⟨q0,q1,q2⟩:=JC.out _ k1;have kd:Kept ae W w1.drew:=k1.drew;clear hC p0 p1 p2;go_wp2_with fail;go_region_held3 (fun w'=>w'.cell? ⟨w.heap.size,0,none⟩=some (.slice ao n b)∧w'.cell? ⟨w.heap.size,1,none⟩=some (.int .u64 (K:Int))∧w'.cell? ⟨w.heap.size,2,none⟩=some (.slice bo l a))
   (((try dsimp only);(repeat' apply And.intro) <;> first | (go_keep;done) | assumption))
   (first
   | (go_at_call 215;refine (JX.out _ kd).mono ?_;rintro e w2 ⟨g',rfl,k2,t,r2⟩;obtain ⟨s0,s1,s2⟩:=JC.out _ k2)
   | (go_at_call 216;refine (JT.out _ g' k2 t r2).mono ?_;rintro e w4 ⟨v4,rfl,v,k4⟩;obtain ⟨t0,t1,t2⟩:=JC.out _ k4))
  all_goals
   go_wp2_with fail;go_ret;exact ⟨_,rfl,v,p.out.trans k4⟩
 ·have hC:=iP ao bo n l K b a ms rs false (by simp [hok]) W (hm.grew k0) (hr.grew k0) h i hK (by omega);have s:=aa (d hok);clear hm hr h i hK c d o m hW k0 j;go_enter Tryz.func174,Tryz.ntmps174;go_wp2_with (rw [← HW.out]);refine hC.mono ?_;rintro e w1 ⟨rfl,k1⟩;go_wp2_with fail;go_ret;exact ⟨_,rfl,by rw [s.out];exact Row.nil _ _,p.out.trans k1⟩

end Go.Proofs.YtcemlfokmjjiaaaGreatDoor
