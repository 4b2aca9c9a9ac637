/- Put together of: Siv3 Siv5 Pro3. -/
import Derived.Test.YtcemlfokmjjiaaaGreatDoorPf21
import Derived.Test.YtcemlfokmjjiaaaGreatDoorPf22
import Derived.Deep.OwnRows

namespace Go.Proofs.YtcemlfokmjjiaaaGreatDoor
set_option maxRecDepth 100000
set_option maxHeartbeats 4000000
open Go.RowKit Go.Shelf

attribute [local go_sem] Oper.semAt_some

theorem fG {W:World} {b l:Nat} {t:TypeId} {v:Value} (h:Boxed W b t v) (o:Obj) (a:b≠l):Boxed (W.putObj l o) b t v:=(World.putObj_heap_other (fun e=>a e)).trans h

theorem gX {w W:World} (k:Kept af w W) (l:Nat) (o:Obj) (hl:w.heap.size≤l):Kept af w (W.putObj l o):=k.next (dF W l o) (fun x hx e=>by
 have e':x=l:=e;omega)

theorem sU (ao:Option Addr) (L cap:Nat) (xs:List Nat) (p:Nat) (hp:1≤p) (b:p≤10000) (R:Bool) (hR:R=decide (val xs%p=0)) (w:World) (hu:Row .u64 w (.slice ao L cap) xs) (a:Digs xs) (hL:L≤1000000) :
  Calls Tryz.prog 162 #[.int .i64 (p:Nat),.slice ao L cap] w fun e w'=>e=.returned (.bool R)∧Kept af w w':=by
 obtain ⟨r,hr⟩:∃ r,r=val xs%p:=⟨_,rfl⟩
 have J:=um ao L cap xs p r 0 (by omega) (by rw [if_neg (by omega)];exact hr) (by rw [if_neg (by omega)]) w hu a hL;have gc:IntKind.u64.wrap (p:Int)=(p:Int):=by rw [IntKind.wrap_u64];omega
 rw [← hr] at hR;have HR:Hid (R=((r:Int) == 0)):=by
  unfold Hid;rw [hR];by_cases h:r=0
  ·subst h;rfl
  ·rw [aC h]
   symm
   simpa using h
 clear hR hr hu a hL;go_enter Tryz.func162,Tryz.ntmps162;go_wp2_with fail;refine J.mono ?_;rintro e w1 ⟨rfl,k1⟩;clear J;go_wp2_with fail;go_ret;exact ⟨by rw [HR.out];rfl,k1⟩

theorem xK {X m p:Nat} (hp:bg p) (hm:p≤m) (hd:X%p=0) (h:∀ q ∈ aV (p-1),X%q≠0):IsFac X m p:=
 .inr ⟨hp,hm,hd,fun q hq hlt=>h q (iQ.2 ⟨hq,by omega⟩)⟩

theorem uP {X m:Nat} (h:∀ q ∈ aV m,X%q≠0):IsFac X m 0:=.inl ⟨rfl,fun q hq a=>h q (iQ.2 ⟨hq,a⟩)⟩

structure BtwF (w W:World) (gx gr:Nat) (v:Value):Prop where
 xb:Boxed W gx 32 v
 rb:Boxed W gr 3 (.int .i64 0)
 old:Kept af w W

theorem BtwF.kept {S:Nat→Prop} {w W W':World} {gx gr:Nat} {v:Value} (b:BtwF w W gx gr v) (k:Kept S W W') (h0:¬ S gx) (h1:¬ S gr) (ho:∀ x,x<w.heap.size→¬ S x):BtwF w W' gx gr v:=
 ⟨aH b.xb k h0,aH b.rb k h1,b.old.next k (fun x hx e=>(ho x hx e).elim)⟩

theorem xm (ao:Option Addr) (L cap:Nat) (xs:List Nat) (N:Int) (w:World) (hu:Row .u64 w (.slice ao L cap) xs) (F:Digs xs) (hL:L≤1000000) :
  Calls Tryz.prog 117 #[.slice ao L cap,.int .i64 N] w fun e w'=>∃ R:Nat,e=.returned (.int .i64 (R:Int))∧IsFac (val xs) (gP N) R∧Kept af w w':=by
 obtain ⟨X,hX⟩:∃ X,X=val xs:=⟨_,rfl⟩
 have JD:Hid (∀ (p:Nat) (R:Bool) (W:World),1≤p→p≤10000→R=decide (X%p=0)→Kept af w W→Calls Tryz.prog 162 #[.int .i64 (p:Nat),.slice ao L cap] W fun e w'=>e=.returned (.bool R)∧Kept af W w'):=fun p R W h1 h2 h3 k=>sU ao L cap xs p h1 h2 R (by rw [← hX];exact h3) W (hu.grew k) F hL
 rw [← hX];obtain ⟨m,hm⟩:∃ m,m=gP N:=⟨_,rfl⟩
 have O:m≤10000:=by rw [hm];exact mu N
 clear hX hu F hL;refine (callsIn_wide (n:=9)).1 ?_;refine callsIn_of_wp_marks Tryz.func117 rfl trivial ?_ rfl;simp only [Tryz.ntmps117,List.size_toArray,List.length_cons,List.length_nil,Nat.reduceAdd,Nat.reduceSub,Array.replicate_succ,Array.replicate_zero,List.push_toArray,List.append_toArray,List.nil_append,List.cons_append];refine wpIn_wide.2 ?_;have bX:=(Boxed.new w 32 (.slice ao L cap)).alloc (.cells #[.int .i64 0] 3);have bR:=Boxed.new (w.alloc (.cells #[.slice ao L cap] 32)) 3 (.int .i64 0);have kA:Kept af w ((w.alloc (.cells #[.slice ao L cap] 32)).alloc (.cells #[.int .i64 0] 3)):=((ai af w).alloc _).alloc _
 have sA:((w.alloc (.cells #[.slice ao L cap] 32)).alloc (.cells #[.int .i64 0] 3)).heap.size=w.heap.size+2:=by simp
 simp only [World.size_alloc] at bR;have JP:=xi N ((w.alloc (.cells #[.slice ao L cap] 32)).alloc (.cells #[.int .i64 0] 3));rw [sA] at JP;go_wp2_with fail;refine JP.mono ?_;rintro e W2 ⟨rfl,b0,k2,s2⟩;have HB:Hid (BtwF w W2 w.heap.size (w.heap.size+1) (.slice ao L cap)):=⟨bC bX k2,bC bR k2,kA.trans k2⟩
 clear JP bX bR kA sA k2;obtain ⟨gx,v⟩:∃ gx,gx=w.heap.size:=⟨_,rfl⟩
 obtain ⟨gr,B⟩:∃ gr,gr=w.heap.size+1:=⟨_,rfl⟩
 obtain ⟨gl,r⟩:∃ gl,gl=w.heap.size+2:=⟨_,rfl⟩
 have HG:Hid (gx=w.heap.size∧gr=w.heap.size+1∧gl=w.heap.size+2∧W2.heap.size=w.heap.size+3):=⟨v,B,r,by omega⟩
 rw [← r] at b0 ⊢;rw [← B] at HB ⊢;rw [← v] at HB ⊢;have HM:=aa hm;clear v B r s2 hm;go_wp2_with fail;refine (wpIn_wide (n:=9)).1 ?_;refine j8 (n:=9) (by omega) (gf:=206) (lb:=#[.pointer (some ⟨gl,0,none⟩)]) rfl (enters_of Tryz.func206 (by kernel_rfl) rfl)
  (sH 8 (by omega) gl N W2 (fun b=>b=gr) b0 ?q0 ?q1) (fun _=>rfl) ?hSb ?hT (fun _ _ _ _ _ o' hx hl ho=>⟨hx.1,hx.2.1,hx.2.2.1,by rw [World.putObj_size];exact hx.2.2.2⟩)
  (fun y W=>Hid (∀ q ∈ y,X%q≠0)∧Hid (BtwF w W gx gr (.slice ao L cap))) (fun c _ W=>c=.ret∧∃ R:Nat,IsFac X m R∧Boxed W gr 3 (.int .i64 (R:Int))∧Kept af w W)
  ?low ?turn ?lowx ?lows ⟨fun q hq=>(by cases hq),HB.out⟩ ?act ?assign ?body ?done ?stop
 case q0=>have:=HG.out;omega
 case q1=>have:=HG.out;omega
 case hSb=>have:=HG.out;constructor <;> omega
 case hT=>constructor <;> omega
 case low=>
  rintro s A C ⟨h1,h2⟩ k;have:=HG.out;exact ⟨h1,h2.out.kept k (by omega) (by omega) (fun x hx=>by omega)⟩
 case turn=>
  rintro s A l o o' ⟨h1,h2⟩ hl hA ho;have:=HG.out;exact ⟨h1,fG h2.out.xb o' (by omega),fG h2.out.rb o' (by omega),gX h2.out.old l o' (by omega)⟩
 case lowx=>
  rintro c s A l o o' ⟨h1,R,h2,h3,h4⟩ hl hA ho;have:=HG.out;exact ⟨h1,R,h2,fG h3 o' (by omega),gX h4 l o' (by omega)⟩
 case lows=>
  rintro s A l o o' h1 hl hA ho;exact h1
 case assign=>
  intro l x W K hK
  gi_wp2
  exact hK
 case body=>
  rintro l y p W ⟨hK,hI⟩ ⟨a,hP,t,E⟩;have z:p≤m:=by rw [HM.out];exact t
  have M:=hP.1;have cx:=hI.out.xb.cell;by_cases hd:X%p=0
  ·have J:=JD.out p true W (by omega) (by omega) (by rw [aT hd]) hI.out.old;have HF:Hid (IsFac X m p):=xK hP z hd (by rw [← a];exact hK.out);clear hd hP a hK t E
   gi_wp2_with fail
   refine ⟨trivial,?_⟩;refine (CallsIn.inRound l (callsIn_wide.2 J)).mono ?_;rintro e w1 ⟨rfl,k1⟩;have I1:=hI.out.kept k1 (fun f=>f) (fun f=>f) (fun _ _ f=>f);have cr:=I1.rb.cell;have fr:=I1.rb.frozen;have I:Hid (Kept (fun b=>b=gr) W (w1.setCell ⟨gr,0,none⟩ (.int .i64 (p:Int)))):=(k1.any (S:=fun b=>b=gr)).setCell ⟨gr,0,none⟩ (fun _=>rfl) _;have i:Hid (Kept af w (w1.setCell ⟨gr,0,none⟩ (.int .i64 (p:Int)))):=cP I1.old ((ai (fun b=>b=gr) _).setCell ⟨gr,0,none⟩ (fun _=>rfl) _) (by have:=HG.out;omega);have g:Hid (Boxed (w1.setCell ⟨gr,0,none⟩ (.int .i64 (p:Int))) gr 3 (.int .i64 (p:Int))):=I1.rb.set (.int .i64 (p:Int));clear J hI I1 k1 cx
   gi_wp2_with fail
   exact ⟨I.out,rfl,p,HF.out,g.out,i.out⟩
  ·have J:=JD.out p false W (by omega) (by omega) (by rw [aC hd]) hI.out.old;have HN:Hid (∀ q ∈ y ++ [p],X%q≠0):=fun q hq=>by
    rcases List.mem_append.1 hq with h | h
    ·exact hK.out q h
    ·rw [List.mem_singleton] at h;subst h;exact hd
   clear hd hP a hK t E
   gi_wp2_with fail
   refine ⟨trivial,?_⟩;refine (CallsIn.inRound l (callsIn_wide.2 J)).mono ?_;rintro e w1 ⟨rfl,k1⟩;have I1:=aa (hI.out.kept k1 (fun f=>f) (fun f=>f) (fun _ _ f=>f));have H:=aa (k1.any (S:=fun b=>b=gr));clear J hI k1 cx
   gi_wp2_with fail
   exact ⟨H.out,HN,I1⟩
 case done=>
  rintro D s W hD hs ⟨hK,hI⟩ j;have hf:IsFac X m 0:=uP (by rw [HM.out,← (show s=aV (gP N) from hs)];exact hK.out);have HF:=aa hf;have cr:=hI.out.rb.cell;have fr:=hI.out.rb.frozen;have k3:Kept (fun b=>b=gr) W (W.setCell ⟨gr,0,none⟩ (.int .i64 0)):=(ai (fun b=>b=gr) _).setCell ⟨gr,0,none⟩ (fun _=>rfl) _;have d:=(k3.block D (lt_of_block j) (by have:=HG.out;omega)).trans j;have g:Hid (Boxed ((W.setCell ⟨gr,0,none⟩ (.int .i64 0)).putObj D (.deferred none)) gr 3 (.int .i64 0)):=fG (hI.out.rb.set (.int .i64 0)) _ (by have:=HG.out;omega)
  have i:Hid (Kept af w ((W.setCell ⟨gr,0,none⟩ (.int .i64 0)).putObj D (.deferred none))):=gX (cP hI.out.old k3 (by have:=HG.out;omega)) D _ (by have:=HG.out;omega);have G:=aa d;clear hf hK hI k3 d j HB b0 hs;go_wp2_with fail;refine ⟨by simp,.inl ⟨_,_,rfl,run_takeDeferred G.out,?_⟩⟩;have q1:=g.out.cell;rw [← HM.out];refine ⟨.int .i64 0,?_,0,rfl,HF.out,i.out⟩;simp [results,Tryz.f117,go_sem,q1]
 case stop=>
  rintro D c s W hD ⟨rfl,R,hf,hb,hk⟩ j;have HF:=aa hf;have g:Hid (Boxed (W.putObj D (.deferred none)) gr 3 (.int .i64 (R:Int))):=fG hb _ (by have:=HG.out;omega);have i:Hid (Kept af w (W.putObj D (.deferred none))):=gX hk D _ (by have:=HG.out;omega);clear hf hb hk
  gi_wp2
  refine ⟨by simp,.inl ⟨_,_,rfl,run_takeDeferred j,?_⟩⟩;have q1:=g.out.cell;rw [← HM.out];refine ⟨.int .i64 (R:Int),?_,R,rfl,HF.out,i.out⟩;simp [results,Tryz.f117,go_sem,q1]

open Go.RowKit

theorem tC {x:Nat} (hx:x<18446744073709551616):val (digs x (dg 1))=x:=by
 rw [show dg 1=1 from rfl,ak,Nat.pow_one,al hx]

theorem pO (ao:Option Addr) (L cap:Nat) (xs:List Nat) (R:Bool) (hR:R=true↔jP (val xs)) (w:World) (hu:Row .u64 w (.slice ao L cap) xs) (j:Digs xs) (hL:L≤1000000) :
  Calls Tryz.prog 77 #[.slice ao L cap] w fun e w'=>e=.returned (.bool R)∧Kept af w w':=by
 have JC:Hid (∀ (y:Nat) (u:Value) W,y<18446744073709551616→Kept af w W→Row .u64 W u (digs y (dg 1))→Calls Tryz.prog 116 #[.slice ao L cap,u] W fun e w'=>e=.returned (.int .i64 (aK (val xs) y))∧Kept af W w'):=fun y u W hy k hr=>by
  have:=gJ (.slice ao L cap) u xs _ W (hu.grew k) hr j (ah (by omega) y (dg 1));rw [tC hy] at this;exact this
 have JF:Hid (∀ W,Kept af w W→Calls Tryz.prog 117 #[.slice ao L cap,.int .i64 1000] W fun e w'=>∃ F:Nat,e=.returned (.int .i64 (F:Int))∧IsFac (val xs) 1000 F∧Kept af W w'):=fun W k=>xm ao L cap xs 1000 W (hu.grew k) j hL
 have HR:=aa hR;clear hR hu j hL;generalize val xs=X at *;have hW:=ll 1 (by omega) 1 w;go_enter Tryz.func77,Tryz.ntmps77;go_wp2_with fail;refine hW.mono ?_;rintro e w1 ⟨v1,rfl,g,k1⟩;have hC:=JC.out 1 v1 w1 (by omega) k1 g;have d:=aa k1;obtain ⟨xo,xn,xc,rfl,_⟩:=g.open;clear hW g k1;by_cases h2:2≤X
 ·rw [eu (show 1<X by omega)] at hC;go_wp2_with fail;refine hC.mono ?_;rintro e w2 ⟨rfl,k2⟩;have i:=aa (d.out.trans k2);have hF:=JF.out w2 i.out;clear hC k2 d;go_wp2_with fail;refine hF.mono ?_;rintro e w3 ⟨F,rfl,a,k3⟩;have m:=aa (i.out.trans k3);have p:=a.le;clear hF k3 i;by_cases hF0:F=0
  ·subst hF0;have HT:Hid (R=true):=HR.out.2 ⟨h2,0,a,.inl rfl⟩;clear a;go_wp2_with fail;go_ret;exact ⟨by rw [HT.out];rfl,m.out⟩
  ·have gF:¬ (F:Int)=0:=by omega
   have gc:IntKind.u64.wrap (F:Int)=(F:Int):=by rw [IntKind.wrap_u64];omega
   have n:=ll F (by omega) 1 w3;have b:=aa a;clear a;go_wp2_with fail;refine n.mono ?_;rintro e w4 ⟨v4,rfl,l,k4⟩;have f:=aa (m.out.trans k4);have c:=JC.out F v4 w4 (by omega) f.out l;obtain ⟨yo,yn,yc,rfl,_⟩:=l.open;clear n l k4;by_cases hXF:X=F
   ·have HT:Hid (R=true):=HR.out.2 ⟨h2,F,b.out,.inr hXF⟩;rw [eC hXF] at c;clear hXF;go_wp2_with fail;refine c.mono ?_;rintro e w6 ⟨rfl,k6⟩;go_wp2_with fail;go_ret;exact ⟨by rw [HT.out];rfl,f.out.trans k6⟩
   ·have HT:Hid (R=false):=by
     unfold Hid;cases h:R with
     | false=>rfl
     | true=>
      obtain ⟨_,G,hG,o⟩:=HR.out.1 h;have:=hG.uniq b.out;subst this;rcases o with h3 | h3
      ·exact absurd h3 hF0
      ·exact absurd h3 hXF
    have q:=lU hXF;generalize aK X F=cd at *;clear hXF;go_wp2_with fail;refine c.mono ?_;rintro e w6 ⟨rfl,k6⟩;go_wp2_with fail;go_ret;exact ⟨by rw [HT.out];show Ending.returned (Value.bool ((F:Int) == 0 || cd == 0))=_;rw [show ((F:Int) == 0)=false by simp;omega,show (cd == 0)=false by simpa using q];rfl,f.out.trans k6⟩
 ·have HT:Hid (R=false):=by
   unfold Hid;cases h:R with
   | false=>rfl
   | true=>exact absurd (HR.out.1 h).1 h2
  have g1:aK X 1≤0:=by
   unfold aK
   split
   ·omega
   ·split <;> omega
  generalize aK X 1=cd at *;go_wp2_with fail;refine hC.mono ?_;rintro e w2 ⟨rfl,k2⟩;go_wp2_with fail;go_ret;exact ⟨by rw [HT.out];rfl,d.out.trans k2⟩

theorem nV (n:Nat):madeCells #[Value.int .u64 0] n=((List.replicate n 0).map fun z:Nat=>Value.int .u64 (z:Int)).toArray:=by
 have:=aG .u64 n;rw [Nat.mul_one] at this;rw [← this];rfl

theorem mX (w:World) (A B:Nat) (CA CB:Array Value) (hA:CA=madeCells #[.int .u64 0] A) (hB:CB=madeCells #[.int .u64 0] B) (lA:A≤1000000) (lB:B≤1000000) :
  OwnN .u64 23 ((w.alloc (.cells CA 23)).alloc (.cells CB 23)).drew w.heap.size (.slice (some ⟨w.heap.size,0,none⟩) A A) A (List.replicate A 0)∧OwnN .u64 23 ((w.alloc (.cells CA 23)).alloc (.cells CB 23)).drew w.heap.size (.slice (some ⟨w.heap.size+1,0,none⟩) B B) B (List.replicate B 0)∧Kept af w ((w.alloc (.cells CA 23)).alloc (.cells CB 23)).drew:=by
 subst hA hB;rw [nV,nV];refine ⟨cl (aQ (ap (heap_alloc_new _ _))) (by simp) (by unfold maxLen;omega) (leR _),cl (aQ ?_) (by simp) (by unfold maxLen;omega) (by omega),(((ai af w).alloc _).alloc _).drew⟩;have:=heap_alloc_new (w.alloc (.cells ((List.replicate A 0).map fun z:Nat=>Value.int .u64 (z:Int)).toArray 23)) (.cells ((List.replicate B 0).map fun z:Nat=>Value.int .u64 (z:Int)).toArray 23);simpa using this

end Go.Proofs.YtcemlfokmjjiaaaGreatDoor
