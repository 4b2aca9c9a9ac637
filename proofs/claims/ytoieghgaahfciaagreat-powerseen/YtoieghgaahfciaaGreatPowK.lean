/- Package power: Exp and Table, whole. -/
import Derived.Test.YtoieghgaahfciaaGreatPowJ
namespace Go.Proofs.YtoieghgaahfciaaGreat
open Go.RowKit

/-- A number that lies at or beyond b0. -/
def NumAns (R : Nat → Nat → List Nat) (n b0 V X : Nat) (W : World) (v : Value) : Prop := (∃ zo zc, v = .slice zo n zc) ∧ Row .u64 W v (R V X) ∧ U64s W v ∧ ∀ b, v.ownBlock = some b → b0 ≤ b

/-- Sixteen powers that lie at or beyond b0. -/
def TabAns (n b0 V X : Nat) (W : World) (v : Value) : Prop := ∃ (g c : Nat) (A : Nat → Option Addr) (C : Nat → Nat), v = .slice (some ⟨g, 0, none⟩) 16 c ∧ W.ownsRow b0 23 1 v 16 ((List.range 16).map fun j => .slice (A j) n (C j)) ∧ ∀ j, j < 16 → MonAt W (.slice (A j) n (C j)) n V (X ^ j) ∧ ∀ b, (Value.slice (A j) n (C j)).ownBlock = some b → b0 ≤ b

set_option maxRecDepth 40000 in
set_option maxHeartbeats 4000000 in
/-- Exp. -/
theorem wExp (o : Tr) (ao bo xo eo : Option Addr) (n l K mcap rcap N1 xc L ecap : Nat) (ms rs xs ys : List Nat) (E : Nat) (w : World)
    (ht : TrRoom w o 70000000) (hm : RowT w o (.slice ao n mcap) ms) (hr : RowT w o (.slice bo l rcap) rs) (hx : RowT w o (.slice xo N1 xc) xs) (hy : RowT w o (.slice eo L ecap) ys) (hmd : Digs 18446744073709551616 ms) (hrd : Digs 18446744073709551616 rs) (hdx : Digs 18446744073709551616 xs) (hdy : Digs 18446744073709551616 ys) (hK : K < 18446744073709551616) (hnb : n ≤ 300)
    (hE : E = 0 ↔ okMod ms K rs ∧ (N1 = n ∧ val 18446744073709551616 xs < val 18446744073709551616 ms)) (hE1 : E ≤ 1) :
    Calls Tryz.prog 9 #[trPtr o, .agg #[.slice ao n mcap, .int .u64 (K : Nat), .slice bo l rcap], .slice xo N1 xc, .slice eo L ecap] w fun e w' => ∃ (zo : Option Addr) (zn zc c : Nat), e = .returned (.tuple #[.slice zo zn zc, .int .i64 (c : Int)]) ∧
      ((E = 0 ∧ L ≤ 300 ∧ c = 0 ∧ (Row .u64 w' (.slice zo zn zc) (digs 18446744073709551616 (val 18446744073709551616 xs ^ val 18446744073709551616 ys % val 18446744073709551616 ms) n) ∧ U64s w' (.slice zo zn zc)) ∧ ∃ o', Did w o (entEv8 n ++ expEv8 n L) w' o') ∨
      (((E = 1 ∧ c = 1) ∨ (E = 0 ∧ 300 < L ∧ c = 2)) ∧ Value.slice zo zn zc = .slice none 0 0 ∧ ∃ m o', Did w o m w' o')) := by
  have hmf : ∀ (fn : Fn) (first cap : Array Value) (w : World), (Instr.makeFunc fn first cap).run Tryz.prog w = .ok (.func fn first cap) w := fun _ _ _ _ => rfl
  have he : ∀ args w, (callFunc 25 args).run Tryz.prog w = .ok (.enter 25 args) w := fun _ _ => by simp [go_sem]
  obtain ⟨po, hpo⟩ := trPtr_shape o
  obtain ⟨W, hW⟩ : ∃ W, W = ((w.alloc (.cells #[.pointer po] 48)).alloc (.cells #[.slice ao n mcap, .int .u64 (K : Nat), .slice bo l rcap] 26)).alloc (.cells #[.slice eo L ecap] 23) := ⟨_, rfl⟩
  have k0 : Kept Nought w W := by rw [hW]; exact (((Kept.refl Nought w).alloc _).alloc _).alloc _
  have hT0 : Box W w.heap.size (.pointer po) 48 := by rw [hW]; exact ((Box.new w _ _).alloc _).alloc _
  have hM0 : W.heap[w.heap.size + 1]? = some (.cells #[.slice ao n mcap, .int .u64 (K : Nat), .slice bo l rcap] 26 (0, 0)) := by
    rw [hW]
    refine heapAt_alloc ?_
    have := heap_alloc_new (w.alloc (.cells #[.pointer po] 48)) (.cells #[.slice ao n mcap, .int .u64 (K : Nat), .slice bo l rcap] 26)
    rwa [show (w.alloc (.cells #[.pointer po] 48)).heap.size = w.heap.size + 1 by simp] at this
  have hB0 : Box W (w.heap.size + 1 + 1) (.slice eo L ecap) 23 := by
    rw [hW]
    have := Box.new ((w.alloc (.cells #[.pointer po] 48)).alloc (.cells #[.slice ao n mcap, .int .u64 (K : Nat), .slice bo l rcap] 26)) (.slice eo L ecap) 23
    rwa [show ((w.alloc (.cells #[.pointer po] 48)).alloc (.cells #[.slice ao n mcap, .int .u64 (K : Nat), .slice bo l rcap] 26)).heap.size = w.heap.size + 1 + 1 by simp] at this
  have hti := (ht.grew k0).1
  have hAsk := wAskedN o ao bo xo eo n l K mcap rcap N1 xc L ecap 25 #[.pointer (some ⟨w.heap.size, 0, none⟩), .pointer (some ⟨w.heap.size + 1 + 1, 0, none⟩)] ms rs xs E 61000000 (if n ≤ 130 ∧ L ≤ 300 then expEv8 n L else []) (NumAns (fun V X => digs 18446744073709551616 (X ^ val 18446744073709551616 ys % V) n) n) W (by
      by_cases h : n ≤ 130 ∧ L ≤ 300
      · rw [if_pos h]
        have := expEv8_len h.1 h.2
        omega
      · rw [if_neg h]
        simp)
    ((ht.grew k0).less (by omega)) (hm.grew k0) (hr.grew k0) (hx.grew k0) hmd hrd hdx hK hnb he
    (fun wc kc W' m o' ao' bo' yo' l' K' mc' rc' yc' ms' rs' X d r M A F hsz hL => by
      have hn := M.facts.1.2
      rw [if_pos ⟨hn, hL⟩]
      refine (wExp1 o' ao' bo' yo' eo n l' K' mc' rc' yc' L ecap X w.heap.size (w.heap.size + 1 + 1) ms' rs' ys W' r M A ((hy.grew k0).did d) hdy hL (by rw [d.ptr, hpo]; exact hT0.did d hti (by decide) (by decide)) (hB0.did d hti (by decide) (by decide))).mono ?_
      rintro e w' ⟨zo, zc, rfl, h1, h2, h3⟩
      exact ⟨zo, n, zc, rfl, ⟨⟨zo, zc, rfl⟩, h1.1, h1.2, fun b hb => Nat.le_trans hsz (h2 b hb)⟩, h3⟩)
    (fun b0 V X W1 W2 v g k => ⟨g.1, g.2.1.kept k (fun b hb e => by have := g.2.2.2 b hb; omega), g.2.2.1.kept k (fun b hb e => by have := g.2.2.2 b hb; omega), g.2.2.2⟩) hE hE1
  have HN : Hid (E = 0 → n ≤ 130) := fun h => by
    obtain ⟨h1, _⟩ := hE.1 h
    exact (Mod8.facts (⟨hm, hr, hmd, hrd, hK, h1⟩ : Mod8 w o ao bo n l K mcap rcap ms rs)).1.2
  have HW := toHid hW
  have HK0 := toHid k0
  have c0 := hT0.cell
  have c1 := hB0.cell
  obtain ⟨c2, c3, c4⟩ := cells3 hM0
  rw [hpo] at hAsk ⊢
  clear ht hm hr hx hy hmd hrd hdx hdy hK hnb hE hE1 hpo k0 hT0 hM0 hB0 hW he hti
  go_enter Tryz.func9, Tryz.ntmps9
  go_wp2_with fail
  rw [← HW.out]
  refine hAsk.mono ?_
  rintro e w1 ⟨zo, zn, zc, c, rfl, h1⟩
  have H1 := toHid h1
  clear hAsk h1 c0 c1 c2 c3 c4
  go_wp2_with fail
  go_ret2
  refine ⟨zo, zn, zc, c, rfl, ?_⟩
  rcases H1.out with ⟨e0, hL, rfl, ⟨b0, _, hA⟩, o', d⟩ | ⟨h2, h3, m, o', d⟩
  · rw [if_pos ⟨HN.out e0, hL⟩] at d
    exact .inl ⟨e0, hL, rfl, ⟨hA.2.1, hA.2.2.1⟩, o', Did.after HK0.out d⟩
  · exact .inr ⟨h2, h3, m, o', Did.after HK0.out d⟩

set_option maxRecDepth 40000 in
set_option maxHeartbeats 4000000 in
/-- Table. -/
theorem wTable (o : Tr) (ao bo xo : Option Addr) (n l K mcap rcap N1 xc : Nat) (ms rs xs : List Nat) (E : Nat) (w : World)
    (ht : TrRoom w o 70000000) (hm : RowT w o (.slice ao n mcap) ms) (hr : RowT w o (.slice bo l rcap) rs) (hx : RowT w o (.slice xo N1 xc) xs) (hmd : Digs 18446744073709551616 ms) (hrd : Digs 18446744073709551616 rs) (hdx : Digs 18446744073709551616 xs) (hK : K < 18446744073709551616) (hnb : n ≤ 300)
    (hE : E = 0 ↔ okMod ms K rs ∧ (N1 = n ∧ val 18446744073709551616 xs < val 18446744073709551616 ms)) (hE1 : E ≤ 1) :
    Calls Tryz.prog 12 #[trPtr o, .agg #[.slice ao n mcap, .int .u64 (K : Nat), .slice bo l rcap], .slice xo N1 xc] w fun e w' => ∃ (zo : Option Addr) (zn zc : Nat), e = .returned (.tuple #[.slice zo zn zc, .int .i64 (E : Int)]) ∧
      ((E = 0 ∧ (∃ b0, w.heap.size ≤ b0 ∧ TabAns n b0 (val 18446744073709551616 ms) (val 18446744073709551616 xs) w' (.slice zo zn zc)) ∧ ∃ o', Did w o (entEv8 n ++ powEv8 n 14) w' o') ∨
      (E = 1 ∧ Value.slice zo zn zc = .slice none 0 0 ∧ ∃ m o', Did w o m w' o')) := by
  have hmf : ∀ (fn : Fn) (first cap : Array Value) (w : World), (Instr.makeFunc fn first cap).run Tryz.prog w = .ok (.func fn first cap) w := fun _ _ _ _ => rfl
  have he : ∀ args w, (callFunc 31 args).run Tryz.prog w = .ok (.enter 31 args) w := fun _ _ => by simp [go_sem]
  obtain ⟨po, hpo⟩ := trPtr_shape o
  obtain ⟨W, hW⟩ : ∃ W, W = (w.alloc (.cells #[.pointer po] 48)).alloc (.cells #[.slice ao n mcap, .int .u64 (K : Nat), .slice bo l rcap] 26) := ⟨_, rfl⟩
  have k0 : Kept Nought w W := by rw [hW]; exact ((Kept.refl Nought w).alloc _).alloc _
  have hT0 : Box W w.heap.size (.pointer po) 48 := by rw [hW]; exact (Box.new w _ _).alloc _
  have hM0 : W.heap[w.heap.size + 1]? = some (.cells #[.slice ao n mcap, .int .u64 (K : Nat), .slice bo l rcap] 26 (0, 0)) := by
    rw [hW]
    have := heap_alloc_new (w.alloc (.cells #[.pointer po] 48)) (.cells #[.slice ao n mcap, .int .u64 (K : Nat), .slice bo l rcap] 26)
    rwa [show (w.alloc (.cells #[.pointer po] 48)).heap.size = w.heap.size + 1 by simp] at this
  have hti := (ht.grew k0).1
  have hAsk := wAskedL o ao bo xo none n l K mcap rcap N1 xc 0 0 31 #[.pointer (some ⟨w.heap.size, 0, none⟩)] ms rs xs E 61000000 (if n ≤ 130 then powEv8 n 14 else []) (TabAns n) W (by
      by_cases h : n ≤ 130
      · rw [if_pos h]
        have := powEv8_len h 14
        omega
      · rw [if_neg h]
        simp)
    ((ht.grew k0).less (by omega)) (hm.grew k0) (hr.grew k0) (hx.grew k0) hmd hrd hdx hK hnb he
    (fun wc kc W' m o' ao' bo' yo' l' K' mc' rc' yc' ms' rs' X d r M A F hsz _ => by
      have hn := M.facts.1.2
      rw [if_pos hn]
      refine (wTab1 o' ao' bo' yo' n l' K' mc' rc' yc' X w.heap.size ms' rs' W' r M A (by rw [d.ptr, hpo]; exact hT0.did d hti (by decide) (by decide))).mono ?_
      rintro e w' ⟨g, c, rfl, ⟨A2, C2, hTab⟩, h3⟩
      refine ⟨some ⟨g, 0, none⟩, 16, c, rfl, ⟨g, c, A2, C2, rfl, own_base hTab.1 (fun b e => Nat.le_trans hsz (World.ownsRow.lt hTab.1 b e).1), fun j hj => ⟨(hTab.2 j hj).1, fun b hb => ?_⟩⟩, h3⟩
      rcases (hTab.2 j hj).2 with h | h
      · exact Nat.le_trans hsz (h b hb)
      · rw [h] at hb
        exact F b hb)
    (fun b0 V X W1 W2 v g k => by
      obtain ⟨g1, c1, A1, C1, rfl, h1, h2⟩ := g
      exact ⟨g1, c1, A1, C1, rfl, k.own h1 (fun b hb e => by have := (World.ownsRow.lt h1 b hb).1; omega), fun j hj => ⟨(h2 j hj).1.kept k (fun b hb e => by have := (h2 j hj).2 b hb; omega), (h2 j hj).2⟩⟩) hE hE1
  have HN : Hid (E = 0 → n ≤ 130) := fun h => by
    obtain ⟨h1, _⟩ := hE.1 h
    exact (Mod8.facts (⟨hm, hr, hmd, hrd, hK, h1⟩ : Mod8 w o ao bo n l K mcap rcap ms rs)).1.2
  have HW := toHid hW
  have HK0 := toHid k0
  have c0 := hT0.cell
  obtain ⟨c2, c3, c4⟩ := cells3 hM0
  rw [hpo] at hAsk ⊢
  clear ht hm hr hx hmd hrd hdx hK hnb hE hE1 hpo k0 hT0 hM0 hW he hti
  go_enter Tryz.func12, Tryz.ntmps12
  go_wp2_with fail
  rw [← HW.out]
  refine hAsk.mono ?_
  rintro e w1 ⟨zo, zn, zc, c, rfl, h1⟩
  have H1 := toHid h1
  clear hAsk h1 c0 c2 c3 c4
  go_wp2_with fail
  go_ret2
  rcases H1.out with ⟨e0, _, rfl, ⟨b0, hb, hA⟩, o', d⟩ | ⟨h2, h3, m, o', d⟩
  · rw [if_pos (HN.out e0)] at d
    subst e0
    exact ⟨zo, zn, zc, rfl, .inl ⟨rfl, ⟨b0, Nat.le_trans HK0.out.size hb, hA⟩, o', Did.after HK0.out d⟩⟩
  · rcases h2 with ⟨rfl, rfl⟩ | ⟨_, h4, _⟩
    · exact ⟨zo, zn, zc, rfl, .inr ⟨rfl, h3, m, o', Did.after HK0.out d⟩⟩
    · exact absurd h4 (by omega)

end Go.Proofs.YtoieghgaahfciaaGreat
