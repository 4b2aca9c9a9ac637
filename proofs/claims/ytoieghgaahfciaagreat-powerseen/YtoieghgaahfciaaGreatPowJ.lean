/- Package power: Exp, Table. -/
import Derived.Test.YtoieghgaahfciaaGreatPowI
import Derived.Test.YtoieghgaahfciaaGreatPowD
namespace Go.Proofs.YtoieghgaahfciaaGreat
open Go.RowKit

/-- What Exp's function writes down. -/
def expEv8 (n L : Nat) : List Ev := powEv8 n 14 ++ (rndEv8 n L (16 * L) ++ leaEv8 n)

theorem expEv8_len {n L : Nat} (h : n ≤ 130) (hL : L ≤ 300) : (expEv8 n L).length ≤ 60000000 := by
  have h1 := powEv8_len h 14
  have h2 := rndEv8_len h L (16 * L)
  have h3 := (ev8_len h).2.2
  unfold expEv8
  rw [List.length_append, List.length_append]
  omega

set_option maxRecDepth 20000 in
set_option maxHeartbeats 2000000 in
/-- What Exp asks for. -/
theorem wExp1 (o : Tr) (ao bo xo eo : Option Addr) (n l K mcap rcap xc L ecap X bT bE : Nat) (ms rs ys : List Nat) (w : World) (ht : TrRoom w o 61000000) (hM : Mod8 w o ao bo n l K mcap rcap ms rs) (hx : MonAt w (.slice xo n xc) n (val 18446744073709551616 ms) X)
    (he : RowT w o (.slice eo L ecap) ys) (hde : Digs 18446744073709551616 ys) (hL : L ≤ 300) (hT : Box w bT (trPtr o) 48) (hB : Box w bE (.slice eo L ecap) 23) :
    Calls Tryz.prog 25 #[.agg #[.slice ao n mcap, .int .u64 (K : Nat), .slice bo l rcap], .slice xo n xc, .pointer (some ⟨bT, 0, none⟩), .pointer (some ⟨bE, 0, none⟩)] w fun e w' => ∃ zo zc, e = .returned (.slice zo n zc) ∧ (Row .u64 w' (.slice zo n zc) (digs 18446744073709551616 (X ^ val 18446744073709551616 ys % val 18446744073709551616 ms) n) ∧ U64s w' (.slice zo n zc)) ∧ Fresh w (.slice zo n zc) ∧ ∃ o', Did w o (expEv8 n L) w' o' := by
  obtain ⟨⟨f0, f1⟩, f2, f3, f4, f5⟩ := hM.facts
  obtain ⟨po, hpo⟩ := trPtr_shape o
  obtain ⟨V, hV⟩ : ∃ V, V = val 18446744073709551616 ms := ⟨_, rfl⟩
  obtain ⟨RL, hRL⟩ : ∃ RL, RL = digs 18446744073709551616 (X ^ val 18446744073709551616 ys % val 18446744073709551616 ms) n := ⟨_, rfl⟩
  rw [← hRL]
  obtain ⟨W, hW⟩ : ∃ W, W = w.alloc (.cells #[.slice ao n mcap, .int .u64 (K : Nat), .slice bo l rcap] 26) := ⟨_, rfl⟩
  have k0 : Kept Nought w W := by rw [hW]; exact (Kept.refl Nought w).alloc _
  have hx0 : W.heap[w.heap.size]? = some (.cells #[.slice ao n mcap, .int .u64 (K : Nat), .slice bo l rcap] 26 (0, 0)) := by rw [hW]; exact heap_alloc_new _ _
  have hti := (ht.grew k0).1
  have JC : Hid (∀ W' m o', Did W o m W' o' → W'.cell? ⟨bT, 0, none⟩ = some (.pointer po) ∧ W'.cell? ⟨bE, 0, none⟩ = some (.slice eo L ecap) ∧ W'.cell? ⟨w.heap.size, 0, none⟩ = some (.slice ao n mcap) ∧ W'.cell? ⟨w.heap.size, 1, none⟩ = some (.int .u64 (K : Nat)) ∧ W'.cell? ⟨w.heap.size, 2, none⟩ = some (.slice bo l rcap)) := fun W' m o' d => by
    rw [← hpo]
    exact ⟨((hT.grew k0).did d hti (by decide) (by decide)).cell, ((hB.grew k0).did d hti (by decide) (by decide)).cell, cells3 ((d.kept.block _ (lt_of_block hx0) (cells_apart hx0 hti (by decide) (by decide))).trans hx0)⟩
  have JP : Hid (∀ W', Kept Nought W W' → Calls Tryz.prog 27 #[.pointer po, .agg #[.slice ao n mcap, .int .u64 (K : Nat), .slice bo l rcap], .slice xo n xc] W' fun e w' => ∃ g c, e = .returned (.slice (some ⟨g, 0, none⟩) 16 c) ∧ (∃ A C, Tab8 W' w' (.slice xo n xc) (.slice (some ⟨g, 0, none⟩) 16 c) n 16 A C (val 18446744073709551616 ms) X) ∧ ∃ o', Did W o (powEv8 n 14) w' o') := fun W' k => by
    have := wPowers o ao bo xo n l K mcap rcap xc X ms rs W' ((ht.grew (k0.trans k)).less (by omega)) (hM.grew (k0.trans k)) (hx.grew (k0.trans k))
    rw [hpo] at this
    refine this.mono ?_
    rintro e w' ⟨g, c, rfl, hA, o', d⟩
    exact ⟨g, c, rfl, hA, o', Did.after k d⟩
  have JR : Hid (∀ wT W' o' g c A C, Did W o (powEv8 n 14) W' o' → Tab8 wT W' (.slice xo n xc) (.slice (some ⟨g, 0, none⟩) 16 c) n 16 A C (val 18446744073709551616 ms) X → Calls Tryz.prog 26 #[.pointer po, .agg #[.slice ao n mcap, .int .u64 (K : Nat), .slice bo l rcap], .slice (some ⟨g, 0, none⟩) 16 c, .slice eo L ecap] W' fun e w' => ∃ zo zc, e = .returned (.slice zo n zc) ∧ (Row .u64 w' (.slice zo n zc) RL ∧ U64s w' (.slice zo n zc)) ∧ Fresh W' (.slice zo n zc) ∧ ∃ o2, Did W' o' (rndEv8 n L (16 * L) ++ leaEv8 n) w' o2) := fun wT W' o' g c A C d hTab => by
    have := wRaised o' ao bo eo n l K mcap rcap g c L ecap X A C ms rs ys (.slice xo n xc) wT W' (d.room ((ht.grew k0).less (by have := powEv8_len f1 14; omega))) ((hM.grew k0).did d) hTab ((he.grew k0).did d) hde hL
    rw [d.ptr, hpo, ← hRL] at this
    exact this
  obtain ⟨c0, c1, c2, c3, c4⟩ := JC.out _ _ _ (Did.of_kept (Kept.refl Nought W) hti)
  have HW := toHid hW
  have HK0 := toHid k0
  have HTI := toHid hti
  clear ht hM hx he hde hT hB hpo hV hRL hW k0 hx0 hti f0 f2 f3 f4 f5
  go_enter Tryz.func25, Tryz.ntmps25
  go_wp2_with (rw [← HW.out])
  go_region_held3 (fun w' => w'.cell? ⟨bT, 0, none⟩ = some (.pointer po) ∧ w'.cell? ⟨bE, 0, none⟩ = some (.slice eo L ecap) ∧ w'.cell? ⟨w.heap.size, 0, none⟩ = some (.slice ao n mcap) ∧ w'.cell? ⟨w.heap.size, 1, none⟩ = some (.int .u64 (K : Int)) ∧ w'.cell? ⟨w.heap.size, 2, none⟩ = some (.slice bo l rcap))
    (((try dsimp only); (repeat' apply And.intro) <;> first | (go_keep; done) | assumption))
    (first
    | (go_at_call 27; refine (JP.out _ ?_).mono ?_; (exact (Kept.refl _ _).drew); rintro e w2 ⟨g2, c2', rfl, ⟨A2, C2, hTab2⟩, o2, d2⟩; obtain ⟨q0, q1, q3, q4, q5⟩ := JC.out _ _ _ d2)
    | (go_at_call 26; refine (JR.out _ _ o2 g2 c2' A2 C2 d2 hTab2).mono ?_; rintro e w4 ⟨zo, zc, rfl, hR4, hF4, o4, d4⟩; obtain ⟨t0, t1, t3, t4, t5⟩ := JC.out _ _ _ (d2.trans d4)))
  all_goals
    have HD4 := toHid (Did.after HK0.out (d2.trans d4))
    have HF4 : Hid (Fresh w (.slice zo n zc)) := fun b hb => by have h1 := hF4 b hb; have h2 := d2.size; have h3 := HK0.out.size; omega
    have HR4 := toHid hR4
    clear hF4 hR4 d2 d4 hTab2 c0 c1 c2 c3 c4 q0 q1 q3 q4 q5 t0 t1 t3 t4 t5
    go_wp2_with fail
    go_ret
    exact ⟨_, _, rfl, HR4.out, HF4.out, o4, HD4.out⟩

set_option maxRecDepth 20000 in
set_option maxHeartbeats 2000000 in
/-- What Table asks for. -/
theorem wTab1 (o : Tr) (ao bo xo : Option Addr) (n l K mcap rcap xc X bT : Nat) (ms rs : List Nat) (w : World) (ht : TrRoom w o 61000000) (hM : Mod8 w o ao bo n l K mcap rcap ms rs) (hx : MonAt w (.slice xo n xc) n (val 18446744073709551616 ms) X) (hT : Box w bT (trPtr o) 48) :
    Calls Tryz.prog 31 #[.agg #[.slice ao n mcap, .int .u64 (K : Nat), .slice bo l rcap], .slice xo n xc, .pointer (some ⟨bT, 0, none⟩)] w fun e w' => ∃ g c, e = .returned (.slice (some ⟨g, 0, none⟩) 16 c) ∧ (∃ A C, Tab8 w w' (.slice xo n xc) (.slice (some ⟨g, 0, none⟩) 16 c) n 16 A C (val 18446744073709551616 ms) X) ∧ ∃ o', Did w o (powEv8 n 14) w' o' := by
  obtain ⟨po, hpo⟩ := trPtr_shape o
  obtain ⟨W, hW⟩ : ∃ W, W = w.alloc (.cells #[.slice ao n mcap, .int .u64 (K : Nat), .slice bo l rcap] 26) := ⟨_, rfl⟩
  have k0 : Kept Nought w W := by rw [hW]; exact (Kept.refl Nought w).alloc _
  have hx0 : W.heap[w.heap.size]? = some (.cells #[.slice ao n mcap, .int .u64 (K : Nat), .slice bo l rcap] 26 (0, 0)) := by rw [hW]; exact heap_alloc_new _ _
  have hP := wPowers o ao bo xo n l K mcap rcap xc X ms rs W ((ht.grew k0).less (by omega)) (hM.grew k0) (hx.grew k0)
  have cT := (hT.grew k0).cell
  obtain ⟨p0, p1, p2⟩ := cells3 hx0
  rw [hpo] at hP cT
  have HW := toHid hW
  have HK0 := toHid k0
  clear ht hM hx hT hpo hW k0 hx0
  go_enter Tryz.func31, Tryz.ntmps31
  go_wp2_with (rw [← HW.out])
  refine hP.mono ?_
  rintro e w1 ⟨g, c, rfl, ⟨A, C, hTab⟩, o1, d1⟩
  have HTb := toHid (hTab.after HK0.out)
  have HD := toHid (Did.after HK0.out d1)
  clear hP hTab d1 cT p0 p1 p2
  go_wp2_with fail
  go_ret
  exact ⟨_, _, rfl, ⟨A, C, HTb.out⟩, o1, HD.out⟩

end Go.Proofs.YtoieghgaahfciaaGreat
