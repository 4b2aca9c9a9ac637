/- Package mont: isMember. -/
import Derived.Test.YtpgccioblgcjaaaMonD
namespace Go.Proofs.Ytpgccioblgcjaaa
open Go.RowKit

/-- Whether a number is a member, as a word. -/
def memN (l n X V : Nat) : Nat := if l = n ∧ X < V then 1 else 0

set_option maxRecDepth 20000 in
set_option maxHeartbeats 2000000 in
/-- isMember. -/
theorem mMember (o : Tr) (ao bo xo : Option Addr) (n l mcap rl rcap xc : Nat) (K : Int) (ms xs : List Nat) (w : World) (ht : TrRoom w o 1) (hm : RowT w o (.slice ao n mcap) ms) (hx : RowT w o (.slice xo l xc) xs) (hdm : Digs 18446744073709551616 ms) (hdx : Digs 18446744073709551616 xs) (hn : n ≤ 100000) (P : Nat) (hP : P = memN l n (val 18446744073709551616 xs) (val 18446744073709551616 ms)) :
    Calls Try.prog 75 #[trPtr o, .agg #[.slice ao n mcap, .int .u64 K, .slice bo rl rcap], .slice xo l xc] w fun e w' => e = .returned (.int .u64 (P : Int)) ∧ ∃ o', Did w o [(1, (n : Int), 0)] w' o' := by
  obtain ⟨_, _, _, e1, hLm, _, _, _, _⟩ := hm.1.open
  cases e1
  obtain ⟨_, _, _, e1, hLx, _, _, _, _⟩ := hx.1.open
  cases e1
  obtain ⟨W, hW⟩ : ∃ W, W = w.alloc (.cells #[.slice ao n mcap, .int .u64 K, .slice bo rl rcap] 28) := ⟨_, rfl⟩
  have k0 : Kept Nought w W := by rw [hW]; exact (Kept.refl Nought w).alloc _
  have hx0 : W.heap[w.heap.size]? = some (.cells #[.slice ao n mcap, .int .u64 K, .slice bo rl rcap] 28 (0, 0)) := by rw [hW]; exact heap_alloc_new _ _
  obtain ⟨tp, htp⟩ : ∃ tp, tp = trPtr o := ⟨_, rfl⟩
  have JF : Hid (∀ W', Kept Nought W W' → Calls Try.prog 51 #[.slice xo l xc, .int .i64 (n : Int)] W' fun e w' => e = .returned (.slice (some ⟨W'.heap.size, 0, none⟩) n n) ∧ Row .u64 w' (.slice (some ⟨W'.heap.size, 0, none⟩) n n) (digs 18446744073709551616 (val 18446744073709551616 xs) n) ∧ RowT w' o (.slice (some ⟨W'.heap.size, 0, none⟩) n n) (digs 18446744073709551616 (val 18446744073709551616 xs) n) ∧ Kept Nought W w') := fun W' k => by
    refine (mFit (.slice xo l xc) xs n W' (hx.1.grew (k0.trans k)) hdx (by omega)).mono ?_
    rintro e w' ⟨rfl, ho, k'⟩
    exact ⟨rfl, own_row' ho (digs_length _ _ _), own_rowT ho (digs_length _ _ _) (ht.grew ((k0.trans k).trans k')).1, k.trans k'⟩
  obtain ⟨Q, hQ⟩ : ∃ Q, Q = oneN (decide (val 18446744073709551616 xs % 18446744073709551616 ^ n < val 18446744073709551616 ms)) := ⟨_, rfl⟩
  have JL : Hid (∀ W' g, Kept Nought W W' → RowT W' o (.slice (some ⟨g, 0, none⟩) n n) (digs 18446744073709551616 (val 18446744073709551616 xs) n) → Calls Try.prog 72 #[tp, .slice (some ⟨g, 0, none⟩) n n, .slice ao n mcap] W' fun e w' => e = .returned (.int .u64 (Q : Int)) ∧ ∃ o', Did W o [(1, (n : Int), 0)] w' o') := fun W' g k hr => by
    have := lLess o _ _ _ ms W' (ht.grew (k0.trans k)) hr (hm.grew (k0.trans k)) (digs_digs (by omega) _ _) hdm (by rw [digs_length]; omega) (by rw [hLm.out]; omega)
    rw [digs_length, hLm.out, Nat.max_self, val_digs, ← hQ, ← htp] at this
    refine this.mono ?_
    rintro e w' ⟨rfl, o', d⟩
    exact ⟨rfl, o', Did.after k d⟩
  have JC : Hid (∀ W' m o', Did W o m W' o' → W'.cell? ⟨w.heap.size, 0, none⟩ = some (.slice ao n mcap)) := fun W' m o' d => (cells3 ((d.kept.block _ (lt_of_block hx0) (cells_apart hx0 (ht.grew k0).1 (by decide) (by decide))).trans hx0)).1
  have HQ : Hid (l = n → Q = P) := fun h => by
    rw [hQ, hP, Nat.mod_eq_of_lt (by rw [← h, ← hLx.out]; exact val_lt (by omega) hdx)]
    unfold oneN memN
    by_cases h2 : val 18446744073709551616 xs < val 18446744073709551616 ms
    · rw [decide_eq_true h2, if_pos rfl, if_pos ⟨h, h2⟩]
    · rw [decide_eq_false h2, if_neg (by decide), if_neg (fun h => h2 h.2)]
  have HP : Hid (¬ l = n → P = 0) := fun h => by
    rw [hP]
    exact if_neg (fun h' => h h'.1)
  obtain ⟨p0, p1, p2⟩ := cells3 hx0
  have HW := toHid hW
  have HK0 := toHid k0
  have HTI := toHid (ht.grew k0).1
  rw [← htp]
  clear hW k0 hx0 htp hm hx hdm hdx ht hLm hLx hQ hP
  by_cases h : l = n
  · have hPQ := HQ.out h
    subst h
    subst hPQ
    go_enter Try.func75, Try.ntmps75
    go_wp2_with fail
    rw [← HW.out]
    go_region_held3 (fun w' => w'.cell? ⟨w.heap.size, 0, none⟩ = some (.slice ao l mcap))
      (((try dsimp only); first | (go_keep; done) | assumption))
      (first
      | (go_at_call 51; refine (JF.out _ ?_).mono ?_; (exact (Kept.refl _ _).drew); rintro e w2 ⟨rfl, hr2, ht2, k2⟩; have q0 := k2.cellN p0)
      | (go_at_call 72; refine (JL.out _ _ k2 ht2).mono ?_; rintro e w3 ⟨rfl, o3, d3⟩; have r0 := JC.out _ _ _ d3))
    all_goals
      go_wp2_with fail
      go_ret
      exact ⟨rfl, o3, Did.after HK0.out d3⟩
  · have hP0 := HP.out h
    subst hP0
    have h' : ¬ (l : Int) = (n : Int) := by omega
    go_enter Try.func75, Try.ntmps75
    go_wp2_with fail
    rw [← HW.out]
    go_region_held3 (fun w' => w'.cell? ⟨w.heap.size, 0, none⟩ = some (.slice ao n mcap))
      (((try dsimp only); first | (go_keep; done) | assumption))
      (first
      | (go_at_call 51; refine (JF.out _ ?_).mono ?_; (exact (Kept.refl _ _).drew); rintro e w2 ⟨rfl, hr2, ht2, k2⟩; have q0 := k2.cellN p0)
      | (go_at_call 72; refine (JL.out _ _ k2 ht2).mono ?_; rintro e w3 ⟨rfl, o3, d3⟩; have r0 := JC.out _ _ _ d3))
    all_goals
      go_wp2_with fail
      go_ret
      exact ⟨rfl, o3, Did.after HK0.out d3⟩

end Go.Proofs.Ytpgccioblgcjaaa
