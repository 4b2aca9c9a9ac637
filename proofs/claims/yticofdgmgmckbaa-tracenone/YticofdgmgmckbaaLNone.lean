/- The walk of the statement that a trace that nobody made answers, and keeps nothing: it returns true for any events. -/
import Derived.Test.YticofdgmgmckbaaAcc
import Derived.Test.YticofdgmgmckbaaLPut2
import Derived.Test.YticofdgmgmckbaaRSum
import Derived.Test.YticofdgmgmckbaaTSame
namespace Go.Proofs.Yticofdgmgmckbaa
open Go.RowKit

set_option maxHeartbeats 400000 in
theorem walkTraceNone (v : Value) (l : List Ev) (w : World) (h : ArgEvs w v l) (hb : l.length ≤ maxLen) :
    Calls Try.prog 5 #[v] w fun e w' => e = .returned (.bool true) ∧ Below w.heap.size w w' := by
  obtain ⟨ao, n, cap, rfl, hN, hA0⟩ := h.open
  have hA := fun w1 (hk : Kept Nought w w1) => hA0 _ w1 hk (fun _ _ f => f)
  rw [hN.out] at hb
  clear h hA0
  unfold maxLen at hb
  go_enter Try.func5, Try.ntmps5
  go_wp2_with fail
  refine (lAwake _).mono ?_
  rintro e w0 ⟨rfl, k0⟩
  by_cases h200 : n ≤ 200
  · have h2 : ¬ (200 : Int) < (n : Int) := by omega
    go_wp2_with fail
    go_loopw [13] (fun i wr => ∃ k : Nat, k ≤ n ∧ i = .int .i64 k ∧ Kept Nought w wr) (fun i _ => n - (intOf i).toNat)
    case atStart => exact ⟨0, Nat.zero_le _, rfl, k0⟩
    case round =>
      obtain ⟨k, hk, rfl, hkp⟩ := hrel
      by_cases hlt : k < n
      · obtain ⟨b, off, x, y, z, rfl, c0, c1, c2, _⟩ := hA wr hkp k hlt
        clear hA
        have hk0 : (0 : Int) ≤ (k : Int) := Int.natCast_nonneg _
        have hk1 : (k : Int) < (n : Int) := by omega
        go_wp2_with fail
        refine (lPut none (x, y, z) _ trivial).mono ?_
        rintro e w2 ⟨rfl, hw⟩
        have hw' : Kept Nought (wr.alloc _) w2 := hw
        go_wp2
        go_roundw
        case rel => exact ⟨k + 1, by omega, by go_num, (hkp.alloc _).trans hw'⟩
        case measure => simp [intOf]; omega
      · have hk1 : ¬ (k : Int) < (n : Int) := by omega
        clear hA
        go_wp2_with fail
        refine (tMany none _ trivial).mono ?_
        rintro e w' ⟨rfl, rfl⟩
        simp only [trEvs, List.length_nil]
        go_wp2_with fail
        refine (tEvents none _ trivial).mono ?_
        rintro e w1 ⟨v, rfl, r1, _, k1⟩
        obtain ⟨ao1, cap1, rfl, _⟩ := r1.view
        simp only [trEvs, List.take_nil, List.length_nil]
        go_wp2_with fail
        refine (tSum none _ trivial).mono ?_
        rintro e w' ⟨rfl, rfl⟩
        simp only [trEvs]
        go_wp2_with fail
        refine (rSum (.slice none 0 0) [] _ (EvRow.nil _) (by simp)).mono ?_
        rintro e w2 ⟨rfl, k2⟩
        go_wp2_with fail
        refine (tNew _).mono ?_
        rintro e w' ⟨rfl, rfl⟩
        go_wp2_with fail
        refine (tSame none (some (w2.heap.size, none, [])) _ trivial (newTr_in w2)).mono ?_
        rintro e w3 ⟨rfl, k3⟩
        rw [show sameB (trEvs none) (trEvs (some (w2.heap.size, none, []))) = true from by simp [sameB, trEvs]]
        go_wp2
        go_ret
        exact ⟨rfl, (((((hkp.trans k1).trans k2).alloc _).trans k3)).below (Nat.le_refl _) (fun _ f => f.elim)⟩
  · have h2 : (200 : Int) < (n : Int) := by omega
    clear hA
    go_wp2
    go_ret
    exact ⟨rfl, k0.below (Nat.le_refl _) (fun _ f => f.elim)⟩

end Go.Proofs.Yticofdgmgmckbaa
