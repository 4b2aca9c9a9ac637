/- The law NatShows, walked: whatever the number and the text. -/
import Derived.Test.YtcdpmiheeenmmaaDoorNatT
namespace Go.Proofs.YtcdpmiheeenmmaaDoor
open Go.RowKit Go.Shelf

theorem of_list {t : ByteArray} {l : List UInt8} (h : t.data.toList = l) : t = ⟨l.toArray⟩ := by
  cases t with
  | mk d =>
    cases d with
    | mk x => simp at h; subst h; rfl

set_option maxRecDepth 20000 in
set_option maxHeartbeats 2000000 in
theorem walkNatShows (v : Value) (xs : List Nat) (s : ByteArray) (w : World) (h : Row .u64 w v xs) (hd : Digs 18446744073709551616 xs) (hs : s.size ≤ maxLen) (hT : Tab w) :
    Calls Tryd.prog 7 #[v, .string s] w fun e w' => e = .returned (.bool true) ∧ Below w.heap.size w w' := by
  have hA := nAwake w hT
  obtain ⟨ao, L, cap, rfl, hL, _, _, _, _⟩ := h.open
  have hF := fun (W : World) (R : Bool) (hR : R = decide (L ≤ 400)) => nFew W.heap.size 1 (fun _ => ao) (fun _ => L) (fun _ => cap) (W.alloc (.cells #[.slice ao L cap] 25)) (by omega) R (by rw [hR]; exact decide_eq_decide.2 ⟨fun h _ _ => h, fun h => h 0 (by omega)⟩) (fun i hi => by
    obtain rfl : i = 0 := by omega
    exact (Boxed.new W 25 (.slice ao L cap)).cell)
  by_cases h4 : L ≤ 400
  · have hF := fun W => hF W true (decide_eq_true h4).symm
    by_cases h5 : s.size ≤ 5000
    · have h5' : ¬ (s.size : Int) > 5000 := by omega
      obtain ⟨ok, hok⟩ : ∃ ok, ok = parseOk s := ⟨_, rfl⟩
      obtain ⟨R, hR⟩ : ∃ R : List Nat, R = if parseOk s = true then digs 18446744073709551616 (hexNum (s.toList.drop 2)) (max (wordsN (hexNum (s.toList.drop 2))) 1) else [] := ⟨_, rfl⟩
      have hno : parseOk s = false → ok = false ∧ R = [] := fun h => ⟨by rw [hok]; exact h, by rw [hR, if_neg (by rw [h]; decide)]⟩
      have hyes : parseOk s = true → ok = true ∧ R = digs 18446744073709551616 (hexNum (s.toList.drop 2)) (max (wordsN (hexNum (s.toList.drop 2))) 1) := fun h => ⟨by rw [hok]; exact h, by rw [hR, if_pos h]⟩
      have hP := fun W => nParse s ok R W (by omega) hno hyes
      have hQ := fun W => rParse s ok R W hs hno hyes
      have hS := fun W (k : Kept Nought w W) => nShow _ xs W (h.grew k) hd (by have := hL.out; omega) (hT.grew k)
      have hZ := fun W (k : Kept Nought w W) => rShow _ xs W (h.grew k) hd (by have := hL.out; omega)
      clear h hok hR hno hyes hs
      generalize showL (val 18446744073709551616 xs) = T at *
      obtain ⟨tx, htx⟩ : ∃ tx : ByteArray, tx = ⟨T.toArray⟩ := ⟨_, rfl⟩
      have hS' : ∀ W, Kept Nought w W → Calls Tryd.prog 29 #[.slice ao L cap] W fun r w' => r = .returned (.string tx) ∧ Kept Nought W w' := by rw [htx]; exact hS
      have hZ' : ∀ W, Kept Nought w W → Calls Tryd.prog 30 #[.slice ao L cap] W fun r w' => r = .returned (.string tx) ∧ Kept Nought W w' := by
        intro W k
        refine (hZ W k).mono ?_
        rintro e w' ⟨t, rfl, ht, hk⟩
        rw [htx, of_list ht]
        exact ⟨rfl, hk⟩
      clear hS hZ htx
      go_enter Tryd.func7, Tryd.ntmps7
      go_wp2_with fail
      refine hA.mono ?_
      rintro e w1 ⟨rfl, k1⟩
      go_wp2_with fail
      refine (hF w1).mono ?_
      rintro e w1' ⟨rfl, rfl⟩
      have k1' := k1.alloc (.cells #[.slice ao L cap] 25)
      generalize w1.alloc (.cells #[.slice ao L cap] 25) = w2 at *
      clear hA hF k1
      go_wp2_with fail
      refine (hP w2).mono ?_
      rintro e w3 ⟨v3, rfl, hr3, k3⟩
      have k3' := k1'.trans k3
      clear hP
      go_wp2_with fail
      refine (hQ w3).mono ?_
      rintro e w4 ⟨v4, rfl, hr4, k4⟩
      have k4' := k3'.trans k4
      have hr3' := hr3.grew k4
      clear hQ k1' k3 k3' k4 hr3
      go_wp2_with fail
      refine (hS' w4 k4').mono ?_
      rintro e w5 ⟨rfl, k5⟩
      have k5' := k4'.trans k5
      have hr3a := hr3'.grew k5
      have hr4a := hr4.grew k5
      clear hS' k4' k5 hr3' hr4
      go_wp2_with fail
      refine (hZ' w5 k5').mono ?_
      rintro e w6 ⟨rfl, k6⟩
      have k6' := k5'.trans k6
      have hSm := rSame v3 v4 R R w6 (hr3a.grew k6) (hr4a.grew k6)
      rw [decide_eq_true rfl] at hSm
      clear hZ' k5' k6 hr3a hr4a
      go_wp2_with fail
      refine hSm.mono ?_
      rintro e w7 ⟨rfl, m, rfl⟩
      go_wp2_with fail
      go_ret
      exact ⟨by simp, below_kept (k6'.drewN m) (Nat.le_refl _)⟩
    · have h5' : (s.size : Int) > 5000 := by omega
      clear h
      go_enter Tryd.func7, Tryd.ntmps7
      go_wp2_with fail
      refine hA.mono ?_
      rintro e w1 ⟨rfl, k1⟩
      go_wp2_with fail
      refine (hF w1).mono ?_
      rintro e w1' ⟨rfl, rfl⟩
      go_wp2_with fail
      go_ret
      exact ⟨rfl, below_kept (k1.alloc _) (Nat.le_refl _)⟩
  · have hF := fun W => hF W false (decide_eq_false h4).symm
    clear h
    go_enter Tryd.func7, Tryd.ntmps7
    go_wp2_with fail
    refine hA.mono ?_
    rintro e w1 ⟨rfl, k1⟩
    go_wp2_with fail
    refine (hF w1).mono ?_
    rintro e w1' ⟨rfl, rfl⟩
    go_wp2_with fail
    go_ret
    exact ⟨rfl, below_kept (k1.alloc _) (Nat.le_refl _)⟩

end Go.Proofs.YtcdpmiheeenmmaaDoor
