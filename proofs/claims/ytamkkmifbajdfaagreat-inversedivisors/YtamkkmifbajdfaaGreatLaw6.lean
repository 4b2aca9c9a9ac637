/- Melted of: L6A L6B L6C. -/
import Derived.Test.YtamkkmifbajdfaaGreatL5A
import Derived.Test.YtamkkmifbajdfaaGreatBase3
import Derived.Test.YtamkkmifbajdfaaGreatRef6m
import Derived.Test.YtamkkmifbajdfaaGreatMon4
import Derived.Test.YtamkkmifbajdfaaGreatMon5
import Derived.Test.YtamkkmifbajdfaaGreatRef6o
import Derived.Deep.RegionHeld3

/- The laws' small functions of layers 6 to 8: few, Same, as. -/
namespace Go.Proofs.YtamkkmifbajdfaaGreat
open Go.RowKit

set_option maxRecDepth 20000 in
set_option maxHeartbeats 1000000 in
/-- Few of layer 7. -/
theorem f7Few (ao bo : Option Addr) (L M cap dap : Nat) (K : Int) (lo : Option Addr) (n ncap : Nat) (A : Nat → Option Addr) (N C : Nat → Nat) (w : World) (hn : n ≤ 1000000000000) (R : Bool) (hR : R = decide ((L ≤ 40 ∧ M ≤ 40) ∧ ∀ i, i < n → N i ≤ 40)) (hs : Slots w lo n A N C) :
    Calls Tryz.prog 26 #[.agg #[.slice ao L cap, .int .u64 K, .slice bo M dap], .slice lo n ncap] w fun r w' => r = .returned (.bool R) ∧ Kept Nought w w' := by
  have k0 : Kept Nought w (w.alloc (.cells #[.slice ao L cap, .int .u64 K, .slice bo M dap] 34)) := (Kept.refl Nought w).alloc _
  have k1 := k0.alloc (.cells #[.slice ao L cap, .slice bo M dap] 23)
  have hsz : (w.alloc (.cells #[.slice ao L cap, .int .u64 K, .slice bo M dap] 34)).heap.size = w.heap.size + 1 := by simp
  have HR := toHid hR
  clear hR
  by_cases h4 : L ≤ 40 ∧ M ≤ 40
  · have hF := few2 ao bo L M cap dap (w.alloc (.cells #[.slice ao L cap, .int .u64 K, .slice bo M dap] 34)) true (decide_eq_true h4).symm
    rw [hsz] at hF
    have hG := fun W (k : Kept Nought w W) (R2 : Bool) (h2 : R2 = decide (∀ i, i < n → N i ≤ 40)) => f5Few lo n ncap A N C W hn R2 h2 (hs.grew k)
    clear hs
    by_cases h5 : ∀ i, i < n → N i ≤ 40
    · have hT : Hid (R = true) := by unfold Hid; rw [HR.out]; exact decide_eq_true ⟨h4, h5⟩
      have hG' := fun W (k : Kept Nought w W) => hG W k true (decide_eq_true h5).symm
      clear hG h4 h5
      go_enter Tryz.func26, Tryz.ntmps26
      go_wp2_with fail
      refine hF.mono ?_
      rintro e w1 ⟨rfl, rfl⟩
      go_wp2_with fail
      refine (hG' _ k1).mono ?_
      rintro e w2 ⟨rfl, rfl⟩
      go_wp2_with fail
      go_ret
      rw [hT.out]
      exact ⟨rfl, k1⟩
    · have hT : Hid (R = false) := by unfold Hid; rw [HR.out]; exact decide_eq_false (fun h => h5 h.2)
      have hG' := fun W (k : Kept Nought w W) => hG W k false (decide_eq_false h5).symm
      clear hG h4 h5
      go_enter Tryz.func26, Tryz.ntmps26
      go_wp2_with fail
      refine hF.mono ?_
      rintro e w1 ⟨rfl, rfl⟩
      go_wp2_with fail
      refine (hG' _ k1).mono ?_
      rintro e w2 ⟨rfl, rfl⟩
      go_wp2_with fail
      go_ret
      rw [hT.out]
      exact ⟨rfl, k1⟩
  · have hF := few2 ao bo L M cap dap (w.alloc (.cells #[.slice ao L cap, .int .u64 K, .slice bo M dap] 34)) false (decide_eq_false h4).symm
    rw [hsz] at hF
    have hT : Hid (R = false) := by unfold Hid; rw [HR.out]; exact decide_eq_false (fun h => h4 h.1)
    clear hs h4
    go_enter Tryz.func26, Tryz.ntmps26
    go_wp2_with fail
    refine hF.mono ?_
    rintro e w1 ⟨rfl, rfl⟩
    go_wp2_with fail
    go_ret
    rw [hT.out]
    exact ⟨rfl, k1⟩

theorem slots1_new (W : World) (co : Option Addr) (N eap : Nat) : Slots (W.alloc (.cells #[.slice co N eap] 23)) (some ⟨W.heap.size, 0, none⟩) 1 (fun _ => co) (fun _ => N) (fun _ => eap) := by
  intro i hi
  obtain rfl : i = 0 := by omega
  exact ⟨_, _, rfl, (cell_of_row _ _ 0 _ _ _ (heap_alloc_new W _)).trans rfl⟩

set_option maxRecDepth 20000 in
set_option maxHeartbeats 1000000 in
/-- Few of layer 8. -/
theorem f8Few (ao bo co go : Option Addr) (L M N Q cap dap eap fap : Nat) (K : Int) (w : World) (R : Bool) (hR : R = decide (((L ≤ 40 ∧ M ≤ 40) ∧ N ≤ 40) ∧ L ≤ 10 ∧ (Q ≤ 6 ∨ Q = 301))) :
    Calls Tryz.prog 12 #[.agg #[.slice ao L cap, .int .u64 K, .slice bo M dap], .slice co N eap, .slice go Q fap] w fun r w' => r = .returned (.bool R) ∧ Kept Nought w w' := by
  have k0 : Kept Nought w (w.alloc (.cells #[.slice ao L cap, .int .u64 K, .slice bo M dap] 34)) := (Kept.refl Nought w).alloc _
  have k1 := k0.alloc (.cells #[.slice co N eap] 23)
  have hsz : (w.alloc (.cells #[.slice ao L cap, .int .u64 K, .slice bo M dap] 34)).heap.size = w.heap.size + 1 := by simp
  have hsl := slots1_new (w.alloc (.cells #[.slice ao L cap, .int .u64 K, .slice bo M dap] 34)) co N eap
  have hF := fun (R1 : Bool) (h : R1 = decide ((L ≤ 40 ∧ M ≤ 40) ∧ N ≤ 40)) => f7Few ao bo L M cap dap K _ 1 1 _ _ _ _ (by omega) R1 (h.trans (decide_eq_decide.2 ⟨fun h => ⟨h.1, fun _ _ => h.2⟩, fun h => ⟨h.1, h.2 0 (by omega)⟩⟩)) hsl
  rw [hsz] at hF
  have hx0 : ((w.alloc (.cells #[.slice ao L cap, .int .u64 K, .slice bo M dap] 34)).alloc (.cells #[.slice co N eap] 23)).heap[w.heap.size]? = some (.cells #[.slice ao L cap, .int .u64 K, .slice bo M dap] 34 (0, 0)) :=
    (((Kept.refl Nought (w.alloc (.cells #[.slice ao L cap, .int .u64 K, .slice bo M dap] 34))).alloc (.cells #[.slice co N eap] 23)).block _ (lt_of_block (heap_alloc_new _ _)) (fun f => f)).trans (heap_alloc_new _ _)
  have HR := toHid hR
  clear hR hsl hsz k0
  by_cases h1 : (L ≤ 40 ∧ M ≤ 40) ∧ N ≤ 40
  · have hF1 := hF true (decide_eq_true h1).symm
    by_cases h2 : L ≤ 10
    · have g2 : (L : Int) ≤ 10 := by omega
      by_cases h3 : Q ≤ 6
      · have g3 : (Q : Int) ≤ 6 := by omega
        have hT : Hid (R = true) := by unfold Hid; rw [HR.out]; exact decide_eq_true ⟨h1, h2, .inl h3⟩
        clear hF HR h1 h2 h3
        go_enter Tryz.func12, Tryz.ntmps12
        go_wp2_with fail
        refine hF1.mono ?_
        rintro e w1 ⟨rfl, kk⟩
        have hx1 := (kk.block _ (lt_of_block hx0) (fun f => f)).trans hx0
        obtain ⟨p0, _, _⟩ := box3 hx1
        clear hx0 hx1
        go_wp2_with fail
        go_ret
        rw [hT.out]
        exact ⟨rfl, k1.trans kk⟩
      · have g3 : ¬ (Q : Int) ≤ 6 := by omega
        by_cases h4 : Q = 301
        · have hT : Hid (R = true) := by unfold Hid; rw [HR.out]; exact decide_eq_true ⟨h1, h2, .inr h4⟩
          subst h4
          clear hF HR h1 h2 h3
          go_enter Tryz.func12, Tryz.ntmps12
          go_wp2_with fail
          refine hF1.mono ?_
          rintro e w1 ⟨rfl, kk⟩
          have hx1 := (kk.block _ (lt_of_block hx0) (fun f => f)).trans hx0
          obtain ⟨p0, _, _⟩ := box3 hx1
          clear hx0 hx1
          go_wp2_with fail
          go_ret
          rw [hT.out]
          exact ⟨rfl, k1.trans kk⟩
        · have hT : Hid (R = false) := by unfold Hid; rw [HR.out]; exact decide_eq_false (fun h => by rcases h.2.2 with q | q; exact h3 q; exact h4 q)
          have g4 : ¬ (Q : Int) = 301 := by omega
          have g4' : ((Q : Int) == 301) = false := by simp; omega
          clear hF HR h1 h2 h3 h4
          go_enter Tryz.func12, Tryz.ntmps12
          go_wp2_with fail
          refine hF1.mono ?_
          rintro e w1 ⟨rfl, kk⟩
          have hx1 := (kk.block _ (lt_of_block hx0) (fun f => f)).trans hx0
          obtain ⟨p0, _, _⟩ := box3 hx1
          clear hx0 hx1
          go_wp2_with fail
          go_ret
          rw [hT.out]
          exact ⟨by show Ending.returned (Value.bool (decide ((Q : Int) ≤ 6))) = _; rw [decide_eq_false (by omega)], k1.trans kk⟩
    · have g2 : ¬ (L : Int) ≤ 10 := by omega
      have hT : Hid (R = false) := by unfold Hid; rw [HR.out]; exact decide_eq_false (fun h => h2 h.2.1)
      clear hF HR h1 h2
      go_enter Tryz.func12, Tryz.ntmps12
      go_wp2_with fail
      refine hF1.mono ?_
      rintro e w1 ⟨rfl, kk⟩
      have hx1 := (kk.block _ (lt_of_block hx0) (fun f => f)).trans hx0
      obtain ⟨p0, _, _⟩ := box3 hx1
      clear hx0 hx1
      go_wp2_with fail
      go_ret
      rw [hT.out]
      exact ⟨rfl, k1.trans kk⟩
  · have hF1 := hF false (decide_eq_false h1).symm
    have hT : Hid (R = false) := by unfold Hid; rw [HR.out]; exact decide_eq_false (fun h => h1 h.1)
    clear hF HR h1 hx0
    go_enter Tryz.func12, Tryz.ntmps12
    go_wp2_with fail
    refine hF1.mono ?_
    rintro e w1 ⟨rfl, kk⟩
    go_wp2_with fail
    go_ret
    rw [hT.out]
    exact ⟨rfl, k1.trans kk⟩

end Go.Proofs.YtamkkmifbajdfaaGreat

/- The laws' first test of layer 6. -/
namespace Go.Proofs.YtamkkmifbajdfaaGreat
open Go.RowKit

theorem ex6 : montE 7 = 0 ∧ modM 7 = [7] ∧ modR 7 = [4] := by decide

theorem ex6K {K : Nat} (h : isKf 7 K) : K = 10540996613548315209 := isKf_uniq h ⟨by omega, fun _ => by omega, fun h => absurd ex6.1 h⟩

theorem row7 (w : World) : Row .u64 (w.alloc (.cells #[.int .u64 7] 32)) (.slice (some ⟨w.heap.size, 0, none⟩) 1 1) [7] := Row.of_block (k := .u64) (w := w.alloc (.cells #[.int .u64 7] 32)) (g := w.heap.size) (zs := [7]) (t := 32) (heap_alloc_new _ _) rfl (by unfold maxLen; omega)

/-- What Setup answers is a modulus. -/
theorem setup_ok {V K : Nat} (h : montE V = 0) (hK : isKf V K) : okMod (modM V) K (modR V) ∧ (modM V).length = wordsN V ∧ (modR V).length = wordsN V ∧ val 18446744073709551616 (modM V) = V ∧ Digs 18446744073709551616 (modM V) ∧ Digs 18446744073709551616 (modR V) := by
  have hM : modM V = digs 18446744073709551616 V (wordsN V) := by unfold modM; rw [if_pos h]
  have hR : modR V = digs 18446744073709551616 (2 ^ (128 * wordsN V) % V) (wordsN V) := by unfold modR; rw [if_pos h]
  have hv : val 18446744073709551616 (modM V) = V := by rw [hM, val_digs, Nat.mod_eq_of_lt ((wordsN_le V _).1 (Nat.le_refl _))]
  refine ⟨?_, by rw [hM, digs_length], by rw [hR, digs_length], hv, by rw [hM]; exact digs_digs (by omega) _ _, by rw [hR]; exact digs_digs (by omega) _ _⟩
  unfold okMod
  rw [hv]
  exact ⟨h, rfl, hK, rfl⟩

end Go.Proofs.YtamkkmifbajdfaaGreat

/- Both sides of layer 6 with no trace: Mul, Enter, Leave, One. -/
namespace Go.Proofs.YtamkkmifbajdfaaGreat
open Go.RowKit

/-- An error's number for a condition. -/
theorem err_of (p : Prop) : ∃ E : Nat, (E = 0 ↔ p) ∧ E ≤ 1 := by
  by_cases h : p
  · exact ⟨0, ⟨fun _ => h, fun _ => rfl⟩, by omega⟩
  · exact ⟨1, ⟨fun e => absurd e (by omega), fun e => absurd e h⟩, by omega⟩

end Go.Proofs.YtamkkmifbajdfaaGreat
