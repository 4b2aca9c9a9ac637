/- The walk of the statement on bytes: it returns true for any word and any bytes, and leaves what was there alone. -/
import Derived.Test.YtaddnmnnpnkahaaAwake
import Derived.Test.YtaddnmnnpnkahaaSame
import Derived.OpenShut
namespace Go.Proofs.Ytaddnmnnpnkahaa
open Go.RowKit

theorem cell_lt {w : World} {b o : Nat} {v : Value} (h : w.cell? ⟨b, o, none⟩ = some v) : b < w.heap.size := by
  rcases Nat.lt_or_ge b w.heap.size with hb | hb
  · exact hb
  · simp [World.cell?, hb] at h

theorem ReadsRow.below {w w' : World} {a : Option Addr} {len : Nat} {zs : List Int} (h : ReadsRow w a len zs) (hb : Below w.heap.size w w') : ReadsRow w' a len zs := by
  intro i hi
  obtain ⟨b, off, e, hc⟩ := h i hi
  exact ⟨b, off, e, (hb.cell (p := ⟨b, off + i, none⟩) (cell_lt hc)).trans hc⟩

theorem bytes_of_wf {zs : List Int} (h : ∀ n ∈ zs, (Lit.int .u8 n).wf = true) : AreBytes zs := by
  intro i
  rcases Nat.lt_or_ge i zs.length with hi | hi
  · have := bounds_u8 (h _ (List.getElem_mem hi))
    rw [List.getD_eq_getElem?_getD, List.getElem?_eq_getElem hi, Option.getD_some]; omega
  · rw [List.getD_eq_getElem?_getD, List.getElem?_eq_none hi]; decide

set_option maxHeartbeats 400000 in
theorem walkWordBytes (a0 : Int) (a1 : Option Addr) (len1 cap1 : Nat) (z1 : List Int) (w : World) (w0 : (Lit.int .u64 a0).wf = true)
    (w1 : (a1 = none ∧ len1 = 0 ∧ cap1 = 0 ∧ z1 = []) ∨ ∃ x, a1 = some x ∧ len1 ≤ cap1 ∧ cap1 ≤ maxLen ∧ z1.length = cap1 ∧ (∀ i, i < z1.length → w.cell? (x.add i) = some (.int .u8 (z1.getD i 0))) ∧ ∀ n ∈ z1, (Lit.int .u8 n).wf = true) :
    Calls Try.prog 8 #[.int .u64 a0, .slice a1 len1 cap1] w fun e w' => e = .returned (.bool true) ∧ Below w.heap.size w w' := by
  obtain ⟨x0, y0⟩ := bounds_u64 w0
  have z0 : a0 < 18446744073709551616 := by omega
  clear w0 y0
  have hrow : ReadsRow w a1 len1 z1 ∧ AreBytes z1 ∧ len1 ≤ 9223372036854775807 := by
    rcases w1 with ⟨_, rfl, _, rfl⟩ | ⟨x, rfl, hl, hm, hz, hcell, hwf⟩
    · exact ⟨fun i hi => absurd hi (by omega), fun i => by simp, by omega⟩
    · refine ⟨fun i hi => ?_, bytes_of_wf hwf, by unfold maxLen at hm; omega⟩
      obtain ⟨b, off, rfl, hc⟩ := ints_at hcell (by omega)
      exact ⟨b, off, rfl, hc i (by omega)⟩
  clear w1
  obtain ⟨hr, hz, hl⟩ := hrow
  have HR : Hid (ReadsRow w a1 len1 z1) := hr
  clear hr
  by_cases hlen : (1000 : Int) < len1
  · go_enter Try.func8, Try.ntmps8
    go_wp2_with fail
    refine (awake _).mono ?_
    rintro e w' ⟨rfl, rfl⟩
    go_wp2_with fail
    go_ret
    exact ⟨rfl, Below.refl _ _⟩
  · go_enter Try.func8, Try.ntmps8
    go_wp2_with fail
    refine (awake _).mono ?_
    rintro e w' ⟨rfl, rfl⟩
    go_wp2_with fail
    refine (wPut a0 x0 z0 _).mono ?_
    rintro e w2 ⟨rfl, rfl⟩
    go_wp2_with fail
    refine (rPut a0 x0 z0 _).mono ?_
    rintro e w3 ⟨v, rfl, hown, hb⟩
    obtain ⟨g, cap, rfl, h2⟩ : ∃ g cap, v = .slice (some ⟨g, 0, none⟩) 8 cap ∧ ∀ i, i < 8 → w3.cell? ⟨g, 0 + i, none⟩ = some (.int .u8 ((putBytes a0).getD i 0)) := by
      have ho := hown
      rcases hown.2 with ⟨_, h⟩ | ⟨g, cap, cur, rfl, hrest⟩
      · omega
      · refine ⟨g, cap, rfl, fun i hi => ?_⟩
        rw [Nat.zero_add, ho.cellAt i (by omega)]
        have : i = 0 ∨ i = 1 ∨ i = 2 ∨ i = 3 ∨ i = 4 ∨ i = 5 ∨ i = 6 ∨ i = 7 := by omega
        rcases this with rfl | rfl | rfl | rfl | rfl | rfl | rfl | rfl <;> rfl
    have h1 : ∀ i, i < 8 → w3.cell? ⟨w'.heap.size, 0 + i, none⟩ = some (.int .u8 ((putBytes a0).getD i 0)) := by
      intro i hi
      obtain ⟨b, off, e, hc⟩ := put_reads a0 w' 42 i hi
      simp only [Option.some.injEq, Addr.mk.injEq] at e
      obtain ⟨rfl, rfl, _⟩ := e
      exact (hb.cell (p := ⟨w'.heap.size, 0 + i, none⟩) (by simp)).trans hc
    have hb1 : Below w'.heap.size w' w3 := ((Below.refl _ _).alloc (Nat.le_refl _) _).trans (hb.mono (by simp))
    have hr3 : Hid (ReadsRow w3 a1 len1 z1) := HR.out.below hb1
    have HB : Hid (Below w'.heap.size w' w3) := hb1
    have H1 : Hid (∀ i, i < 8 → w3.cell? ⟨w'.heap.size, 0 + i, none⟩ = some (.int .u8 ((putBytes a0).getD i 0))) := h1
    have H2 : Hid (∀ i, i < 8 → w3.cell? ⟨g, 0 + i, none⟩ = some (.int .u8 ((putBytes a0).getD i 0))) := h2
    clear hown hb h1 h2 hb1
    go_wp2_with fail
    refine (same_eq (putBytes a0) 8 _ 0 _ g 0 cap rfl _ H1.out H2.out).mono ?_
    rintro e w4 ⟨rfl, rfl⟩
    go_wp2_with fail
    refine (wGet a1 len1 cap1 z1 hl hz _ hr3.out).mono ?_
    rintro e w5 ⟨rfl, rfl⟩
    go_wp2_with fail
    refine (rGet a1 len1 cap1 z1 hl hz _ hr3.out).mono ?_
    rintro e w6 ⟨rfl, rfl⟩
    go_wp2
    go_ret
    exact ⟨rfl, HB.out⟩
end Go.Proofs.Ytaddnmnnpnkahaa
