/- Package sign: block. -/
import Derived.Test.YthnkganmccgaeaaDoorSgn2
namespace Go.Proofs.YthnkganmccgaeaaDoor
open Go.RowKit

/-- Concat of the four rows that block lays. -/
theorem sgFour (w1 : World) (uo mo : Option Addr) (pn uc M mc : Nat) (ps ms : List Nat) (hU : Row .u8 w1 (.slice uo pn uc) ps) (hR : Row .u8 w1 (.slice mo M mc) ms) (hb : pn + M ≤ 100000) :
    Calls Tryd.prog 22 #[.slice (some ⟨w1.heap.size + 1 + 1, 0, none⟩) 4 4] (((w1.alloc (.cells #[.int .u8 0, .int .u8 1] 5)).alloc (.cells #[.int .u8 0] 5)).alloc (.cells #[.slice (some ⟨w1.heap.size, 0, none⟩) 2 2, .slice uo pn uc, .slice (some ⟨w1.heap.size + 1, 0, none⟩) 1 1, .slice mo M mc] 22)) fun e w' => ∃ v', e = .returned v' ∧ OwnB w' w1.heap.size v' ([0, 1] ++ ps ++ [0] ++ ms) ∧ Kept Nought w1 w' := by
  obtain ⟨w2, hw2⟩ : ∃ w2, w2 = w1.alloc (.cells #[.int .u8 0, .int .u8 1] 5) := ⟨_, rfl⟩
  obtain ⟨w3, hw3⟩ : ∃ w3, w3 = w2.alloc (.cells #[.int .u8 0] 5) := ⟨_, rfl⟩
  have hs2 : w2.heap.size = w1.heap.size + 1 := by rw [hw2, World.size_alloc]
  have hs3 : w3.heap.size = w1.heap.size + 1 + 1 := by rw [hw3, World.size_alloc, hs2]
  obtain ⟨w4, hw4⟩ : ∃ w4, w4 = w3.alloc (.cells #[.slice (some ⟨w1.heap.size, 0, none⟩) 2 2, .slice uo pn uc, .slice (some ⟨w2.heap.size, 0, none⟩) 1 1, .slice mo M mc] 22) := ⟨_, rfl⟩
  have k12 : Kept Nought w1 w2 := by rw [hw2]; exact (Kept.refl _ _).alloc _
  have k23 : Kept Nought w2 w3 := by rw [hw3]; exact (Kept.refl _ _).alloc _
  have k34 : Kept Nought w3 w4 := by rw [hw4]; exact (Kept.refl _ _).alloc _
  rw [← hs3, ← hs2, ← hw2, ← hw3, ← hw4]
  have o2 : Row .u8 w4 (.slice (some ⟨w1.heap.size, 0, none⟩) 2 2) [0, 1] := by
    refine Row.grew ?_ (k23.trans k34)
    rw [hw2]
    exact (own_lit8 w1 [0, 1] _ rfl 2 rfl (by omega) (by omega)).row
  have o3 : Row .u8 w4 (.slice (some ⟨w2.heap.size, 0, none⟩) 1 1) [0] := by
    refine Row.grew ?_ k34
    rw [hw3]
    exact (own_lit8 w2 [0] _ rfl 1 rfl (by omega) (by omega)).row
  have hU4 := hU.grew ((k12.trans k23).trans k34)
  have hR4 := hR.grew ((k12.trans k23).trans k34)
  have hb4 : w4.heap[w3.heap.size]? = some (.cells #[.slice (some ⟨w1.heap.size, 0, none⟩) 2 2, .slice uo pn uc, .slice (some ⟨w2.heap.size, 0, none⟩) 1 1, .slice mo M mc] 22 (0, 0)) := by
    rw [hw4]
    exact heap_alloc_new _ _
  obtain ⟨A, hA⟩ : ∃ A : Nat → Option Addr, ∀ i, A i = if i = 0 then some ⟨w1.heap.size, 0, none⟩ else if i = 1 then uo else if i = 2 then some ⟨w2.heap.size, 0, none⟩ else mo := ⟨_, fun _ => rfl⟩
  obtain ⟨L, hL⟩ : ∃ A : Nat → Nat, ∀ i, A i = if i = 0 then 2 else if i = 1 then pn else if i = 2 then 1 else M := ⟨_, fun _ => rfl⟩
  obtain ⟨C, hC⟩ : ∃ A : Nat → Nat, ∀ i, A i = if i = 0 then 2 else if i = 1 then uc else if i = 2 then 1 else mc := ⟨_, fun _ => rfl⟩
  obtain ⟨Z, hZ⟩ : ∃ A : Nat → List Nat, ∀ i, A i = if i = 0 then [0, 1] else if i = 1 then ps else if i = 2 then [0] else ms := ⟨_, fun _ => rfl⟩
  have hsum : sumT L 4 = 3 + pn + M := by
    simp only [sumT, hL]
    simp
    omega
  have hcat : catT Z 4 = [0, 1] ++ ps ++ [0] ++ ms := by
    simp only [catT, hZ]
    simp
  rw [← hcat]
  have k14 := (k12.trans k23).trans k34
  clear hw2 hw3 hw4 k12 k23 k34 hU hR
  refine Calls.mono (sConcatN w3.heap.size 0 4 A L C Z w4 (by omega) (fun i hi => ?_) (fun i hi => ?_) (by rw [hsum]; omega) (by rw [hsum]; omega)) ?_
  · have h4 : i = 0 ∨ i = 1 ∨ i = 2 ∨ i = 3 := by omega
    rcases h4 with rfl | rfl | rfl | rfl <;> rw [hA, hL, hC]
    · exact (cell_of_row _ _ 0 _ _ _ hb4).trans rfl
    · exact (cell_of_row _ _ 1 _ _ _ hb4).trans rfl
    · exact (cell_of_row _ _ 2 _ _ _ hb4).trans rfl
    · exact (cell_of_row _ _ 3 _ _ _ hb4).trans rfl
  · have h4 : i = 0 ∨ i = 1 ∨ i = 2 ∨ i = 3 := by omega
    rcases h4 with rfl | rfl | rfl | rfl <;> rw [hA, hL, hC, hZ]
    · exact o2
    · exact hU4
    · exact o3
    · exact hR4
  · rintro e w' ⟨v', rfl, ho, k⟩
    exact ⟨v', rfl, ho.base k14.size, k14.trans k⟩

set_option maxRecDepth 20000 in
set_option maxHeartbeats 2000000 in
/-- block, of two parts. -/
theorem sgBlock (k : Int) (lb n P1 P2 : Nat) (a1 a2 : Option Addr) (c1 c2 : Nat) (ps qs : List Nat) (w : World) (hc0 : w.cell? ⟨lb, 0, none⟩ = some (.slice a1 P1 c1)) (hc1 : w.cell? ⟨lb, 1, none⟩ = some (.slice a2 P2 c2)) (hp : Row .u8 w (.slice a1 P1 c1) ps) (hq : Row .u8 w (.slice a2 P2 c2) qs) (h0 : 0 < P1 + P2) (hl : P1 + P2 ≤ 10000) (hk : k = (n : Int) + 3 + (P1 : Int) + (P2 : Int)) (hn0 : 0 < n) (hn : n ≤ 2000) :
    Calls Tryd.prog 15 #[.int .i64 k, .slice (some ⟨lb, 0, none⟩) 2 2] w fun e w' => ∃ v', e = .returned v' ∧ OwnB w' w.heap.size v' ([0, 1] ++ List.replicate n 255 ++ [0] ++ (ps ++ qs)) ∧ Kept Nought w w' := by
  have J1 := sConcat lb P1 P2 a1 a2 c1 c2 ps qs w hc0 hc1 hp hq h0 (by omega)
  have HL1 : Hid ((ps ++ qs).length = P1 + P2) := by
    obtain ⟨_, _, _, e1, x1, _⟩ := hp.open
    cases e1
    obtain ⟨_, _, _, e1, x2, _⟩ := hq.open
    cases e1
    have := x1.out
    have := x2.out
    unfold Hid
    rw [List.length_append]
    omega
  clear hc0 hc1 hp hq
  generalize ps ++ qs = ts at *
  obtain ⟨out, hout⟩ : ∃ out, out = [0, 1] ++ List.replicate n 255 ++ [0] ++ ts := ⟨_, rfl⟩
  rw [← hout]
  have HOut := toHid hout
  have HKK := toHid hk
  have hkb : k ≤ 20000 := by omega
  have hkc : 0 ≤ k := by omega
  clear hk hout
  go_enter Tryd.func15, Tryd.ntmps15
  go_wp2_with fail
  refine J1.mono ?_
  rintro e w1 ⟨v1, rfl, o1, k1⟩
  have HK1 := toHid k1
  have HR1 := toHid o1.row
  obtain ⟨uo, un, uc, rfl, hun, -, -, -, -⟩ := o1.row.open
  have hun2 : un = P1 + P2 := by rw [← hun.out, HL1.out]
  have g1 : k - 2 - 1 - (un : Int) = (n : Int) := by have := HKK.out; omega
  have hb1 : (w1.alloc (.cells #[.int .u8 255] 5)).heap[w1.heap.size]? = some (.cells #[.int .u8 255] 5 (0, 0)) := heap_alloc_new w1 _
  have hc1 : (w1.alloc (.cells #[.int .u8 255] 5)).cell? ⟨w1.heap.size, 0, none⟩ = some (.int .u8 ((255 : Nat) : Int)) := (cell_of_row _ _ 0 _ _ _ hb1).trans rfl
  have JR := sgRepeat w1.heap.size 255 n (w1.alloc (.cells #[.int .u8 255] 5)) hc1 hn0 hn
  have hka : Kept Nought w1 (w1.alloc (.cells #[.int .u8 255] 5)) := (Kept.refl Nought w1).alloc _
  have HKA := toHid hka
  have hunb : un ≤ 10000 := by omega
  clear J1 o1 k1 hka hun hun2 hb1 hc1
  go_wp2_with fail
  refine JR.mono ?_
  rintro e w2 ⟨g, rfl, r2, k2⟩
  have HK2 := toHid (HK1.out.trans (HKA.out.trans k2))
  have JF := sgFour w2 (some ⟨g, 0, none⟩) uo n n un uc (List.replicate n 255) ts r2 ((HR1.out.grew HKA.out).grew k2) (by omega)
  clear JR r2 k2 HKA HR1
  rw [← HOut.out] at JF
  go_wp2_with fail
  refine JF.mono ?_
  rintro e w3 ⟨v3, rfl, o3, k3⟩
  have HO3 := toHid (o3.base HK2.out.size)
  have HK3 := toHid (HK2.out.trans k3)
  clear JF o3 k3
  go_wp2_with fail
  go_ret
  exact ⟨v3, rfl, HO3.out, HK3.out⟩

end Go.Proofs.YthnkganmccgaeaaDoor
