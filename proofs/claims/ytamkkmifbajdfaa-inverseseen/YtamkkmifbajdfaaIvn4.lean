/- Package inverse: a step. -/
import Derived.Test.YtamkkmifbajdfaaIvn3
namespace Go.Proofs.Ytamkkmifbajdfaa
open Go.RowKit

theorem xor_ones (D : Nat) (h : D < 18446744073709551616) : D ^^^ 18446744073709551615 = 18446744073709551615 - D := by
  have e : (BitVec.ofNat 64 D ^^^ BitVec.allOnes 64).toNat = D ^^^ 18446744073709551615 := by
    rw [BitVec.toNat_xor, BitVec.toNat_ofNat, BitVec.toNat_allOnes, Nat.mod_eq_of_lt (by omega)]
  rw [← e, BitVec.xor_allOnes, BitVec.toNat_not, BitVec.toNat_ofNat, Nat.mod_eq_of_lt (by omega)]

/-- The bits that a step reckons with. -/
structure StBits (d g : Int) (D E y od sw mk A C D' x : Nat) : Prop where
  lD : D < 18446744073709551616
  hE : IntKind.u64.wrap (-(D : Int)) = (E : Int)
  hy : (E : Int) / 9223372036854775808 = (y : Int)
  hod : (od : Int) = g % 2
  hsw : bits .and .u64 (od : Int) (y : Int) = (sw : Int)
  esw : sw = swN d g
  hmk : msk (sw : Int) = (mk : Int)
  hA : bits .xor .u64 (D : Int) (mk : Int) = (A : Int)
  h1 : bits .and .u64 (mk : Int) 1 = (sw : Int)
  hC : IntKind.u64.wrap ((A : Int) + (sw : Int)) = (C : Int)
  hD : IntKind.u64.wrap ((C : Int) + 1) = (D' : Int)
  eD : D' = tcN 18446744073709551616 (if sw = 1 then 1 - d else 1 + d)
  hx : bits .xor .u64 (od : Int) (sw : Int) = (x : Int)
  hso : (sw = 1 ∧ od = 1 ∧ x = 0) ∨ (sw = 0 ∧ od = 1 ∧ x = 1) ∨ (sw = 0 ∧ od = 0 ∧ x = 0)

theorem st_bits (d g : Int) (h0 : -1000000 ≤ d) (h1 : d ≤ 1000000) : ∃ E y od sw mk A C D' x : Nat, StBits d g (tcN 18446744073709551616 d) E y od sw mk A C D' x := by
  obtain ⟨D, hD⟩ : ∃ D, D = tcN 18446744073709551616 d := ⟨_, rfl⟩
  rw [← hD]
  have fD : (0 ≤ d → (D : Int) = d) ∧ (d < 0 → (D : Int) = 18446744073709551616 + d) := by
    rw [hD]; unfold tcN
    constructor
    · intro h; rw [if_neg (by omega)]; omega
    · intro h; rw [if_pos h]; omega
  have lD : D < 18446744073709551616 := by omega
  have fneg : ∃ E : Nat, IntKind.u64.wrap (-(D : Int)) = (E : Int) ∧ E < 18446744073709551616 ∧ (0 < d → 9223372036854775808 ≤ E) ∧ (¬ 0 < d → E < 9223372036854775808) := by
    refine ⟨(-(D : Int) % 18446744073709551616).toNat, ?_, ?_, ?_, ?_⟩
    · rw [IntKind.wrap_u64]; omega
    · omega
    · intro h; omega
    · intro h; omega
  obtain ⟨E, hE, lE, e1, e2⟩ := fneg
  obtain ⟨od, hod⟩ : ∃ od : Nat, (od : Int) = g % 2 := ⟨(g % 2).toNat, by omega⟩
  have hod1 : od = 0 ∨ od = 1 := by omega
  obtain ⟨y, hy⟩ : ∃ y : Nat, y = E / 9223372036854775808 := ⟨_, rfl⟩
  have hy' : (E : Int) / 9223372036854775808 = (y : Int) := by omega
  have ey : y = if 0 < d then 1 else 0 := by
    split
    · rename_i h; have := e1 h; omega
    · rename_i h; have := e2 h; omega
  by_cases h : 0 < d ∧ g % 2 = 1
  · rw [if_pos h.1] at ey
    have eod : od = 1 := by omega
    have es : swN d g = 1 := if_pos h
    subst ey
    subst eod
    obtain ⟨D', hD'⟩ : ∃ D', D' = tcN 18446744073709551616 (1 - d) := ⟨_, rfl⟩
    have fD' : (D' : Int) = if d = 1 then 0 else 18446744073709551616 + (1 - d) := by
      rw [hD']; unfold tcN
      split <;> split <;> omega
    refine ⟨E, 1, 1, 1, 18446744073709551615, 18446744073709551615 - D, 18446744073709551616 - D, D', 0, ⟨lD, hE, hy', hod, by decide, es.symm, by decide, ?_, by decide, ?_, ?_, ?_, by decide, .inl ⟨rfl, rfl, rfl⟩⟩⟩
    · have := u64_xor_nat D 18446744073709551615 lD (by omega)
      rw [xor_ones D lD] at this
      exact this
    · rw [IntKind.wrap_u64]; omega
    · rw [IntKind.wrap_u64, fD']; split <;> omega
    · rw [if_pos rfl]; exact hD'
  · have es : swN d g = 0 := if_neg h
    obtain ⟨D', hD'⟩ : ∃ D', D' = tcN 18446744073709551616 (1 + d) := ⟨_, rfl⟩
    have fD' : (D' : Int) = if d < -1 then 18446744073709551616 + (1 + d) else 1 + d := by
      rw [hD']; unfold tcN
      split <;> split <;> omega
    have hz : od = 0 ∨ y = 0 := by
      rcases hod1 with h0 | h0
      · exact .inl h0
      · refine .inr ?_
        rw [ey, if_neg (fun hh => h ⟨hh, by omega⟩)]
    refine ⟨E, y, od, 0, 0, D, D, D', od, ⟨lD, hE, hy', hod, ?_, es.symm, by decide, ?_, by decide, ?_, ?_, ?_, ?_, ?_⟩⟩
    · have := u64_and_nat od y (by omega) (by rw [ey]; split <;> omega)
      rw [this]
      rcases hz with e | e <;> rw [e] <;> simp
    · have := u64_xor_nat D 0 lD (by omega)
      rw [Nat.xor_zero] at this
      exact this
    · rw [IntKind.wrap_u64]; omega
    · rw [IntKind.wrap_u64, fD']; split <;> omega
    · rw [if_neg (by decide)]; exact hD'
    · have := u64_xor_nat od 0 (by omega) (by omega)
      rw [Nat.xor_zero] at this
      exact this
    · omega

theorem step_num {n sw od x t : Nat} {d f g : Int} (h : StIn (18446744073709551616 ^ n) t (d, f, g)) (hod : (od : Int) = g % 2) (hso : (sw = 1 ∧ od = 1 ∧ x = 0) ∨ (sw = 0 ∧ od = 1 ∧ x = 1) ∨ (sw = 0 ∧ od = 0 ∧ x = 0)) (es : sw = swN d g) :
    (selN x (selN sw (subN (tcN (18446744073709551616 ^ (n + 1)) g) (tcN (18446744073709551616 ^ (n + 1)) f) (n + 1)) (tcN (18446744073709551616 ^ (n + 1)) g) + tcN (18446744073709551616 ^ (n + 1)) f) (selN sw (subN (tcN (18446744073709551616 ^ (n + 1)) g) (tcN (18446744073709551616 ^ (n + 1)) f) (n + 1)) (tcN (18446744073709551616 ^ (n + 1)) g)) % 18446744073709551616 ^ (n + 1) = tcN (18446744073709551616 ^ (n + 1)) (g + ((g % 2) - 2 * (swN d g : Int)) * f)) ∧
    selN sw (tcN (18446744073709551616 ^ (n + 1)) g) (tcN (18446744073709551616 ^ (n + 1)) f) = tcN (18446744073709551616 ^ (n + 1)) (dst (d, f, g)).2.1 ∧
    tcN (18446744073709551616 ^ (n + 1)) (g + ((g % 2) - 2 * (swN d g : Int)) * f) / (9223372036854775808 * 18446744073709551616 ^ n) ≤ 1 ∧
    (tcN (18446744073709551616 ^ (n + 1)) (g + ((g % 2) - 2 * (swN d g : Int)) * f) + tcN (18446744073709551616 ^ (n + 1)) (g + ((g % 2) - 2 * (swN d g : Int)) * f) / (9223372036854775808 * 18446744073709551616 ^ n) % 2 * 18446744073709551616 ^ (n + 1)) / 2 = tcN (18446744073709551616 ^ (n + 1)) (dst (d, f, g)).2.2 := by
  obtain ⟨_, hf, hg⟩ := h
  dsimp only at hf hg
  have hP : 0 < 18446744073709551616 ^ n := Nat.pow_pos (by omega)
  rw [dst_eq, ← hod, ← es]
  have hs1 : sw = 0 ∨ sw = 1 := by omega
  have eB : (18446744073709551616 ^ (n + 1)) = 2 * (9223372036854775808 * 18446744073709551616 ^ n) := by rw [Nat.pow_succ]; omega
  obtain ⟨B, hB⟩ : ∃ B, B = 18446744073709551616 ^ (n + 1) := ⟨_, rfl⟩
  have hB2 : B = 2 ^ (64 * (n + 1)) := by rw [hB, B64]
  obtain ⟨H, hH⟩ : ∃ H, H = 9223372036854775808 * 18446744073709551616 ^ n := ⟨_, rfl⟩
  rw [← hB, ← hH] at eB
  rw [← hB, ← hH]
  generalize 18446744073709551616 ^ n = Q at *
  have h4 : 4 * Q ≤ B := by omega
  have hsub := tc_sub hg hf h4
  have hadd := tc_add hg hf h4
  have lg : tcN B g < B := tc_lt hg.1 hg.2 h4
  have ls : tcN B (g - f) < B := by rw [← hsub]; split <;> omega
  refine ⟨?_, ?_, ?_, ?_⟩
  · unfold selN subN
    rw [← hB2]
    rcases hso with ⟨rfl, rfl, rfl⟩ | ⟨rfl, rfl, rfl⟩ | ⟨rfl, rfl, rfl⟩
    · rw [if_neg (by decide), if_pos rfl, hsub, Nat.mod_eq_of_lt ls]
      congr 1
      omega
    · rw [if_pos rfl, if_neg (by decide), hadd]
      congr 1
      omega
    · rw [if_neg (by decide), if_neg (by decide), Nat.mod_eq_of_lt lg]
      congr 1
      omega
  · dsimp only
    unfold selN
    rcases hs1 with rfl | rfl
    · rw [if_neg (by decide), if_neg (by decide)]
    · rw [if_pos rfl, if_pos rfl]
  all_goals
    obtain ⟨X, hX⟩ : ∃ X, X = g + ((od : Int) - 2 * (sw : Int)) * f := ⟨_, rfl⟩
    have lX : -(2 * Q : Int) ≤ X ∧ X < 2 * Q := by
      rw [hX]
      rcases hso with ⟨rfl, rfl, rfl⟩ | ⟨rfl, rfl, rfl⟩ | ⟨rfl, rfl, rfl⟩ <;> omega
    rw [← hX, tc_sign lX eB (by omega) (by omega)]
  · unfold sgN; split <;> omega
  · exact tc_half lX eB (by omega)

theorem cells5 {W : World} {p : Nat} {a b c d e : Value} {t : TypeId} {fr : Nat × Nat} (h : W.heap[p]? = some (.cells #[a, b, c, d, e] t fr)) : W.cell? ⟨p, 0, none⟩ = some a ∧ W.cell? ⟨p, 1, none⟩ = some b ∧ W.cell? ⟨p, 2, none⟩ = some c ∧ W.cell? ⟨p, 3, none⟩ = some d ∧ W.cell? ⟨p, 4, none⟩ = some e :=
  ⟨(cell_of_row W p 0 _ _ _ h).trans rfl, (cell_of_row W p 1 _ _ _ h).trans rfl, (cell_of_row W p 2 _ _ _ h).trans rfl, (cell_of_row W p 3 _ _ _ h).trans rfl, (cell_of_row W p 4 _ _ _ h).trans rfl⟩

theorem frees5 {W : World} {p : Nat} {a b c d e : Value} {t : TypeId} (h : W.heap[p]? = some (.cells #[a, b, c, d, e] t (0, 0))) : W.frozen? ⟨p, 0, none⟩ = false ∧ W.frozen? ⟨p, 1, none⟩ = false ∧ W.frozen? ⟨p, 2, none⟩ = false ∧ W.frozen? ⟨p, 3, none⟩ = false ∧ W.frozen? ⟨p, 4, none⟩ = false := by
  simp [World.frozen?, h]

theorem put5 {W : World} {p : Nat} {a b c d e : Value} {t : TypeId} (h : W.heap[p]? = some (.cells #[a, b, c, d, e] t (0, 0))) (x y z u v : Value) :
    (((((W.setCell ⟨p, 0, none⟩ x).setCell ⟨p, 1, none⟩ y).setCell ⟨p, 2, none⟩ z).setCell ⟨p, 3, none⟩ u).setCell ⟨p, 4, none⟩ v).heap[p]? = some (.cells #[x, y, z, u, v] t (0, 0)) := by
  have h1 := heap_setCell_same W p 0 #[a, b, c, d, e] t x h
  have h2 := heap_setCell_same (W.setCell ⟨p, 0, none⟩ x) p 1 #[x, b, c, d, e] t y (by simpa using h1)
  have h3 := heap_setCell_same ((W.setCell ⟨p, 0, none⟩ x).setCell ⟨p, 1, none⟩ y) p 2 #[x, y, c, d, e] t z (by simpa using h2)
  have h4 := heap_setCell_same (((W.setCell ⟨p, 0, none⟩ x).setCell ⟨p, 1, none⟩ y).setCell ⟨p, 2, none⟩ z) p 3 #[x, y, z, d, e] t u (by simpa using h3)
  have h5 := heap_setCell_same ((((W.setCell ⟨p, 0, none⟩ x).setCell ⟨p, 1, none⟩ y).setCell ⟨p, 2, none⟩ z).setCell ⟨p, 3, none⟩ u) p 4 #[x, y, z, u, e] t v (by simpa using h4)
  simpa using h5

theorem kept5 (W : World) (p : Nat) (x y z u v : Value) : Kept (fun b => b = p) W (((((W.setCell ⟨p, 0, none⟩ x).setCell ⟨p, 1, none⟩ y).setCell ⟨p, 2, none⟩ z).setCell ⟨p, 3, none⟩ u).setCell ⟨p, 4, none⟩ v) :=
  (((((Kept.refl (fun b => b = p) W).setCell ⟨p, 0, none⟩ (fun _ => rfl) x).setCell ⟨p, 1, none⟩ (fun _ => rfl) y).setCell ⟨p, 2, none⟩ (fun _ => rfl) z).setCell ⟨p, 3, none⟩ (fun _ => rfl) u).setCell ⟨p, 4, none⟩ (fun _ => rfl) v

end Go.Proofs.Ytamkkmifbajdfaa
