/- Package product: bringDown, divideByBits. -/
import Derived.Test.YtcdeankllgpnfabLimD
import Derived.Test.YtcdeankllgpnfabLimE
import Derived.Test.YtcdeankllgpnfabLimF
import Derived.Test.YtcdeankllgpnfabLimG
import Derived.Test.YtcdeankllgpnfabPrB
namespace Go.Proofs.Ytcdeankllgpnfab
open Go.RowKit

/-- How often (0 or 1) the divisor m goes into twice a rest and a bit, as it is reckoned in n words. -/
def takenN (V M n : Nat) : Nat := if 18446744073709551616 ^ n ≤ V ∨ M ≤ V % 18446744073709551616 ^ n then 1 else 0

/-- What is left of it. -/
def leftN (V M n : Nat) : Nat := selN (takenN V M n) (subN (V % 18446744073709551616 ^ n) M n) (V % 18446744073709551616 ^ n)

theorem taken_le (V M n : Nat) : takenN V M n ≤ 1 := by unfold takenN; split <;> omega

theorem taken_bits (V M n : Nat) (hV : V < 2 * 18446744073709551616 ^ n) : bits .or .u64 ((V / 18446744073709551616 ^ n : Nat) : Int) (bits .xor .u64 ((oneN (decide (V % 18446744073709551616 ^ n < M)) : Nat) : Int) 1) = (takenN V M n : Int) := by
  have hp : 0 < 18446744073709551616 ^ n := Nat.pow_pos (by omega)
  have hq : V / 18446744073709551616 ^ n < 2 := by rw [Nat.div_lt_iff_lt_mul hp]; exact hV
  unfold takenN oneN
  generalize 18446744073709551616 ^ n = P at *
  have hc : V / P = 0 ∨ V / P = 1 := by
    generalize V / P = d at *
    omega
  have h1 : P ≤ V ↔ V / P = 1 := by
    constructor
    · intro h
      exact Nat.le_antisymm (Nat.le_of_lt_succ hq) (Nat.div_pos h hp)
    · intro h
      rcases Nat.lt_or_ge V P with h2 | h2
      · rw [Nat.div_eq_of_lt h2] at h; omega
      · exact h2
  by_cases h2 : V % P < M
  · rcases hc with h3 | h3
    · rw [h3, decide_eq_true h2, if_pos rfl, if_neg (by rw [h1, h3]; omega)]
      decide
    · rw [h3, decide_eq_true h2, if_pos rfl, if_pos (by rw [h1, h3]; exact .inl rfl)]
      decide
  · rcases hc with h3 | h3
    · rw [h3, decide_eq_false h2, if_neg (by decide), if_pos (.inr (by omega))]
      decide
    · rw [h3, decide_eq_false h2, if_neg (by decide), if_pos (.inr (by omega))]
      decide

theorem subN_lt {X Y n : Nat} (hX : X < 18446744073709551616 ^ n) : subN X Y n < 18446744073709551616 ^ n := by
  unfold subN
  rw [← B64]
  split <;> omega

set_option maxRecDepth 20000 in
set_option maxHeartbeats 2000000 in
/-- bringDown. -/
theorem pBring (o : Tr) (u v : Value) (xs ys : List Nat) (bit : Nat) (hbit : bit < 18446744073709551616) (T : Nat) (w : World) (ht : TrRoom w o 3) (hu : RowT w o u xs) (hv : RowT w o v ys) (hdx : Digs 18446744073709551616 xs) (hdy : Digs 18446744073709551616 ys) (hl : xs.length = ys.length) (hL : ys.length ≤ 100000)
    (hT : T = takenN (2 * val 18446744073709551616 xs + bit % 2) (val 18446744073709551616 ys) ys.length) :
    Calls Try.prog 39 #[trPtr o, u, v, .int .u64 (bit : Nat)] w fun e w' => ∃ v', e = .returned (.tuple #[v', .int .u64 (T : Nat)]) ∧
      OwnN .u64 24 w' w.heap.size v' ys.length (digs 18446744073709551616 (leftN (2 * val 18446744073709551616 xs + bit % 2) (val 18446744073709551616 ys) ys.length) ys.length) ∧ ∃ o', Did w o [(1, (ys.length : Nat), 0), (1, (ys.length : Nat), 0), (1, (ys.length : Nat), 0)] w' o' := by
  have hX : val 18446744073709551616 xs < 18446744073709551616 ^ ys.length := by rw [← hl]; exact val_lt (by omega) hdx
  obtain ⟨V, hV⟩ : ∃ V, V = 2 * val 18446744073709551616 xs + bit % 2 := ⟨_, rfl⟩
  have hVb : V < 2 * 18446744073709551616 ^ ys.length := by omega
  have hLf := lLeft o u xs bit hbit w (ht.less (by omega)) hu hdx (by omega)
  rw [← hV, hl] at hLf
  rw [← hV] at hT ⊢
  have htb := taken_bits V (val 18446744073709551616 ys) ys.length hVb
  rw [← hT] at htb
  have hTle : T ≤ 1 := by rw [hT]; exact taken_le _ _ _
  have hlf : leftN V (val 18446744073709551616 ys) ys.length = selN T (subN (V % 18446744073709551616 ^ ys.length) (val 18446744073709551616 ys) ys.length) (V % 18446744073709551616 ^ ys.length) := by rw [hT]; rfl
  have HV := toHid hv
  have HT := toHid ht
  have HDY := toHid hdy
  have HLF := toHid hlf
  obtain ⟨po, hpo⟩ : ∃ po, trPtr o = .pointer po := by
    cases o with
    | none => exact ⟨_, rfl⟩
    | some x => exact ⟨_, rfl⟩
  have HPO := toHid hpo
  rw [hpo] at hLf ⊢
  obtain ⟨c1, hc1⟩ : ∃ c1, c1 = V / 18446744073709551616 ^ ys.length := ⟨_, rfl⟩
  rw [← hc1] at hLf htb
  obtain ⟨c2, hc2⟩ : ∃ c2, c2 = oneN (decide (V % 18446744073709551616 ^ ys.length < val 18446744073709551616 ys)) := ⟨_, rfl⟩
  rw [← hc2] at htb
  have HC2 := toHid hc2
  obtain ⟨n, hn⟩ : ∃ n, n = ys.length := ⟨_, rfl⟩
  have HN := toHid hn
  rw [← hn] at hLf ⊢
  clear hu hv ht hdx hdy hl hV hX hT hVb hlf hpo hc1 hc2 hn
  go_enter Try.func39, Try.ntmps39
  go_wp2_with fail
  refine hLf.mono ?_
  rintro e w1 ⟨v1, rfl, ho1, o1, d1⟩
  have r1 : TrRoom w1 o1 2 := d1.room HT.out
  have hd1 : Digs 18446744073709551616 (digs 18446744073709551616 V n) := digs_digs (by omega) _ _
  have row1 := own_rowT ho1 (digs_length _ _ _) r1.1
  have hv1 := HV.out.did d1
  have hSb := lSub o1 _ _ _ _ w1 (r1.less (by omega)) row1 hv1 hd1 HDY.out (by rw [digs_length, HN.out]; omega) (by omega)
  rw [d1.ptr, HPO.out, val_digs, digs_length, ← HN.out, Nat.max_self] at hSb
  rw [HN.out, ← HC2.out, ← HN.out] at hSb
  clear hLf
  go_wp2_with fail
  refine hSb.mono ?_
  rintro e w2 ⟨v2, rfl, ho2, o2, d2⟩
  have r2 : TrRoom w2 o2 1 := d2.room r1
  have row2 := own_rowT ho2 (digs_length _ _ _) r2.1
  have row12 := row1.did d2
  have hSl := lSelect o2 T (by omega) _ _ _ _ w2 r2 row2 row12 (digs_digs (by omega) _ _) hd1 (by rw [digs_length, HN.out]; omega) (by rw [digs_length, HN.out]; omega)
  rw [d2.ptr, d1.ptr, HPO.out, val_digs, val_digs, digs_length, digs_length, Nat.max_self, Nat.mod_eq_of_lt (subN_lt (Nat.mod_lt _ (Nat.pow_pos (by omega))))] at hSl
  have hlf := HLF.out
  rw [← HN.out] at hlf
  rw [← hlf] at hSl
  clear hSb
  go_wp2_with fail
  refine hSl.mono ?_
  rintro e w3 ⟨v3, rfl, ho3, o3, d3⟩
  go_wp2_with fail
  go_ret2
  refine ⟨_, rfl, own_base ho3 (fun b hb => ?_), o3, (d1.trans d2).trans d3⟩
  have := (ho3.lt b hb).1
  have := d1.size
  have := d2.size
  omega

end Go.Proofs.Ytcdeankllgpnfab
