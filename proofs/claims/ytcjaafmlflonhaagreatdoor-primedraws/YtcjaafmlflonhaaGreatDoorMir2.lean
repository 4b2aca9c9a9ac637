/- Package miller: numbers of the strong test in Montgomery's form. -/
import Derived.Test.YtcjaafmlflonhaaGreatDoorStr1
import Derived.Test.YtcjaafmlflonhaaGreatDoorPow1
namespace Go.Proofs.YtcjaafmlflonhaaGreatDoor
open Go.RowKit

theorem mon_inj {n V A B : Nat} (hodd : V % 2 = 1) (h : mon n V A = mon n V B) : A % V = B % V := by
  have hV : 0 < V := by omega
  refine mon_leave (n := n) hodd (Nat.mod_lt _ hV) ?_
  rw [← h]
  unfold mon
  rw [Nat.mod_mod, Nat.mul_mod, Nat.mod_mod, ← Nat.mul_mod]

theorem mon_same {n V A B : Nat} (hodd : V % 2 = 1) : mon n V A = mon n V B ↔ A % V = B % V := by
  refine ⟨mon_inj hodd, fun h => ?_⟩
  rw [← mon_mod n V A, ← mon_mod n V B, h]

theorem mon_last {n V : Nat} (hodd : V % 2 = 1) (h1 : 1 < V) : V - mon n V 1 = mon n V (V - 1) := by
  have hV : 0 < V := by omega
  have ha := mon_lt (n := n) (X := 1) hV
  have hb := mon_lt (n := n) (X := V - 1) hV
  have hs : (mon n V 1 + mon n V (V - 1)) % V = 0 := by
    unfold mon
    rw [← Nat.add_mod, ← Nat.mul_add, show 1 + (V - 1) = V by omega, Nat.mul_mod_left]
  have h0 : mon n V 1 ≠ 0 := fun h => by
    have := mon_inj hodd (h.trans (mon_zero n V).symm)
    rw [Nat.mod_eq_of_lt h1, Nat.zero_mod] at this
    omega
  obtain ⟨q, hq⟩ := Nat.dvd_of_mod_eq_zero hs
  generalize mon n V 1 = a at *
  generalize mon n V (V - 1) = b at *
  rcases q with _ | _ | q
  · omega
  · omega
  · rw [show q + 1 + 1 = q + 2 by omega, Nat.mul_add] at hq
    have : V * 2 ≤ V * q + V * 2 := Nat.le_add_left _ _
    omega

theorem mon_sub {n V : Nat} (hodd : V % 2 = 1) (h1 : 1 < V) : subN V (mon n V 1) n = mon n V (V - 1) := by
  have ha := mon_lt (n := n) (X := 1) (show 0 < V by omega)
  unfold subN
  rw [if_neg (by omega)]
  exact mon_last hodd h1

/-- What the strong test says, of a base whose power B stands at the beginning of s squares. -/
theorem strong_of {N A s : Nat} (hs : IsTz (N - 1) s) : strongP N A ↔ (A ^ ((N - 1) / 2 ^ s) % N = 1 ∨ ∃ i, i < s ∧ (A ^ ((N - 1) / 2 ^ s)) ^ 2 ^ i % N = N - 1) := by
  constructor
  · rintro ⟨t, ht, h⟩
    obtain rfl := ht.uniq hs
    exact h
  · exact fun h => ⟨s, hs, h⟩

theorem sq_one {N B i : Nat} (h1 : 1 < N) (h : B ^ 2 ^ i % N = 1) : ∀ j, i ≤ j → B ^ 2 ^ j % N = 1 := by
  intro j hj
  obtain ⟨d, rfl⟩ : ∃ d, j = i + d := ⟨j - i, by omega⟩
  clear hj
  induction d with
  | zero => exact h
  | succ d ih =>
    rw [← Nat.add_assoc, ← sq_pow, ih, Nat.mul_one, Nat.mod_eq_of_lt h1]

theorem sq_mon (n V B i : Nat) : mon n V (B ^ 2 ^ i * B ^ 2 ^ i) = mon n V (B ^ 2 ^ (i + 1)) := by
  rw [← Nat.pow_add, show 2 ^ i + 2 ^ i = 2 ^ (i + 1) by rw [Nat.pow_succ]; omega]

end Go.Proofs.YtcjaafmlflonhaaGreatDoor
