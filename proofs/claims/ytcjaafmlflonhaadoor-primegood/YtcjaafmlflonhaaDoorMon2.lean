/- Melted of: MonC MonD MonM. -/
import Derived.Test.YtcjaafmlflonhaaDoorMonA
import Derived.Test.YtcjaafmlflonhaaDoorPro2
import Derived.Test.YtcjaafmlflonhaaDoorLim2
import Derived.Test.YtcjaafmlflonhaaDoorMonB

/- Package mont: fitted, lessened. -/
namespace Go.Proofs.YtcjaafmlflonhaaDoor
open Go.RowKit

theorem fit_digs {xs : List Nat} (hd : Digs 18446744073709551616 xs) (n : Nat) : xs.take n ++ List.replicate (n - (xs.take n).length) 0 = digs 18446744073709551616 (val 18446744073709551616 xs) n := by
  have hl : (xs.take n).length ≤ n := by rw [List.length_take]; omega
  refine digs_val (by omega) ((hd.take n).append (fun d h => by rw [(List.mem_replicate.1 h).2]; omega)) (by simp; omega) ?_
  rw [val_append, val_zeros _ (fun d h => (List.mem_replicate.1 h).2), Nat.mul_zero, Nat.add_zero, val_takeB (by omega) hd]

/-- Whether lessened takes the modulus away. -/
def lesT (X V c : Nat) : Nat := if c = 1 ∨ V ≤ X then 1 else 0

/-- What lessened answers. -/
def lesY (X V c n : Nat) : Nat := selN (lesT X V c) (subN X V n) X

theorem les_bits (X V c : Nat) (hc : c ≤ 1) : bits .or .u64 (c : Int) (bits .xor .u64 ((oneN (decide (X < V)) : Nat) : Int) 1) = ((lesT X V c : Nat) : Int) := by
  unfold lesT oneN
  have h01 : c = 0 ∨ c = 1 := by omega
  by_cases h2 : X < V
  · rcases h01 with h3 | h3
    · rw [h3, decide_eq_true h2, if_pos rfl, if_neg (by omega)]
      decide
    · rw [h3, decide_eq_true h2, if_pos rfl, if_pos (.inl rfl)]
      decide
  · rcases h01 with h3 | h3
    · rw [h3, decide_eq_false h2, if_neg (by decide), if_pos (.inr (by omega))]
      decide
    · rw [h3, decide_eq_false h2, if_neg (by decide), if_pos (.inl rfl)]
      decide

theorem lesT_le (X V c : Nat) : lesT X V c ≤ 1 := by unfold lesT; split <;> omega

/-- What lessened is for. -/
theorem les_ok {X V c n : Nat} (hX : X < 18446744073709551616 ^ n) (hV : V < 18446744073709551616 ^ n) (hc : c ≤ 1) (h : X + 18446744073709551616 ^ n * c < 2 * V) : lesY X V c n = (X + 18446744073709551616 ^ n * c) % V := by
  rw [← les_mod h]
  unfold lesY
  have h01 : c = 0 ∨ c = 1 := by omega
  have s1 : ∀ A B, selN 1 A B = A := fun A B => rfl
  have s0 : ∀ A B, selN 0 A B = B := fun A B => rfl
  rcases h01 with rfl | rfl
  · rw [Nat.mul_zero, Nat.add_zero]
    by_cases h1 : V ≤ X
    · rw [show lesT X V 0 = 1 from if_pos (Or.inr h1), s1, if_pos h1, subN, if_neg (by omega)]
    · rw [show lesT X V 0 = 0 from if_neg (by omega), s0, if_neg h1]
  · rw [Nat.mul_one] at h ⊢
    rw [show lesT X V 1 = 1 from if_pos (Or.inl rfl), s1, subN, if_pos (show X < V by omega), if_pos (by omega), B64]

end Go.Proofs.YtcjaafmlflonhaaDoor

/- Package mont: reduced, times. -/
namespace Go.Proofs.YtcjaafmlflonhaaDoor
open Go.RowKit

theorem own_tail {w : World} {base g N cap n L c : Nat} {zs : List Nat} (h : OwnN .u64 33 w base (.slice (some ⟨g, 0, none⟩) N cap) N zs) (hzl : zs.length = N) (hn : n + L = N) (hc : L ≤ c) (hm : c ≤ maxLen) : Row .u64 w (.slice (some ⟨g, n, none⟩) L c) (zs.drop n) := by
  have hsl : (zs.drop n).length = L := by rw [List.length_drop]; omega
  refine ⟨some ⟨g, n, none⟩, c, by rw [hsl], by omega, hm, (fun e => by cases e), fun i hi => ⟨g, n, rfl, ?_⟩⟩
  rw [hsl] at hi
  rw [World.ownsRow.cellAt h (n + i) (by omega), List.getElem?_map, List.getD_eq_getElem?_getD, List.getElem?_drop, List.getElem?_eq_getElem (by omega)]
  rfl

/-- What reduced and times leave. -/
def Reduced (a : World) (o0 : Tr) (m0 : List Ev) (n K X V : Nat) (w' : World) (v' : Value) : Prop :=
  ∃ (Y : Nat) (o' : Tr), OwnN .u64 33 w' a.heap.size v' n (digs 18446744073709551616 Y n) ∧ ((V * K + 1) % 18446744073709551616 = 0 → 0 < n → X < V * 18446744073709551616 ^ n → Y < V ∧ 18446744073709551616 ^ n * Y % V = X % V) ∧ Did a o0 (m0 ++ List.replicate (n + 2) (1, (n : Int), 0)) w' o'

/-- The numbers behind it. -/
theorem reduced_num {n K X V Q c : Nat} {zs : List Nat} (hzd : Digs 18446744073709551616 zs) (hzl : zs.length = n + n) (hc : c ≤ 1) (hV : V < 18446744073709551616 ^ n) (he : val 18446744073709551616 zs + 18446744073709551616 ^ (n + n) * c = X + V * Q) (hQ : Q < 18446744073709551616 ^ n) (hlow : (V * K + 1) % 18446744073709551616 = 0 → 0 < n → val 18446744073709551616 zs % 18446744073709551616 ^ n = 0) (hg : (V * K + 1) % 18446744073709551616 = 0) (hn : 0 < n) (hX : X < V * 18446744073709551616 ^ n) :
    lesY (val 18446744073709551616 (zs.drop n)) V c n < V ∧ 18446744073709551616 ^ n * lesY (val 18446744073709551616 (zs.drop n)) V c n % V = X % V := by
  have hV0 : 0 < V := by
    rcases Nat.eq_zero_or_pos V with h | h
    · rw [h] at hX; omega
    · exact h
  have hd := val_dropB (by omega) hzd n
  have hA : val 18446744073709551616 zs = 18446744073709551616 ^ n * val 18446744073709551616 (zs.drop n) := by
    have e := Nat.mod_add_div (val 18446744073709551616 zs) (18446744073709551616 ^ n)
    rw [hlow hg hn, Nat.zero_add, ← hd] at e
    exact e.symm
  have hT : val 18446744073709551616 (zs.drop n) < 18446744073709551616 ^ n := by
    have := val_lt (by omega) (hzd.drop n)
    rwa [List.length_drop, hzl, Nat.add_sub_cancel] at this
  rw [Nat.pow_add] at he
  obtain ⟨h1, h2⟩ := red_end hA he hQ hX
  rw [les_ok hT hV hc h1]
  refine ⟨Nat.mod_lt _ hV0, ?_⟩
  rw [← h2]
  generalize val 18446744073709551616 (zs.drop n) + 18446744073709551616 ^ n * c = Z
  rw [Nat.mul_mod, Nat.mod_mod, ← Nat.mul_mod]

end Go.Proofs.YtcjaafmlflonhaaDoor

/- Package mont: isMember. -/
namespace Go.Proofs.YtcjaafmlflonhaaDoor
open Go.RowKit

/-- Whether a number is a member, as a word. -/
def memN (l n X V : Nat) : Nat := if l = n ∧ X < V then 1 else 0

end Go.Proofs.YtcjaafmlflonhaaDoor
