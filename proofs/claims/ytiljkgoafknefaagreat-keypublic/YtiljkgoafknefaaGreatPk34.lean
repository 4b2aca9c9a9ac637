/- Put together of: Law6 Law10. -/
import Derived.Test.YtiljkgoafknefaaGreatPk5
import Derived.Test.YtiljkgoafknefaaGreatPk20
import Derived.Test.YtiljkgoafknefaaGreatPk23
import Derived.Test.YtiljkgoafknefaaGreatPk25
import Derived.Test.YtiljkgoafknefaaGreatPk27
import Derived.Test.YtiljkgoafknefaaGreatPk28
import Derived.Test.YtiljkgoafknefaaGreatPk33
import Derived.Deep.RegionHeld3

/- Melted of: L6A L6B L6C. -/

/- The laws' small functions of layers 6 to 8: few, Same, as. -/
namespace Go.Proofs.YtiljkgoafknefaaGreat
open Go.RowKit

end Go.Proofs.YtiljkgoafknefaaGreat

/- The laws' first test of layer 6. -/
namespace Go.Proofs.YtiljkgoafknefaaGreat
open Go.RowKit

/-- What Setup answers is a modulus. -/
theorem setup_ok {V K : Nat} (h : montE V = 0) (hK : isKf V K) : okMod (modM V) K (modR V) ∧ (modM V).length = wordsN V ∧ (modR V).length = wordsN V ∧ val 18446744073709551616 (modM V) = V ∧ Digs 18446744073709551616 (modM V) ∧ Digs 18446744073709551616 (modR V) := by
  have hM : modM V = digs 18446744073709551616 V (wordsN V) := by unfold modM; rw [if_pos h]
  have hR : modR V = digs 18446744073709551616 (2 ^ (128 * wordsN V) % V) (wordsN V) := by unfold modR; rw [if_pos h]
  have hv : val 18446744073709551616 (modM V) = V := by rw [hM, val_digs, Nat.mod_eq_of_lt ((wordsN_le V _).1 (Nat.le_refl _))]
  refine ⟨?_, by rw [hM, digs_length], by rw [hR, digs_length], hv, by rw [hM]; exact digs_digs (by omega) _ _, by rw [hR]; exact digs_digs (by omega) _ _⟩
  unfold okMod
  rw [hv]
  exact ⟨h, rfl, hK, rfl⟩

end Go.Proofs.YtiljkgoafknefaaGreat

/- Both sides of layer 6 with no trace: Mul, Enter, Leave, One. -/
namespace Go.Proofs.YtiljkgoafknefaaGreat
open Go.RowKit

end Go.Proofs.YtiljkgoafknefaaGreat


/- Layer 10 with no trace: Of as the laws call it; the laws' first test. -/
namespace Go.Proofs.YtiljkgoafknefaaGreat
open Go.RowKit

/-- What Of answers, with the error E, the inverse T, the flag F. -/
def Of10 (P : Prop) (n A M E T F : Nat) (RL : List Nat) : Prop := ((E = 0 ∧ P) ∨ (E = 1 ∧ ¬ P)) ∧ (E = 0 → IsInv A M T F) ∧ (E = 1 → F = 0) ∧ RL = if E = 0 then digs 18446744073709551616 T n else []

theorem ofans_none {w w' : World} {P : Prop} {n A M is c : Nat} {v' : Value} (h : OfAns w none P n A M w' v' is c) : ∃ T RL, Row .u64 w' v' RL ∧ Kept Nought w w' ∧ Of10 P n A M c T is RL := by
  obtain ⟨zs, m, o', h1, _, d, hp, hn⟩ := h
  have k := d.none.2
  by_cases hP : P
  · obtain ⟨rfl, _, Y, rfl, hY⟩ := hp hP
    exact ⟨Y, _, h1, k, .inl ⟨rfl, hP⟩, fun _ => hY, fun h => absurd h (by decide), rfl⟩
  · obtain ⟨rfl, rfl, rfl⟩ := hn hP
    exact ⟨0, [], h1, k, .inr ⟨rfl, hP⟩, fun h => absurd h (by decide), fun _ => rfl, rfl⟩

/-- Of with no trace. -/
theorem of10 (ao bo xo : Option Addr) (n l K mcap rcap N1 xc : Nat) (ms rs xs : List Nat) (w : World) (hm : Row .u64 w (.slice ao n mcap) ms) (hr : Row .u64 w (.slice bo l rcap) rs) (hx : Row .u64 w (.slice xo N1 xc) xs) (hmd : Digs 18446744073709551616 ms) (hrd : Digs 18446744073709551616 rs) (hdx : Digs 18446744073709551616 xs) (hK : K < 18446744073709551616) (hnb : n ≤ 1000000) :
    Calls Tryz.prog 74 #[.pointer none, .agg #[.slice ao n mcap, .int .u64 (K : Nat), .slice bo l rcap], .slice xo N1 xc] w fun e w' => ∃ (v' : Value) (F E : Nat), e = .returned (.tuple #[v', .int .u64 (F : Nat), .int .i64 (E : Nat)]) ∧ ∃ T RL, Row .u64 w' v' RL ∧ Kept Nought w w' ∧ Hid (Of10 (okMod ms K rs ∧ (N1 = n ∧ val 18446744073709551616 xs < val 18446744073709551616 ms)) n (val 18446744073709551616 xs) (val 18446744073709551616 ms) E T F RL) := by
  refine (iOf none ao bo xo n l K mcap rcap N1 xc ms rs xs w (TrRoom.none _ _ (by omega)) (RowT.none hm) (RowT.none hr) (RowT.none hx) hmd hrd hdx hK hnb (.inr rfl)).mono ?_
  rintro e w' ⟨v', is, c, rfl, h⟩
  obtain ⟨T, RL, h1, h2, h3⟩ := ofans_none h
  exact ⟨v', is, c, rfl, T, RL, h1, h2, h3⟩

theorem IsInv.uniq {A M Y is T F : Nat} (hM : 2 ≤ M) (h : IsInv A M Y is) (k : IsInv A M T F) : Y = T ∧ is = F := by
  by_cases hg : Nat.gcd A M = 1
  · obtain ⟨a1, a2, a3⟩ := h.1 hg
    obtain ⟨b1, b2, b3⟩ := k.1 hg
    have := red_uniq (P := A) (T := T) (Y := Y) (z := 1) b2 a1 (by rw [a2, Nat.mod_eq_of_lt (by omega)])
    rw [Nat.mul_one, Nat.mod_eq_of_lt b1] at this
    exact ⟨this, by omega⟩
  · obtain ⟨a1, a2⟩ := h.2 hg
    obtain ⟨b1, b2⟩ := k.2 hg
    omega

end Go.Proofs.YtiljkgoafknefaaGreat

