/- Layer 10 with no trace: Of as the laws call it; the laws' first test. -/
import Derived.Test.YtiljkgoafknefaaGreatIva4
import Derived.Test.YtiljkgoafknefaaGreatLaw6
namespace Go.Proofs.YtiljkgoafknefaaGreat
open Go.RowKit

/-- What Of answers, with the error E, the inverse T, the flag F. -/
def Of10 (P : Prop) (n A M E T F : Nat) (RL : List Nat) : Prop := ((E = 0 ∧ P) ∨ (E = 1 ∧ ¬ P)) ∧ (E = 0 → IsInv A M T F) ∧ (E = 1 → F = 0) ∧ RL = if E = 0 then digs 18446744073709551616 T n else []

theorem ofans_none {w w' : World} {P : Prop} {n A M is c : Nat} {v' : Value} (h : OfAns w none P n A M w' v' is c) : ∃ T RL, Row .u64 w' v' RL ∧ Kept Nought w w' ∧ Of10 P n A M c T is RL := by
  obtain ⟨zs, m, o', h1, _, d, hp, hn⟩ := h
  have k := d.none.2
  by_cases hP : P
  · obtain ⟨rfl, _, Y, rfl, hY⟩ := hp hP
    exact ⟨Y, _, h1, k, .inl ⟨rfl, hP⟩, fun _ => hY, fun h => absurd h (by decide), rfl⟩
  · obtain ⟨rfl, rfl, rfl⟩ := hn hP
    exact ⟨0, [], h1, k, .inr ⟨rfl, hP⟩, fun h => absurd h (by decide), fun _ => rfl, rfl⟩

/-- Of with no trace. -/
theorem of10 (ao bo xo : Option Addr) (n l K mcap rcap N1 xc : Nat) (ms rs xs : List Nat) (w : World) (hm : Row .u64 w (.slice ao n mcap) ms) (hr : Row .u64 w (.slice bo l rcap) rs) (hx : Row .u64 w (.slice xo N1 xc) xs) (hmd : Digs 18446744073709551616 ms) (hrd : Digs 18446744073709551616 rs) (hdx : Digs 18446744073709551616 xs) (hK : K < 18446744073709551616) (hnb : n ≤ 1000000) :
    Calls Tryz.prog 74 #[.pointer none, .agg #[.slice ao n mcap, .int .u64 (K : Nat), .slice bo l rcap], .slice xo N1 xc] w fun e w' => ∃ (v' : Value) (F E : Nat), e = .returned (.tuple #[v', .int .u64 (F : Nat), .int .i64 (E : Nat)]) ∧ ∃ T RL, Row .u64 w' v' RL ∧ Kept Nought w w' ∧ Hid (Of10 (okMod ms K rs ∧ (N1 = n ∧ val 18446744073709551616 xs < val 18446744073709551616 ms)) n (val 18446744073709551616 xs) (val 18446744073709551616 ms) E T F RL) := by
  refine (iOf none ao bo xo n l K mcap rcap N1 xc ms rs xs w (TrRoom.none _ _ (by omega)) (RowT.none hm) (RowT.none hr) (RowT.none hx) hmd hrd hdx hK hnb (.inr rfl)).mono ?_
  rintro e w' ⟨v', is, c, rfl, h⟩
  obtain ⟨T, RL, h1, h2, h3⟩ := ofans_none h
  exact ⟨v', is, c, rfl, T, RL, h1, h2, h3⟩

theorem IsInv.uniq {A M Y is T F : Nat} (hM : 2 ≤ M) (h : IsInv A M Y is) (k : IsInv A M T F) : Y = T ∧ is = F := by
  by_cases hg : Nat.gcd A M = 1
  · obtain ⟨a1, a2, a3⟩ := h.1 hg
    obtain ⟨b1, b2, b3⟩ := k.1 hg
    have := red_uniq (P := A) (T := T) (Y := Y) (z := 1) b2 a1 (by rw [a2, Nat.mod_eq_of_lt (by omega)])
    rw [Nat.mul_one, Nat.mod_eq_of_lt b1] at this
    exact ⟨this, by omega⟩
  · obtain ⟨a1, a2⟩ := h.2 hg
    obtain ⟨b1, b2⟩ := k.2 hg
    omega

theorem row1v (W : World) (z : Nat) : Row .u64 (W.alloc (.cells #[.int .u64 (z : Nat)] 24)) (.slice (some ⟨W.heap.size, 0, none⟩) 1 1) [z] :=
  Row.of_block (k := .u64) (w := W.alloc (.cells #[.int .u64 (z : Nat)] 24)) (g := W.heap.size) (zs := [z]) (t := 24) (heap_alloc_new _ _) rfl (by unfold maxLen; omega)

theorem ex10 : montE 15 = 0 ∧ modM 15 = [15] ∧ modR 15 = [1] := by decide

theorem ex10v : val 18446744073709551616 [2] = 2 ∧ val 18446744073709551616 [5] = 5 ∧ val 18446744073709551616 [15] = 15 := by decide

theorem ex10g : Nat.gcd 2 15 = 1 ∧ Nat.gcd 5 15 ≠ 1 := by decide

theorem ex10a {P : Prop} {E T F : Nat} {RL : List Nat} (hP : P) (h : Of10 P 1 2 15 E T F RL) : E = 0 ∧ F = 1 ∧ RL = [8] := by
  obtain ⟨h1, h2, _, h4⟩ := h
  rcases h1 with ⟨rfl, _⟩ | ⟨_, hn⟩
  · obtain ⟨a1, a2, a3⟩ := (h2 rfl).1 ex10g.1
    have : T = 8 := by omega
    subst this
    rw [if_pos rfl] at h4
    exact ⟨rfl, a3, h4⟩
  · exact absurd hP hn

theorem ex10b {P : Prop} {E T F : Nat} {RL : List Nat} (hP : P) (h : Of10 P 1 5 15 E T F RL) : E = 0 ∧ F = 0 := by
  obtain ⟨h1, h2, _, h4⟩ := h
  rcases h1 with ⟨rfl, _⟩ | ⟨_, hn⟩
  · exact ⟨rfl, ((h2 rfl).2 ex10g.2).2⟩
  · exact absurd hP hn

end Go.Proofs.YtiljkgoafknefaaGreat
