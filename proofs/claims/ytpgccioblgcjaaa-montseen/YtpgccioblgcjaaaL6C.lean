/- Both sides of layer 6 with no trace: Mul, Enter, Leave, One. -/
import Derived.Test.YtpgccioblgcjaaaMonS
import Derived.Test.YtpgccioblgcjaaaRef6o
import Derived.Test.YtpgccioblgcjaaaL6B
namespace Go.Proofs.Ytpgccioblgcjaaa
open Go.RowKit

/-- Mul with no trace. -/
theorem mul6 (ao bo xo yo : Option Addr) (n l K mcap rcap N1 N2 xc yc E : Nat) (ms rs xs ys : List Nat) (w : World)
    (hm : Row .u64 w (.slice ao n mcap) ms) (hr : Row .u64 w (.slice bo l rcap) rs) (hx : Row .u64 w (.slice xo N1 xc) xs) (hy : Row .u64 w (.slice yo N2 yc) ys) (hmd : Digs 18446744073709551616 ms) (hrd : Digs 18446744073709551616 rs) (hdx : Digs 18446744073709551616 xs) (hdy : Digs 18446744073709551616 ys) (hK : K < 18446744073709551616) (hnb : n ≤ 300)
    (hE : E = 0 ↔ okMod ms K rs ∧ (N1 = n ∧ val 18446744073709551616 xs < val 18446744073709551616 ms) ∧ (N2 = n ∧ val 18446744073709551616 ys < val 18446744073709551616 ms)) (hE1 : E ≤ 1) :
    Calls Try.prog 17 #[.pointer none, .agg #[.slice ao n mcap, .int .u64 (K : Nat), .slice bo l rcap], .slice xo N1 xc, .slice yo N2 yc] w fun e w' => ∃ v', e = .returned (.tuple #[v', .int .i64 (E : Int)]) ∧ Kept Nought w w' ∧ ∃ Y, Row .u64 w' v' (if E = 0 then digs 18446744073709551616 Y n else []) ∧ (E = 0 → MulG n (val 18446744073709551616 ms) (val 18446744073709551616 xs) (val 18446744073709551616 ys) Y) := by
  refine (mMul none ao bo xo yo n l K mcap rcap N1 N2 xc yc E ms rs xs ys w (TrRoom.none _ _ (by omega)) (RowT.none hm) (RowT.none hr) (RowT.none hx) (RowT.none hy) hmd hrd hdx hdy hK hnb hE hE1).mono ?_
  rintro e w' ⟨v', rfl, ⟨Y, h1, h2⟩, _, o', d⟩
  exact ⟨v', rfl, d.none.2, Y, h1, h2⟩

/-- The plain Mul: what mont.Mul may answer. -/
theorem mulR6 (ao bo xo yo : Option Addr) (n l K mcap rcap N1 N2 xc yc E : Nat) (ms rs xs ys : List Nat) (w : World)
    (hm : Row .u64 w (.slice ao n mcap) ms) (hr : Row .u64 w (.slice bo l rcap) rs) (hx : Row .u64 w (.slice xo N1 xc) xs) (hy : Row .u64 w (.slice yo N2 yc) ys) (hmd : Digs 18446744073709551616 ms) (hdx : Digs 18446744073709551616 xs) (hdy : Digs 18446744073709551616 ys) (hnb : n ≤ 300)
    (hE : E = 0 ↔ okMod ms K rs ∧ (N1 = n ∧ val 18446744073709551616 xs < val 18446744073709551616 ms) ∧ (N2 = n ∧ val 18446744073709551616 ys < val 18446744073709551616 ms)) (hE1 : E ≤ 1) (Y : Nat) (hY : E = 0 → MulG n (val 18446744073709551616 ms) (val 18446744073709551616 xs) (val 18446744073709551616 ys) Y) :
    Calls Try.prog 18 #[.agg #[.slice ao n mcap, .int .u64 (K : Nat), .slice bo l rcap], .slice xo N1 xc, .slice yo N2 yc] w fun e w' => ∃ v', e = .returned (.tuple #[v', .int .i64 (E : Int)]) ∧ Kept Nought w w' ∧ Row .u64 w' v' (if E = 0 then digs 18446744073709551616 Y n else []) := by
  by_cases hok : okMod ms K rs
  · have hE' : E = if (N1 = n ∧ val 18446744073709551616 xs < val 18446744073709551616 ms) ∧ (N2 = n ∧ val 18446744073709551616 ys < val 18446744073709551616 ms) then 0 else 1 := by
      by_cases h : (N1 = n ∧ val 18446744073709551616 xs < val 18446744073709551616 ms) ∧ (N2 = n ∧ val 18446744073709551616 ys < val 18446744073709551616 ms)
      · rw [if_pos h]; exact hE.2 ⟨hok, h⟩
      · rw [if_neg h]
        have : E ≠ 0 := fun e => h (hE.1 e).2
        omega
    refine (q6Mul ao bo xo yo n l N1 N2 mcap rcap xc yc K ms rs xs ys hok E hE' Y hY _ rfl w hm hr hx hy hmd hdx hdy).mono ?_
    rintro e w' ⟨v', rfl, h1, h2⟩
    exact ⟨v', rfl, h2, h1⟩
  · have hE0 : E = 1 := by
      have : E ≠ 0 := fun e => hok (hE.1 e).1
      omega
    subst hE0
    refine (q6BadMul ao bo n l mcap rcap K ms rs hok _ _ w hm hr hmd (by omega)).mono ?_
    rintro e w' ⟨rfl, h2⟩
    exact ⟨_, rfl, h2, Row.nil _ _⟩

/-- Enter with no trace. -/
theorem enter6 (ao bo xo : Option Addr) (n l K mcap rcap N1 xc E : Nat) (ms rs xs : List Nat) (w : World)
    (hm : Row .u64 w (.slice ao n mcap) ms) (hr : Row .u64 w (.slice bo l rcap) rs) (hx : Row .u64 w (.slice xo N1 xc) xs) (hmd : Digs 18446744073709551616 ms) (hrd : Digs 18446744073709551616 rs) (hdx : Digs 18446744073709551616 xs) (hK : K < 18446744073709551616) (hnb : n ≤ 300)
    (hE : E = 0 ↔ okMod ms K rs ∧ (N1 = n ∧ val 18446744073709551616 xs < val 18446744073709551616 ms)) (hE1 : E ≤ 1) :
    Calls Try.prog 20 #[.pointer none, .agg #[.slice ao n mcap, .int .u64 (K : Nat), .slice bo l rcap], .slice xo N1 xc] w fun e w' => ∃ v', e = .returned (.tuple #[v', .int .i64 (E : Int)]) ∧ Kept Nought w w' ∧ Row .u64 w' v' (if E = 0 then digs 18446744073709551616 (2 ^ (64 * n) * val 18446744073709551616 xs % val 18446744073709551616 ms) n else []) := by
  refine (mEnter none ao bo xo n l K mcap rcap N1 xc E ms rs xs w (TrRoom.none _ _ (by omega)) (RowT.none hm) (RowT.none hr) (RowT.none hx) hmd hrd hdx hK hnb hE hE1).mono ?_
  rintro e w' ⟨v', rfl, ⟨Y, h1, h2⟩, _, o', d⟩
  refine ⟨v', rfl, d.none.2, ?_⟩
  by_cases h0 : E = 0
  · rw [if_pos h0] at h1 ⊢
    have h3 : Y = 2 ^ (64 * n) * val 18446744073709551616 xs % val 18446744073709551616 ms := h2 h0
    rw [← h3]
    exact h1
  · rw [if_neg h0] at h1 ⊢
    exact h1

theorem enterR6 (ao bo xo : Option Addr) (n l K mcap rcap N1 xc E : Nat) (ms rs xs : List Nat) (w : World)
    (hm : Row .u64 w (.slice ao n mcap) ms) (hr : Row .u64 w (.slice bo l rcap) rs) (hx : Row .u64 w (.slice xo N1 xc) xs) (hmd : Digs 18446744073709551616 ms) (hdx : Digs 18446744073709551616 xs) (hnb : n ≤ 300)
    (hE : E = 0 ↔ okMod ms K rs ∧ (N1 = n ∧ val 18446744073709551616 xs < val 18446744073709551616 ms)) (hE1 : E ≤ 1) :
    Calls Try.prog 21 #[.agg #[.slice ao n mcap, .int .u64 (K : Nat), .slice bo l rcap], .slice xo N1 xc] w fun e w' => ∃ v', e = .returned (.tuple #[v', .int .i64 (E : Int)]) ∧ Kept Nought w w' ∧ Row .u64 w' v' (if E = 0 then digs 18446744073709551616 (2 ^ (64 * n) * val 18446744073709551616 xs % val 18446744073709551616 ms) n else []) := by
  by_cases hok : okMod ms K rs
  · have hE' : E = if (N1 = n ∧ val 18446744073709551616 xs < val 18446744073709551616 ms) then 0 else 1 := by
      by_cases h : (N1 = n ∧ val 18446744073709551616 xs < val 18446744073709551616 ms)
      · rw [if_pos h]; exact hE.2 ⟨hok, h⟩
      · rw [if_neg h]
        have : E ≠ 0 := fun e => h (hE.1 e).2
        omega
    refine (q6Enter ao bo xo n l N1 mcap rcap xc K ms rs xs hok E hE' _ rfl w hm hr hx hmd hdx).mono ?_
    rintro e w' ⟨v', rfl, h1, _, h2⟩
    exact ⟨v', rfl, h2, h1⟩
  · have hE0 : E = 1 := by
      have : E ≠ 0 := fun e => hok (hE.1 e).1
      omega
    subst hE0
    refine (q6Bad1 21 (.inl rfl) ao bo n l mcap rcap K ms rs hok _ w hm hr hmd (by omega)).mono ?_
    rintro e w' ⟨rfl, h2⟩
    exact ⟨_, rfl, h2, Row.nil _ _⟩

/-- Leave with no trace. -/
theorem leave6 (ao bo xo : Option Addr) (n l K mcap rcap N1 xc E : Nat) (ms rs xs : List Nat) (w : World)
    (hm : Row .u64 w (.slice ao n mcap) ms) (hr : Row .u64 w (.slice bo l rcap) rs) (hx : Row .u64 w (.slice xo N1 xc) xs) (hmd : Digs 18446744073709551616 ms) (hrd : Digs 18446744073709551616 rs) (hdx : Digs 18446744073709551616 xs) (hK : K < 18446744073709551616) (hnb : n ≤ 300)
    (hE : E = 0 ↔ okMod ms K rs ∧ (N1 = n ∧ val 18446744073709551616 xs < val 18446744073709551616 ms)) (hE1 : E ≤ 1) :
    Calls Try.prog 22 #[.pointer none, .agg #[.slice ao n mcap, .int .u64 (K : Nat), .slice bo l rcap], .slice xo N1 xc] w fun e w' => ∃ v', e = .returned (.tuple #[v', .int .i64 (E : Int)]) ∧ Kept Nought w w' ∧ ∃ Y, Row .u64 w' v' (if E = 0 then digs 18446744073709551616 Y n else []) ∧ (E = 0 → LeaG n (val 18446744073709551616 ms) (val 18446744073709551616 xs) Y) := by
  refine (mLeave none ao bo xo n l K mcap rcap N1 xc E ms rs xs w (TrRoom.none _ _ (by omega)) (RowT.none hm) (RowT.none hr) (RowT.none hx) hmd hrd hdx hK hnb hE hE1).mono ?_
  rintro e w' ⟨v', rfl, ⟨Y, h1, h2⟩, _, o', d⟩
  exact ⟨v', rfl, d.none.2, Y, h1, h2⟩

theorem leaveR6 (ao bo xo : Option Addr) (n l K mcap rcap N1 xc E : Nat) (ms rs xs : List Nat) (w : World)
    (hm : Row .u64 w (.slice ao n mcap) ms) (hr : Row .u64 w (.slice bo l rcap) rs) (hx : Row .u64 w (.slice xo N1 xc) xs) (hmd : Digs 18446744073709551616 ms) (hdx : Digs 18446744073709551616 xs) (hnb : n ≤ 300)
    (hE : E = 0 ↔ okMod ms K rs ∧ (N1 = n ∧ val 18446744073709551616 xs < val 18446744073709551616 ms)) (hE1 : E ≤ 1) (Y : Nat) (hY : E = 0 → LeaG n (val 18446744073709551616 ms) (val 18446744073709551616 xs) Y) :
    Calls Try.prog 23 #[.agg #[.slice ao n mcap, .int .u64 (K : Nat), .slice bo l rcap], .slice xo N1 xc] w fun e w' => ∃ v', e = .returned (.tuple #[v', .int .i64 (E : Int)]) ∧ Kept Nought w w' ∧ Row .u64 w' v' (if E = 0 then digs 18446744073709551616 Y n else []) := by
  by_cases hok : okMod ms K rs
  · have hE' : E = if (N1 = n ∧ val 18446744073709551616 xs < val 18446744073709551616 ms) then 0 else 1 := by
      by_cases h : (N1 = n ∧ val 18446744073709551616 xs < val 18446744073709551616 ms)
      · rw [if_pos h]; exact hE.2 ⟨hok, h⟩
      · rw [if_neg h]
        have : E ≠ 0 := fun e => h (hE.1 e).2
        omega
    refine (q6Leave ao bo xo n l N1 mcap rcap xc K ms rs xs hok E hE' Y hY _ rfl w hm hr hx hmd hdx).mono ?_
    rintro e w' ⟨v', rfl, h1, h2⟩
    exact ⟨v', rfl, h2, h1⟩
  · have hE0 : E = 1 := by
      have : E ≠ 0 := fun e => hok (hE.1 e).1
      omega
    subst hE0
    refine (q6Bad1 23 (.inr rfl) ao bo n l mcap rcap K ms rs hok _ w hm hr hmd (by omega)).mono ?_
    rintro e w' ⟨rfl, h2⟩
    exact ⟨_, rfl, h2, Row.nil _ _⟩

/-- The plain One: the same list. -/
theorem oneR6 (ao bo : Option Addr) (n l K mcap rcap : Nat) (ms rs RL : List Nat) (w : World) (hm : Row .u64 w (.slice ao n mcap) ms) (hr : Row .u64 w (.slice bo l rcap) rs) (hmd : Digs 18446744073709551616 ms) (hnb : n ≤ 300)
    (hok1 : okMod ms K rs → RL = digs 18446744073709551616 (2 ^ (64 * n) % val 18446744073709551616 ms) n) (hok0 : ¬ okMod ms K rs → RL = []) :
    Calls Try.prog 25 #[.agg #[.slice ao n mcap, .int .u64 (K : Nat), .slice bo l rcap]] w fun e w' => ∃ v', e = .returned v' ∧ Row .u64 w' v' RL ∧ Kept Nought w w' := by
  by_cases hok : okMod ms K rs
  · rw [hok1 hok]
    exact q6One ao bo n l mcap rcap K ms rs hok w hm hr hmd
  · refine (q6BadOne ao bo n l mcap rcap K ms rs hok w hm hr hmd (by omega)).mono ?_
    rintro e w' ⟨rfl, h2⟩
    exact ⟨_, rfl, by rw [hok0 hok]; exact Row.nil _ _, h2⟩

/-- An error's number for a condition. -/
theorem err_of (p : Prop) : ∃ E : Nat, (E = 0 ↔ p) ∧ E ≤ 1 := by
  by_cases h : p
  · exact ⟨0, ⟨fun _ => h, fun _ => rfl⟩, by omega⟩
  · exact ⟨1, ⟨fun e => absurd e (by omega), fun e => absurd e h⟩, by omega⟩

end Go.Proofs.Ytpgccioblgcjaaa
