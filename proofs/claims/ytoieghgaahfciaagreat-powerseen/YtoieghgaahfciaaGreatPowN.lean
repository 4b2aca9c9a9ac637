/- Package power: its numbers: Montgomery's form, windows of four bits. -/
import Derived.Test.YtoieghgaahfciaaGreatMonA
namespace Go.Proofs.YtoieghgaahfciaaGreat
open Go.RowKit

/-- A number as Enter has it. -/
def mon (n V X : Nat) : Nat := 2 ^ (64 * n) * X % V

theorem mon_lt {n V X : Nat} (hV : 0 < V) : mon n V X < V := Nat.mod_lt _ hV

theorem mon_mod (n V X : Nat) : mon n V (X % V) = mon n V X := by
  unfold mon
  rw [Nat.mul_mod, Nat.mod_mod, ← Nat.mul_mod]

theorem mon_zero (n V : Nat) : mon n V 0 = 0 := by
  unfold mon
  rw [Nat.mul_zero, Nat.zero_mod]

theorem mon_mul {n V A B Y : Nat} (hodd : V % 2 = 1) (h1 : Y < V) (h2 : 2 ^ (64 * n) * Y % V = mon n V A * mon n V B % V) : Y = mon n V (A * B) := by
  have hco : Nat.Coprime (2 ^ (64 * n)) V := (odd_coprime hodd).symm
  refine (Nat.mod_eq_of_lt h1).symm.trans ?_
  unfold mon at *
  refine cancel_mod hco ?_
  rw [h2, ← Nat.mul_mod]
  congr 1
  generalize 2 ^ (64 * n) = R
  grind

theorem mon_leave {n V A Y : Nat} (hodd : V % 2 = 1) (h1 : Y < V) (h2 : 2 ^ (64 * n) * Y % V = mon n V A % V) : Y = A % V := by
  have hco : Nat.Coprime (2 ^ (64 * n)) V := (odd_coprime hodd).symm
  refine (Nat.mod_eq_of_lt h1).symm.trans ?_
  refine cancel_mod hco ?_
  rw [h2]
  unfold mon
  rw [Nat.mod_mod]

/-- A word turned left by four bits. -/
def rot4 (w : Nat) : Nat := w * 16 % 18446744073709551616 + w / 1152921504606846976

def rotN (y : Nat) : Nat → Nat
  | 0 => y
  | k + 1 => rot4 (rotN y k)

theorem rot4_lt {w : Nat} (h : w < 18446744073709551616) : rot4 w < 18446744073709551616 := by
  unfold rot4
  omega

theorem rotN_lt {y : Nat} (h : y < 18446744073709551616) : ∀ k, rotN y k < 18446744073709551616
  | 0 => h
  | k + 1 => rot4_lt (rotN_lt h k)

theorem rot_step {M N y : Nat} (hM : 0 < M) (hMN : M * N = 1152921504606846976) (hy : y < 18446744073709551616) : rot4 (y % (16 * M) * N + y / (16 * M)) = y % M * (16 * N) + y / M := by
  obtain ⟨A, hA⟩ : ∃ A, A = y / (16 * M) := ⟨_, rfl⟩
  obtain ⟨r, hr⟩ : ∃ r, r = y % (16 * M) := ⟨_, rfl⟩
  obtain ⟨d, hd⟩ : ∃ d, d = r / M := ⟨_, rfl⟩
  obtain ⟨B, hB⟩ : ∃ B, B = r % M := ⟨_, rfl⟩
  have e1 : y = 16 * M * A + r := by rw [hA, hr]; exact (Nat.div_add_mod y (16 * M)).symm
  have e2 : r = M * d + B := by rw [hd, hB]; exact (Nat.div_add_mod r M).symm
  have hr16 : r < 16 * M := by rw [hr]; exact Nat.mod_lt _ (by omega)
  have hd16 : d < 16 := by rw [hd]; exact Nat.div_lt_of_lt_mul (by rw [Nat.mul_comm]; exact hr16)
  have hBM : B < M := by rw [hB]; exact Nat.mod_lt _ hM
  have hAN : A < N := by
    rw [hA]
    refine Nat.div_lt_of_lt_mul ?_
    rw [Nat.mul_assoc, hMN]
    exact hy
  have e3 : y = M * (16 * A + d) + B := by rw [e1, e2]; grind
  have e4 : y / M = 16 * A + d := by rw [e3, Nat.mul_add_div hM, Nat.div_eq_of_lt hBM, Nat.add_zero]
  have e5 : y % M = B := by rw [e3, Nat.mul_add_mod, Nat.mod_eq_of_lt hBM]
  rw [e4, e5, ← hA, ← hr]
  have h6 : B * N + A < 1152921504606846976 := by
    have : (B + 1) * N ≤ M * N := Nat.mul_le_mul_right N hBM
    rw [hMN, Nat.add_mul, Nat.one_mul] at this
    omega
  have e7 : r * N + A = 1152921504606846976 * d + (B * N + A) := by
    rw [e2, ← hMN]
    grind
  rw [e7]
  generalize hQ : B * N = Q at *
  have e8 : B * (16 * N) = 16 * Q := by rw [← hQ]; grind
  rw [e8]
  unfold rot4
  omega

theorem rotN_eq {y : Nat} (hy : y < 18446744073709551616) : ∀ k, k ≤ 16 → rotN y k = y % 16 ^ (16 - k) * 16 ^ k + y / 16 ^ (16 - k)
  | 0, _ => by
    rw [rotN, Nat.sub_zero, show (16 : Nat) ^ 16 = 18446744073709551616 from rfl, Nat.pow_zero, Nat.mul_one, Nat.mod_eq_of_lt hy, Nat.div_eq_of_lt hy, Nat.add_zero]
  | k + 1, hk => by
    have ih := rotN_eq hy k (by omega)
    have e : 16 - k = (16 - (k + 1)) + 1 := by omega
    rw [rotN, ih, e, Nat.pow_succ, Nat.mul_comm (16 ^ (16 - (k + 1))) 16]
    have h := rot_step (M := 16 ^ (16 - (k + 1))) (N := 16 ^ k) (y := y) (Nat.pow_pos (by omega)) (by rw [← Nat.pow_add, show 16 - (k + 1) + k = 15 by omega]) hy
    rw [h, Nat.pow_succ, Nat.mul_comm (16 ^ k) 16]

/-- Window j of a number of L words, from its top on. -/
def winN (ys : List Nat) (L j : Nat) : Nat := rotN (ys.getD (L - 1 - j / 16) 0) (j % 16 + 1) % 16

theorem win_dig {ys : List Nat} {L j : Nat} (hd : Digs 18446744073709551616 ys) (hj : j < 16 * L) : winN ys L j = val 18446744073709551616 ys / 16 ^ (16 * L - 1 - j) % 16 := by
  unfold winN
  have hy : ys.getD (L - 1 - j / 16) 0 < 18446744073709551616 := hd.getD (by omega) _
  rw [rotN_eq hy (j % 16 + 1) (by omega)]
  have e1 : 16 ^ (j % 16 + 1) = 16 * 16 ^ (j % 16) := by rw [Nat.pow_succ, Nat.mul_comm]
  rw [e1, show ∀ a b c : Nat, a * (16 * b) + c = 16 * (a * b) + c from fun a b c => by grind, Nat.mul_add_mod]
  rw [← dig_val (by omega) hd]
  unfold dig
  obtain ⟨k, hk⟩ : ∃ k, k = j % 16 := ⟨_, rfl⟩
  obtain ⟨i, hi⟩ : ∃ i, i = L - 1 - j / 16 := ⟨_, rfl⟩
  have ex : 16 * L - 1 - j = 16 * i + (15 - k) := by omega
  rw [← hk, ← hi, ex, show 16 - (k + 1) = 15 - k by omega, show (18446744073709551616 : Nat) = 16 ^ 16 from rfl, ← Nat.pow_mul]
  generalize val (16 ^ 16) ys = E
  have hk15 : k ≤ 15 := by omega
  have e2 : (16 : Nat) ^ 16 = 16 ^ (15 - k) * 16 ^ (k + 1) := by rw [← Nat.pow_add, show 15 - k + (k + 1) = 16 by omega]
  rw [e2, Nat.mod_mul_right_div_self, Nat.div_div_eq_div_mul, ← Nat.pow_add, Nat.pow_succ]
  exact Nat.mod_mod_of_dvd _ (Nat.dvd_mul_left 16 _)

/-- What windows come to. -/
def wndN (l : List Nat) : Nat := l.foldl (fun a d => 16 * a + d) 0

theorem wndN_snoc (l : List Nat) (d : Nat) : wndN (l ++ [d]) = 16 * wndN l + d := by simp [wndN]

theorem wnd_upto {E N : Nat} (hE : E < 16 ^ N) : ∀ j, j ≤ N → wndN ((List.range j).map fun i => E / 16 ^ (N - 1 - i) % 16) = E / 16 ^ (N - j)
  | 0, _ => by
    rw [List.range_zero, List.map_nil, Nat.sub_zero, Nat.div_eq_of_lt hE]
    rfl
  | j + 1, hj => by
    rw [List.range_succ, List.map_append, List.map_cons, List.map_nil, wndN_snoc, wnd_upto hE j (by omega)]
    have e : N - j = (N - 1 - j) + 1 := by omega
    rw [e, Nat.pow_succ, ← Nat.div_div_eq_div_mul, show N - (j + 1) = N - 1 - j by omega]
    omega

theorem wnd_all {ys : List Nat} {L : Nat} (hd : Digs 18446744073709551616 ys) (hl : ys.length = L) : wndN ((List.range (16 * L)).map (winN ys L)) = val 18446744073709551616 ys := by
  have hE : val 18446744073709551616 ys < 16 ^ (16 * L) := by
    have := val_lt (B := 18446744073709551616) (by omega) hd
    rw [hl, show (18446744073709551616 : Nat) = 16 ^ 16 from rfl, ← Nat.pow_mul] at this
    exact this
  have h := wnd_upto hE (16 * L) (Nat.le_refl _)
  rw [Nat.sub_self, Nat.pow_zero, Nat.div_one] at h
  rw [← h]
  congr 1
  refine List.map_congr_left (fun j hj => ?_)
  exact win_dig hd (List.mem_range.1 hj)

theorem win_lt (ys : List Nat) (L j : Nat) : winN ys L j < 16 := Nat.mod_lt _ (by omega)

end Go.Proofs.YtoieghgaahfciaaGreat
