/- Bytes as numbers: lengths and bounds. -/
import Derived.Test.YtegjdjfnpphipaaBigM
namespace Go.Proofs.Ytegjdjfnpphipaa
open Go.RowKit

theorem bev_foldB (m : List Nat) : ∀ a, m.foldl (fun a b => a * 256 + b) a = a * 256 ^ m.length + bev m := by
  unfold bev
  induction m with
  | nil => intro a; simp
  | cons x m ih =>
    intro a
    rw [List.foldl_cons, ih, List.foldl_cons, ih (0 * 256 + x), List.length_cons, Nat.pow_succ]
    simp only [Nat.zero_mul, Nat.zero_add, Nat.add_mul, Nat.mul_assoc, Nat.add_assoc, Nat.mul_comm 256]

theorem bev_appendB (l m : List Nat) : bev (l ++ m) = bev l * 256 ^ m.length + bev m := by
  show (l ++ m).foldl _ 0 = _
  rw [List.foldl_append, bev_foldB]
  rfl

theorem bev_ltB {l : List Nat} (h : Digs 256 l) : bev l < 256 ^ l.length := by
  induction l with
  | nil => simp [bev]
  | cons x m ih =>
    have e := bev_appendB [x] m
    rw [List.singleton_append] at e
    have hx := h.head
    have hm := ih h.tail
    rw [e, List.length_cons, Nat.pow_succ]
    have : (x + 1) * 256 ^ m.length ≤ 256 * 256 ^ m.length := Nat.mul_le_mul_right _ hx
    rw [Nat.add_mul, Nat.one_mul] at this
    have e2 : bev [x] = x := by simp [bev]
    rw [e2, Nat.mul_comm (256 ^ m.length)]
    omega

theorem bev_dlen {l : List Nat} (h : Digs 256 l) : dlen (bev l) ≤ l.length := by
  rw [dlen_le]
  exact Nat.lt_of_lt_of_le (bev_ltB h) (Nat.pow_le_pow_left (by omega) _)

theorem blen_val {xs : List Nat} (h : Digs 18446744073709551616 xs) : blen (val 18446744073709551616 xs) ≤ 64 * xs.length := by
  rw [blen_le, Nat.pow_mul]
  exact val_lt (by omega) h

theorem dlenVal {xs : List Nat} (h : Digs 18446744073709551616 xs) : dlen (val 18446744073709551616 xs) ≤ 2 * xs.length := by
  rw [dlen_le, Nat.pow_mul]
  exact val_lt (by omega) h

end Go.Proofs.Ytegjdjfnpphipaa
