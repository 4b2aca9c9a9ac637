/- Bytes as words: word.Get on at most eight bytes; noughts ahead cut off (bytes.TrimLeft); the words of bytes, the lowest ahead, as a range over a function hands them out (wordsOfBytes). -/
import Derived.Test.YtegjdjfnpphipaaNatE
namespace Go.Proofs.Ytegjdjfnpphipaa
open Go.RowKit Go.Shelf

attribute [local go_sem] Oper.semAt_some

theorem or_byteN (x y : Nat) (hx : x < 72057594037927936) (hy : y < 256) : bits .or .u64 ((x : Int) * 256) (y : Int) = ((x * 256 + y : Nat) : Int) := by
  have h := u64_or_nat (x * 256) y (by omega) (by omega)
  rw [nat_join 8 (x * 256) y (by omega) (by omega)] at h
  rw [show (x : Int) * 256 = ((x * 256 : Nat) : Int) by omega, h]

theorem bev_fold (m : List Nat) : ∀ a, m.foldl (fun a b => a * 256 + b) a = a * 256 ^ m.length + bev m := by
  unfold bev
  induction m with
  | nil => intro a; simp
  | cons x m ih =>
    intro a
    rw [List.foldl_cons, ih, List.foldl_cons, ih (0 * 256 + x), List.length_cons, Nat.pow_succ]
    simp only [Nat.zero_mul, Nat.zero_add, Nat.add_mul, Nat.mul_assoc, Nat.add_assoc, Nat.mul_comm 256]

theorem bev_append (l m : List Nat) : bev (l ++ m) = bev l * 256 ^ m.length + bev m := by
  show (l ++ m).foldl _ 0 = _
  rw [List.foldl_append, bev_fold]
  rfl

theorem bev_lt {l : List Nat} (h : Digs 256 l) : bev l < 256 ^ l.length := by
  induction l with
  | nil => simp [bev]
  | cons x m ih =>
    have e := bev_append [x] m
    rw [List.singleton_append] at e
    have hx := h.head
    have hm := ih h.tail
    rw [e, List.length_cons, Nat.pow_succ]
    have : (x + 1) * 256 ^ m.length ≤ 256 * 256 ^ m.length := Nat.mul_le_mul_right _ hx
    rw [Nat.add_mul, Nat.one_mul] at this
    have e2 : bev [x] = x := by simp [bev]
    rw [e2, Nat.mul_comm (256 ^ m.length)]
    omega

/-- The slice behind its first element. -/
theorem Row.tail {k : IntKind} {w : World} {b off m cap : Nat} {z : Nat} {zs : List Nat} (h : Row k w (.slice (some ⟨b, off, none⟩) (m + 1) cap) (z :: zs)) (hc : 1 < cap) : Row k w (.slice (some ⟨b, off + 1, none⟩) m (cap - 1)) zs := by
  obtain ⟨ao, cap', e, h1, h2, _, h4⟩ := h
  cases e
  refine ⟨_, _, rfl, by simp at h1; omega, by omega, (fun e => by cases e), fun i hi => ?_⟩
  obtain ⟨b', off', e, hcell⟩ := h4 (i + 1) (by simp; omega)
  cases e
  exact ⟨b, off + 1, rfl, by rw [show off + 1 + i = off + (i + 1) by omega, hcell]; rfl⟩

theorem Row.none0 (k : IntKind) (w : World) (ao : Option Addr) (cap : Nat) (hc : cap ≤ maxLen) (hn : ao = none → cap = 0) : Row k w (.slice ao 0 cap) [] := ⟨ao, cap, rfl, Nat.zero_le _, hc, hn, fun i hi => absurd hi (by simp)⟩

end Go.Proofs.Ytegjdjfnpphipaa
