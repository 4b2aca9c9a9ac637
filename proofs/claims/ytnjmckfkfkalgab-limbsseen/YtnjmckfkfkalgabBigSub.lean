/- The plain difference. -/
import Derived.Test.YtnjmckfkfkalgabBigAdd
namespace Go.Proofs.Ytnjmckfkfkalgab
open Go.RowKit

theorem sub_step {a b os : List Nat} {k β x y z β' : Nat} (hl : os.length = k) (h : val 4294967296 os + val 4294967296 (b.take k) = val 4294967296 (a.take k) + 4294967296 ^ k * β) (hx : a.getD k 0 = x) (hy : b.getD k 0 = y)
    (hz : z + y + β = x + 4294967296 * β') :
    val 4294967296 (os ++ [z]) + val 4294967296 (b.take (k + 1)) = val 4294967296 (a.take (k + 1)) + 4294967296 ^ (k + 1) * β' := by
  rw [val_snoc, hl, val_take_succ, val_take_succ, hx, hy, Nat.pow_succ, Nat.mul_assoc]
  have e : 4294967296 ^ k * (z + y + β) = 4294967296 ^ k * (x + 4294967296 * β') := by rw [hz]
  rw [Nat.mul_add, Nat.mul_add, Nat.mul_add] at e
  omega

theorem sub_end {a b os : List Nat} {β : Nat} (hd : Digs 4294967296 os) (hl : os.length = a.length) (h : val 4294967296 os + val 4294967296 b = val 4294967296 a + 4294967296 ^ a.length * β) (hb : β ≤ 1) (hle : val 4294967296 b ≤ val 4294967296 a) :
    val 4294967296 os = val 4294967296 a - val 4294967296 b := by
  have h1 := val_lt (by omega) hd
  rw [hl] at h1
  have h2 : β = 0 ∨ β = 1 := by omega
  rcases h2 with rfl | rfl
  · omega
  · rw [Nat.mul_one] at h
    omega

end Go.Proofs.Ytnjmckfkfkalgab
