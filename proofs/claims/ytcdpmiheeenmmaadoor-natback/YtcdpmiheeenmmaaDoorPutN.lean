/- What word.Put answers, for any word: its eight bytes, in new memory. -/
import Derived.Test.YtcdpmiheeenmmaaDoorNatI
namespace Go.Proofs.YtcdpmiheeenmmaaDoor
open Go.RowKit

/-- The bytes of a word, the highest ahead. -/
def putBytes (a : Int) : List Int := [a / 72057594037927936 % 256, a / 281474976710656 % 256, a / 1099511627776 % 256, a / 4294967296 % 256, a / 16777216 % 256, a / 65536 % 256, a / 256 % 256, a % 256]

/-- The array behind k rounds: the last k bytes are there. -/
def putCells (a : Int) (k : Nat) : Array Value := (((List.replicate (8 - k) 0 ++ (putBytes a).drop (8 - k)).map (Value.int .u8))).toArray

theorem pc0 (a : Int) : putCells a 0 = #[.int .u8 0, .int .u8 0, .int .u8 0, .int .u8 0, .int .u8 0, .int .u8 0, .int .u8 0, .int .u8 0] := rfl
theorem pc1 (a : Int) : putCells a 1 = #[.int .u8 0, .int .u8 0, .int .u8 0, .int .u8 0, .int .u8 0, .int .u8 0, .int .u8 0, .int .u8 (a % 256)] := rfl
theorem pc2 (a : Int) : putCells a 2 = #[.int .u8 0, .int .u8 0, .int .u8 0, .int .u8 0, .int .u8 0, .int .u8 0, .int .u8 (a / 256 % 256), .int .u8 (a % 256)] := rfl
theorem pc3 (a : Int) : putCells a 3 = #[.int .u8 0, .int .u8 0, .int .u8 0, .int .u8 0, .int .u8 0, .int .u8 (a / 65536 % 256), .int .u8 (a / 256 % 256), .int .u8 (a % 256)] := rfl
theorem pc4 (a : Int) : putCells a 4 = #[.int .u8 0, .int .u8 0, .int .u8 0, .int .u8 0, .int .u8 (a / 16777216 % 256), .int .u8 (a / 65536 % 256), .int .u8 (a / 256 % 256), .int .u8 (a % 256)] := rfl
theorem pc5 (a : Int) : putCells a 5 = #[.int .u8 0, .int .u8 0, .int .u8 0, .int .u8 (a / 4294967296 % 256), .int .u8 (a / 16777216 % 256), .int .u8 (a / 65536 % 256), .int .u8 (a / 256 % 256), .int .u8 (a % 256)] := rfl
theorem pc6 (a : Int) : putCells a 6 = #[.int .u8 0, .int .u8 0, .int .u8 (a / 1099511627776 % 256), .int .u8 (a / 4294967296 % 256), .int .u8 (a / 16777216 % 256), .int .u8 (a / 65536 % 256), .int .u8 (a / 256 % 256), .int .u8 (a % 256)] := rfl
theorem pc7 (a : Int) : putCells a 7 = #[.int .u8 0, .int .u8 (a / 281474976710656 % 256), .int .u8 (a / 1099511627776 % 256), .int .u8 (a / 4294967296 % 256), .int .u8 (a / 16777216 % 256), .int .u8 (a / 65536 % 256), .int .u8 (a / 256 % 256), .int .u8 (a % 256)] := rfl
theorem pc8 (a : Int) : putCells a 8 = #[.int .u8 (a / 72057594037927936 % 256), .int .u8 (a / 281474976710656 % 256), .int .u8 (a / 1099511627776 % 256), .int .u8 (a / 4294967296 % 256), .int .u8 (a / 16777216 % 256), .int .u8 (a / 65536 % 256), .int .u8 (a / 256 % 256), .int .u8 (a % 256)] := rfl

set_option maxHeartbeats 400000 in
/-- word.Put. -/
theorem wPut (a : Int) (a0 : 0 ≤ a) (a1 : a < 18446744073709551616) (w : World) :
    Calls Tryd.prog 38 #[.int .u64 a] w fun e w' => e = .returned (.slice (some ⟨w.heap.size, 0, none⟩) 8 8) ∧ w' = w.alloc (.cells (putCells a 8) 107) := by
  go_enter Tryd.func38, Tryd.ntmps38
  go_wp2_with fail
  go_loopw [5] (fun i wr => ∃ k : Nat, k ≤ 8 ∧ i = .int .i64 (k : Int) ∧ wr = w.alloc (.cells (putCells a k) 107)) (fun i _ => (8 - intOf i).toNat)
  case atStart => exact ⟨0, by omega, rfl, rfl⟩
  case round =>
    obtain ⟨k, hk, rfl, rfl⟩ := hrel
    have : k = 0 ∨ k = 1 ∨ k = 2 ∨ k = 3 ∨ k = 4 ∨ k = 5 ∨ k = 6 ∨ k = 7 ∨ k = 8 := by omega
    rcases this with rfl | rfl | rfl | rfl | rfl | rfl | rfl | rfl | rfl
    · rw [pc0]
      go_wp2_with fail
      go_roundw
      case rel => exact ⟨1, by omega, rfl, by rw [pc1]⟩
      case measure => simp [intOf]
    · rw [pc1]
      go_wp2_with fail
      go_roundw
      case rel => exact ⟨2, by omega, rfl, by rw [pc2]⟩
      case measure => simp [intOf]
    · rw [pc2]
      go_wp2_with fail
      go_roundw
      case rel => exact ⟨3, by omega, rfl, by rw [pc3]⟩
      case measure => simp [intOf]
    · rw [pc3]
      go_wp2_with fail
      go_roundw
      case rel => exact ⟨4, by omega, rfl, by rw [pc4]⟩
      case measure => simp [intOf]
    · rw [pc4]
      go_wp2_with fail
      go_roundw
      case rel => exact ⟨5, by omega, rfl, by rw [pc5]⟩
      case measure => simp [intOf]
    · rw [pc5]
      go_wp2_with fail
      go_roundw
      case rel => exact ⟨6, by omega, rfl, by rw [pc6]⟩
      case measure => simp [intOf]
    · rw [pc6]
      go_wp2_with fail
      go_roundw
      case rel => exact ⟨7, by omega, rfl, by rw [pc7]⟩
      case measure => simp [intOf]
    · rw [pc7]
      go_wp2_with fail
      go_roundw
      case rel => exact ⟨8, by omega, rfl, by rw [pc8, show a / 72057594037927936 % 256 = a / 72057594037927936 by omega]⟩
      case measure => simp [intOf]
    · go_wp2_with fail
      go_ret
      exact ⟨rfl, rfl⟩
end Go.Proofs.YtcdpmiheeenmmaaDoor
