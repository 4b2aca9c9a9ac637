/- The plain side of layer 11 (package sconceref11, SHA-256): its numbers; turn, k, Start. -/
import Derived.Test.YthnkganmccgaeaaDoorBase1
import Derived.Laws.BitsAllLaws
namespace Go.Proofs.YthnkganmccgaeaaDoor
open Go.RowKit

/-- A word turned right. -/
def rot32 (x n : Nat) : Nat := (x / 2 ^ n) ||| (x * 2 ^ (32 - n) % 4294967296)

def K256 : List Nat := [1116352408, 1899447441, 3049323471, 3921009573, 961987163, 1508970993, 2453635748, 2870763221, 3624381080, 310598401, 607225278, 1426881987, 1925078388, 2162078206, 2614888103, 3248222580, 3835390401, 4022224774, 264347078, 604807628, 770255983, 1249150122, 1555081692, 1996064986, 2554220882, 2821834349, 2952996808, 3210313671, 3336571891, 3584528711, 113926993, 338241895, 666307205, 773529912, 1294757372, 1396182291, 1695183700, 1986661051, 2177026350, 2456956037, 2730485921, 2820302411, 3259730800, 3345764771, 3516065817, 3600352804, 4094571909, 275423344, 430227734, 506948616, 659060556, 883997877, 958139571, 1322822218, 1537002063, 1747873779, 1955562222, 2024104815, 2227730452, 2361852424, 2428436474, 2756734187, 3204031479, 3329325298]

def H256 : List Nat := [1779033703, 3144134277, 1013904242, 2773480762, 1359893119, 2600822924, 528734635, 1541459225]

theorem rot32_lt (x n : Nat) (hx : x < 4294967296) : rot32 x n < 4294967296 := by
  unfold rot32
  have h1 : x / 2 ^ n < 2 ^ 32 := Nat.lt_of_le_of_lt (Nat.div_le_self _ _) hx
  have h2 : x * 2 ^ (32 - n) % 4294967296 < 2 ^ 32 := Nat.mod_lt _ (by omega)
  exact Nat.or_lt_two_pow h1 h2

set_option maxHeartbeats 400000 in
/-- turn. -/
theorem r11Turn (x n : Nat) (hx : x < 4294967296) (hn : n < 32) (w : World) :
    Calls Tryd.prog 47 #[.int .u32 (x : Nat), .int .i64 (n : Nat)] w fun e w' => e = .returned (.int .u32 (rot32 x n : Nat)) ∧ w' = w := by
  have h1 : x / 2 ^ n < 4294967296 := Nat.lt_of_le_of_lt (Nat.div_le_self _ _) hx
  have h2 : x * 2 ^ (32 - n) % 4294967296 < 4294967296 := Nat.mod_lt _ (by omega)
  have hor := u32_or_nat _ _ h1 h2
  have g1 : (32 : Int) - (n : Int) = ((32 - n : Nat) : Int) := by omega
  have c1 : ((x / 2 ^ n : Nat) : Int) = (x : Int) / 2 ^ n := by simp
  have c2 : ((x * 2 ^ (32 - n) % 4294967296 : Nat) : Int) = (x : Int) * 2 ^ (32 - n) % 4294967296 := by simp
  rw [c1, c2] at hor
  clear c1 c2
  go_enter Tryd.func47, Tryd.ntmps47
  go_wp2_with fail
  go_ret
  exact ⟨rfl, rfl⟩

theorem list_at {l : List Value} {ks : List Nat} {k : IntKind} {i : Nat} (h : l = ks.map fun z : Nat => Value.int k (z : Int)) (hi : i < l.length) : l[i] = .int k (ks.getD i 0 : Nat) := by
  subst h
  rw [List.length_map] at hi
  rw [List.getElem_map, List.getD_eq_getElem?_getD, List.getElem?_eq_getElem hi]
  rfl

set_option maxRecDepth 20000 in
set_option maxHeartbeats 1000000 in
/-- k. -/
theorem r11K (i : Nat) (hi : i < 64) (w : World) :
    Calls Tryd.prog 48 #[.int .i64 (i : Nat)] w fun e w' => e = .returned (.int .u32 (K256.getD i 0 : Nat)) ∧ Kept Nought w w' := by
  have g0 : (0 : Int) ≤ (i : Int) := by omega
  have g1 : (i : Int) < 64 := by omega
  go_enter Tryd.func48, Tryd.ntmps48
  go_wp2_with fail
  rw [list_at (ks := K256) (k := .u32) ?h]
  case h => rfl
  go_ret
  exact ⟨rfl, (Kept.refl _ _).alloc _⟩

set_option maxRecDepth 20000 in
set_option maxHeartbeats 1000000 in
/-- Start. -/
theorem r11Start (w : World) :
    Calls Tryd.prog 37 #[] w fun e w' => e = .returned (.agg (H256.map fun z => Value.int .u32 (z : Nat)).toArray) ∧ Kept Nought w w' := by
  go_enter Tryd.func37, Tryd.ntmps37
  go_wp2_with fail
  exact bodyPost_ret (v := .agg (H256.map fun z => Value.int .u32 (z : Nat)).toArray) (by simp [results, Tryd.results37, go_sem, H256]) rfl ⟨rfl, (Kept.refl _ _).alloc _⟩

end Go.Proofs.YthnkganmccgaeaaDoor
