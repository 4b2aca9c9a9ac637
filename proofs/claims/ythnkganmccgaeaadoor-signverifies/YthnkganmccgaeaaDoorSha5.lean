/- The plain side of layer 11: Block of what is none; Sum. -/
import Derived.Test.YthnkganmccgaeaaDoorSha3
import Derived.Test.YthnkganmccgaeaaDoorSha4
namespace Go.Proofs.YthnkganmccgaeaaDoor
open Go.RowKit

set_option maxRecDepth 20000 in
set_option maxHeartbeats 1000000 in
/-- Block of more or fewer than 64 bytes. -/
theorem r11BlockBad (ao : Option Addr) (L cap : Nat) (s0 s1 s2 s3 s4 s5 s6 s7 : Int) (w : World) (hL : L ≠ 64) :
    Calls Tryd.prog 38 #[.agg #[.int .u32 s0, .int .u32 s1, .int .u32 s2, .int .u32 s3, .int .u32 s4, .int .u32 s5, .int .u32 s6, .int .u32 s7], .slice ao L cap] w fun e w' => e = .returned (.tuple #[.agg #[.int .u32 0, .int .u32 0, .int .u32 0, .int .u32 0, .int .u32 0, .int .u32 0, .int .u32 0, .int .u32 0], .bool false]) ∧ Kept Nought w w' := by
  have g : ¬ (L : Int) = 64 := by omega
  go_enter Tryd.func38, Tryd.ntmps38
  go_wp2_with fail
  exact bodyPost_ret (v := .tuple #[.agg #[.int .u32 0, .int .u32 0, .int .u32 0, .int .u32 0, .int .u32 0, .int .u32 0, .int .u32 0, .int .u32 0], .bool false]) (by simp [results, Tryd.results38, go_sem]) rfl ⟨rfl, ((Kept.refl _ _).alloc _).alloc _⟩

/-- So many blocks. -/
def blksN (all : List Nat) : Nat → List Nat
  | 0 => H256
  | i + 1 => blkN (blksN all i) ((all.drop (64 * i)).take 64)

/-- A word's four bytes, the highest ahead. -/
def b4N (z : Nat) : List Nat := [z / 16777216 % 256, z / 65536 % 256, z / 256 % 256, z % 256]

/-- A state's bytes. -/
def outN (s : List Nat) : Nat → List Nat
  | 0 => []
  | i + 1 => outN s i ++ b4N (s.getD i 0)

/-- The hash. -/
def sumN (bs : List Nat) : List Nat := outN (blksN (bs ++ padN bs.length) ((bs ++ padN bs.length).length / 64)) 8

theorem padN_length (n : Nat) : (padN n).length = 1 + padZ n + 8 := by
  unfold padN padL
  simp
  omega

theorem all_blocks (n : Nat) : (n + (padN n).length) % 64 = 0 := by
  rw [padN_length]
  unfold padZ
  omega

theorem padN_digs (n : Nat) : Digs 256 (padN n) := by
  unfold padN padL
  intro d hd
  simp only [List.mem_append, List.mem_singleton, List.mem_replicate, List.mem_map] at hd
  rcases hd with (rfl | ⟨_, rfl⟩) | ⟨i, _, rfl⟩
  · omega
  · omega
  · exact Nat.mod_lt _ (by omega)

theorem blkN_digs {s bs : List Nat} : Digs 4294967296 (blkN s bs) ∧ (blkN s bs).length = 8 := by
  constructor
  · unfold blkN
    intro d hd
    obtain ⟨i, _, rfl⟩ := List.mem_map.1 hd
    exact Nat.mod_lt _ (by omega)
  · unfold blkN
    simp

theorem H256_digs : Digs 4294967296 H256 ∧ H256.length = 8 := by unfold Digs H256; decide

theorem blksN_digs {all : List Nat} : ∀ i, Digs 4294967296 (blksN all i) ∧ (blksN all i).length = 8
  | 0 => H256_digs
  | _ + 1 => blkN_digs

theorem sum_abc : sumN [97, 98, 99] = [186, 120, 22, 191, 143, 1, 207, 234, 65, 65, 64, 222, 93, 174, 34, 35, 176, 3, 97, 163, 150, 23, 122, 156, 180, 16, 255, 97, 242, 0, 21, 173] := by
  decide +kernel

end Go.Proofs.YthnkganmccgaeaaDoor
