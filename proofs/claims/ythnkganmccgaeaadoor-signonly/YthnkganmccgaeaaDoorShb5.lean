/- The plain side of layer 12: Block of what is none; Sum. -/
import Derived.Test.YthnkganmccgaeaaDoorShb3
import Derived.Test.YthnkganmccgaeaaDoorShb4
namespace Go.Proofs.YthnkganmccgaeaaDoor
open Go.RowKit

set_option maxRecDepth 20000 in
set_option maxHeartbeats 1000000 in
/-- Block of more or fewer than 128 bytes. -/
theorem r12BlockBad (ao : Option Addr) (L cap : Nat) (s0 s1 s2 s3 s4 s5 s6 s7 : Int) (w : World) (hL : L ≠ 128) :
    Calls Tryd.prog 41 #[.agg #[.int .u64 s0, .int .u64 s1, .int .u64 s2, .int .u64 s3, .int .u64 s4, .int .u64 s5, .int .u64 s6, .int .u64 s7], .slice ao L cap] w fun e w' => e = .returned (.tuple #[.agg #[.int .u64 0, .int .u64 0, .int .u64 0, .int .u64 0, .int .u64 0, .int .u64 0, .int .u64 0, .int .u64 0], .bool false]) ∧ Kept Nought w w' := by
  have g : ¬ (L : Int) = 128 := by omega
  go_enter Tryd.func41, Tryd.ntmps41
  go_wp2_with fail
  exact bodyPost_ret (v := .tuple #[.agg #[.int .u64 0, .int .u64 0, .int .u64 0, .int .u64 0, .int .u64 0, .int .u64 0, .int .u64 0, .int .u64 0], .bool false]) (by simp [results, Tryd.results41, go_sem]) rfl ⟨rfl, ((Kept.refl _ _).alloc _).alloc _⟩

/-- So many blocks. -/
def blksM (h : List Nat) (all : List Nat) : Nat → List Nat
  | 0 => h
  | i + 1 => blkM (blksM h all i) ((all.drop (128 * i)).take 128)

/-- A word's first j bytes, the highest ahead. -/
def b8M (z j : Nat) : List Nat := (List.range j).map fun i => z / 2 ^ (56 - 8 * i) % 256

theorem b8M_succ (z j : Nat) : b8M z (j + 1) = b8M z j ++ [z / 2 ^ (56 - 8 * j) % 256] := by
  unfold b8M
  rw [List.range_succ, List.map_append]
  rfl

/-- A state's bytes. -/
def outM (s : List Nat) : Nat → List Nat
  | 0 => []
  | i + 1 => outM s i ++ b8M (s.getD i 0) 8

theorem outM_length (s : List Nat) : ∀ k, (outM s k).length = 8 * k
  | 0 => rfl
  | k + 1 => by unfold outM b8M; rw [List.length_append, outM_length s k]; simp; omega

/-- All 64 bytes of the hash. -/
def sum64M (short : Bool) (bs : List Nat) : List Nat := outM (blksM (H5 short) (bs ++ padM bs.length) ((bs ++ padM bs.length).length / 128)) 8

/-- The hash. -/
def sumM (short : Bool) (bs : List Nat) : List Nat := if short = true then (sum64M short bs).take 48 else sum64M short bs

theorem padM_length (n : Nat) : (padM n).length = 1 + padZM n + 16 := by
  unfold padM padL
  simp
  omega

theorem all_blocksM (n : Nat) : (n + (padM n).length) % 128 = 0 := by
  rw [padM_length]
  unfold padZM
  omega

theorem padM_digs (n : Nat) : Digs 256 (padM n) := by
  unfold padM padL
  intro d hd
  simp only [List.mem_append, List.mem_replicate, List.mem_map, List.mem_cons, List.not_mem_nil, or_false] at hd
  rcases hd with ((rfl | ⟨_, rfl⟩) | hd) | ⟨i, _, rfl⟩
  · omega
  · omega
  · omega
  · exact Nat.mod_lt _ (by omega)

theorem blkM_digs {s bs : List Nat} : Digs 18446744073709551616 (blkM s bs) ∧ (blkM s bs).length = 8 := by
  constructor
  · unfold blkM
    intro d hd
    obtain ⟨i, _, rfl⟩ := List.mem_map.1 hd
    exact Nat.mod_lt _ (by omega)
  · unfold blkM
    simp

theorem H5_digs (short : Bool) : Digs 18446744073709551616 (H5 short) ∧ (H5 short).length = 8 := by
  cases short
  · show Digs _ H512 ∧ _
    unfold Digs H5 H512
    decide
  · show Digs _ H384 ∧ _
    unfold Digs H5 H384
    decide

theorem blksM_digs {h all : List Nat} (hh : Digs 18446744073709551616 h ∧ h.length = 8) : ∀ i, Digs 18446744073709551616 (blksM h all i) ∧ (blksM h all i).length = 8
  | 0 => hh
  | _ + 1 => blkM_digs

theorem sum_abcM : (sumM false [97, 98, 99]).take 4 = [221, 175, 53, 161] := by
  decide +kernel

theorem sum_abcM3 : (sumM true [97, 98, 99]).take 4 = [203, 0, 117, 63] ∧ (sumM true [97, 98, 99]).length = 48 := by
  decide +kernel

end Go.Proofs.YthnkganmccgaeaaDoor
