/- The plain side of layers 13 and 14: how long hashes are; append of bytes that come in; Prefix, Xor. -/
import Derived.Test.YthnkganmccgaeaaDoorHsh1
import Derived.BigRegion
namespace Go.Proofs.YthnkganmccgaeaaDoor
open Go.RowKit

theorem outN_len (s : List Nat) : ∀ k, (outN s k).length = 4 * k
  | 0 => rfl
  | k + 1 => by unfold outN b4N; rw [List.length_append, outN_len s k]; simp; omega

theorem outN_digs (s : List Nat) : ∀ k, Digs 256 (outN s k)
  | 0 => Digs.nil _
  | k + 1 => by
    unfold outN b4N
    refine (outN_digs s k).app fun d hd => ?_
    simp only [List.mem_cons, List.not_mem_nil, or_false] at hd
    omega

theorem outM_digs (s : List Nat) : ∀ k, Digs 256 (outM s k)
  | 0 => Digs.nil _
  | k + 1 => by
    unfold outM b8M
    refine (outM_digs s k).app fun d hd => ?_
    obtain ⟨i, _, rfl⟩ := List.mem_map.1 hd
    exact Nat.mod_lt _ (by omega)

theorem hshN_length (h : Int) (bs : List Nat) : (hshN h bs).length = hszN h := by
  unfold hshN hszN
  split
  · exact outN_len _ 8
  · split
    · show ((sum64M true bs).take 48).length = 48
      unfold sum64M
      rw [List.length_take, outM_length]
      rfl
    · split
      · exact outM_length _ 8
      · rfl

theorem hshN_digs (h : Int) (bs : List Nat) : Digs 256 (hshN h bs) := by
  unfold hshN
  split
  · exact outN_digs _ 8
  · split
    · exact fun d hd => outM_digs _ 8 d (List.mem_of_mem_take hd)
    · split
      · exact outM_digs _ 8
      · exact Digs.nil _

/-- Bytes put together bit by bit. -/
def xorN (xs bs : List Nat) : List Nat := (List.range xs.length).map fun i => xs.getD i 0 ^^^ bs.getD i 0

theorem xorN_length (xs bs : List Nat) : (xorN xs bs).length = xs.length := by unfold xorN; simp

theorem xorN_digs {xs bs : List Nat} (hx : Digs 256 xs) (hb : Digs 256 bs) : Digs 256 (xorN xs bs) := fun d hd => by
  obtain ⟨i, _, rfl⟩ := List.mem_map.1 hd
  exact Nat.xor_lt_two_pow (n := 8) (hx.getD (by omega) i) (hb.getD (by omega) i)

/-- While they are put together: the first k. -/
def xorK (xs bs : List Nat) (k : Nat) : List Nat := (xorN xs bs).take k ++ xs.drop k

theorem xorK_length (xs bs : List Nat) (k : Nat) : (xorK xs bs k).length = xs.length := by
  unfold xorK
  rw [List.length_append, List.length_take, List.length_drop, xorN_length]
  omega

theorem xorK_getD {xs bs : List Nat} {k : Nat} (hk : k < xs.length) : (xorK xs bs k).getD k 0 = xs.getD k 0 := by
  unfold xorK
  rw [List.getD_eq_getElem?_getD, List.getElem?_append_right (by rw [List.length_take, xorN_length]; omega), List.length_take, xorN_length, Nat.min_eq_left (by omega), Nat.sub_self, List.getElem?_drop, Nat.add_zero, List.getD_eq_getElem?_getD]

theorem xorK_set {xs bs : List Nat} {k : Nat} (hk : k < xs.length) : (xorK xs bs k).set k (xs.getD k 0 ^^^ bs.getD k 0) = xorK xs bs (k + 1) := by
  have e1 : (xorN xs bs)[k]? = some (xs.getD k 0 ^^^ bs.getD k 0) := by
    unfold xorN
    rw [List.getElem?_map, List.getElem?_range hk]
    rfl
  obtain ⟨h1, h2⟩ := List.getElem?_eq_some_iff.1 e1
  unfold xorK
  rw [List.set_append_right _ _ (by rw [List.length_take, xorN_length]; omega), List.length_take, xorN_length, Nat.min_eq_left (by omega), Nat.sub_self, List.drop_eq_getElem_cons hk, List.set_cons_zero, List.take_succ_eq_append_getElem h1, h2, List.append_assoc]
  rfl

theorem xorK_last (xs bs : List Nat) : xorK xs bs xs.length = xorN xs bs := by
  unfold xorK
  rw [List.drop_length, List.append_nil, List.take_of_length_le (by rw [xorN_length]; omega)]

end Go.Proofs.YthnkganmccgaeaaDoor
