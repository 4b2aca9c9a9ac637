/- What the plain Put answers, for any word: its eight bytes, in new memory. -/
import Derived.Test.YtaddnmnnpnkahaaPutGet
import Derived.OwnWalk
namespace Go.Proofs.Ytaddnmnnpnkahaa
open Go.RowKit

theorem Try.info5 : (Try.prog.info? 5).map (fun i => (i.zero, i.size, i.bytes)) = some (some (.int .u8 0), 1, 1) := by kernel_rfl

theorem rput_below {w wr w1 : World} {B : Nat} {e : TypeId} {v : Value} {n : Nat} {xs : List Value} {o : Obj} (hb : Below w.heap.size w wr) (hown : wr.ownsRow w.heap.size e B v n xs) (hg : (wr.alloc o).grownBy w1 v.ownBlock) : Below w.heap.size w w1 :=
  (hb.alloc hb.size o).grown hg (by have := hb.size; simp; omega) (fun k hk => (hown.lt k hk).1)

set_option maxHeartbeats 400000 in
/-- The plain Put. -/
theorem rPut (a : Int) (a0 : 0 ≤ a) (a1 : a < 18446744073709551616) (w : World) :
    Calls Try.prog 28 #[.int .u64 a] w fun e w' => ∃ v, e = .returned v ∧ w'.ownsRow w.heap.size 5 1 v 8 ((putBytes a).map (Value.int .u8)) ∧ Below w.heap.size w w' := by
  obtain ⟨i0, hi, hz0, hz1, hz2⟩ := info_parts Try.info5
  go_enter Try.func28, Try.ntmps28
  go_wp2_with fail
  go_loopw [3, 4] (fun v i wr => ∃ k : Nat, k ≤ 8 ∧ i = .int .i64 (56 - 8 * (k : Int)) ∧ wr.ownsRow w.heap.size 5 1 v k (((putBytes a).take k).map (Value.int .u8)) ∧ Below w.heap.size w wr) (fun _ i _ => (intOf i + 8).toNat)
  case atStart => exact ⟨0, by omega, rfl, World.ownsRow_nil _ _ _ _, Below.refl _ _⟩
  case round =>
    obtain ⟨k, hk, rfl, hown, hb⟩ := hrel
    have : k = 0 ∨ k = 1 ∨ k = 2 ∨ k = 3 ∨ k = 4 ∨ k = 5 ∨ k = 6 ∨ k = 7 ∨ k = 8 := by omega
    rcases this with rfl | rfl | rfl | rfl | rfl | rfl | rfl | rfl | rfl
    · go_wp2_with (at_builtin; refine wpList_append_own _ rfl _ _ 35 rfl w.heap.size 5 i0 (.int .u8 0) 1 1 Try.underlying35 hi hz0 hz1 hz2 rfl (by decide) _ _ _ rfl (hown.alloc _) ⟨wr.heap.size, 0, none⟩ 1 1 [.int .u8 (a / 72057594037927936)] rfl rfl (cell_one_new _ _ _) (by intro u hu; simp at hu; subst hu; rfl) (by unfold maxLen; omega) (by omega) (by have := hb.size; simp; omega) ?_)
      intro v' w1 hown' hgrow _
      have hb' := rput_below hb hown hgrow
      have ho' : w1.ownsRow w.heap.size 5 1 v' 1 (((putBytes a).take 1).map (Value.int .u8)) := by
        have e : (((putBytes a).take 1).map (Value.int .u8)) = (((putBytes a).take 0).map (Value.int .u8)) ++ [.int .u8 (a / 72057594037927936)] := by simp [putBytes]; omega
        rw [e]; exact hown'
      clear hown' hgrow hown hb
      go_wp2
      go_roundw
      case rel => exact ⟨1, by omega, by go_num, ho', hb'⟩
      case measure => simp [intOf]
    · go_wp2_with (at_builtin; refine wpList_append_own _ rfl _ _ 35 rfl w.heap.size 5 i0 (.int .u8 0) 1 1 Try.underlying35 hi hz0 hz1 hz2 rfl (by decide) _ _ _ rfl (hown.alloc _) ⟨wr.heap.size, 0, none⟩ 1 1 [.int .u8 (a / 281474976710656 % 256)] rfl rfl (cell_one_new _ _ _) (by intro u hu; simp at hu; subst hu; rfl) (by unfold maxLen; omega) (by omega) (by have := hb.size; simp; omega) ?_)
      intro v' w1 hown' hgrow _
      have hb' := rput_below hb hown hgrow
      have ho' : w1.ownsRow w.heap.size 5 1 v' 2 (((putBytes a).take 2).map (Value.int .u8)) := by
        have e : (((putBytes a).take 2).map (Value.int .u8)) = (((putBytes a).take 1).map (Value.int .u8)) ++ [.int .u8 (a / 281474976710656 % 256)] := by simp [putBytes]
        rw [e]; exact hown'
      clear hown' hgrow hown hb
      go_wp2
      go_roundw
      case rel => exact ⟨2, by omega, by go_num, ho', hb'⟩
      case measure => simp [intOf]
    · go_wp2_with (at_builtin; refine wpList_append_own _ rfl _ _ 35 rfl w.heap.size 5 i0 (.int .u8 0) 1 1 Try.underlying35 hi hz0 hz1 hz2 rfl (by decide) _ _ _ rfl (hown.alloc _) ⟨wr.heap.size, 0, none⟩ 1 1 [.int .u8 (a / 1099511627776 % 256)] rfl rfl (cell_one_new _ _ _) (by intro u hu; simp at hu; subst hu; rfl) (by unfold maxLen; omega) (by omega) (by have := hb.size; simp; omega) ?_)
      intro v' w1 hown' hgrow _
      have hb' := rput_below hb hown hgrow
      have ho' : w1.ownsRow w.heap.size 5 1 v' 3 (((putBytes a).take 3).map (Value.int .u8)) := by
        have e : (((putBytes a).take 3).map (Value.int .u8)) = (((putBytes a).take 2).map (Value.int .u8)) ++ [.int .u8 (a / 1099511627776 % 256)] := by simp [putBytes]
        rw [e]; exact hown'
      clear hown' hgrow hown hb
      go_wp2
      go_roundw
      case rel => exact ⟨3, by omega, by go_num, ho', hb'⟩
      case measure => simp [intOf]
    · go_wp2_with (at_builtin; refine wpList_append_own _ rfl _ _ 35 rfl w.heap.size 5 i0 (.int .u8 0) 1 1 Try.underlying35 hi hz0 hz1 hz2 rfl (by decide) _ _ _ rfl (hown.alloc _) ⟨wr.heap.size, 0, none⟩ 1 1 [.int .u8 (a / 4294967296 % 256)] rfl rfl (cell_one_new _ _ _) (by intro u hu; simp at hu; subst hu; rfl) (by unfold maxLen; omega) (by omega) (by have := hb.size; simp; omega) ?_)
      intro v' w1 hown' hgrow _
      have hb' := rput_below hb hown hgrow
      have ho' : w1.ownsRow w.heap.size 5 1 v' 4 (((putBytes a).take 4).map (Value.int .u8)) := by
        have e : (((putBytes a).take 4).map (Value.int .u8)) = (((putBytes a).take 3).map (Value.int .u8)) ++ [.int .u8 (a / 4294967296 % 256)] := by simp [putBytes]
        rw [e]; exact hown'
      clear hown' hgrow hown hb
      go_wp2
      go_roundw
      case rel => exact ⟨4, by omega, by go_num, ho', hb'⟩
      case measure => simp [intOf]
    · go_wp2_with (at_builtin; refine wpList_append_own _ rfl _ _ 35 rfl w.heap.size 5 i0 (.int .u8 0) 1 1 Try.underlying35 hi hz0 hz1 hz2 rfl (by decide) _ _ _ rfl (hown.alloc _) ⟨wr.heap.size, 0, none⟩ 1 1 [.int .u8 (a / 16777216 % 256)] rfl rfl (cell_one_new _ _ _) (by intro u hu; simp at hu; subst hu; rfl) (by unfold maxLen; omega) (by omega) (by have := hb.size; simp; omega) ?_)
      intro v' w1 hown' hgrow _
      have hb' := rput_below hb hown hgrow
      have ho' : w1.ownsRow w.heap.size 5 1 v' 5 (((putBytes a).take 5).map (Value.int .u8)) := by
        have e : (((putBytes a).take 5).map (Value.int .u8)) = (((putBytes a).take 4).map (Value.int .u8)) ++ [.int .u8 (a / 16777216 % 256)] := by simp [putBytes]
        rw [e]; exact hown'
      clear hown' hgrow hown hb
      go_wp2
      go_roundw
      case rel => exact ⟨5, by omega, by go_num, ho', hb'⟩
      case measure => simp [intOf]
    · go_wp2_with (at_builtin; refine wpList_append_own _ rfl _ _ 35 rfl w.heap.size 5 i0 (.int .u8 0) 1 1 Try.underlying35 hi hz0 hz1 hz2 rfl (by decide) _ _ _ rfl (hown.alloc _) ⟨wr.heap.size, 0, none⟩ 1 1 [.int .u8 (a / 65536 % 256)] rfl rfl (cell_one_new _ _ _) (by intro u hu; simp at hu; subst hu; rfl) (by unfold maxLen; omega) (by omega) (by have := hb.size; simp; omega) ?_)
      intro v' w1 hown' hgrow _
      have hb' := rput_below hb hown hgrow
      have ho' : w1.ownsRow w.heap.size 5 1 v' 6 (((putBytes a).take 6).map (Value.int .u8)) := by
        have e : (((putBytes a).take 6).map (Value.int .u8)) = (((putBytes a).take 5).map (Value.int .u8)) ++ [.int .u8 (a / 65536 % 256)] := by simp [putBytes]
        rw [e]; exact hown'
      clear hown' hgrow hown hb
      go_wp2
      go_roundw
      case rel => exact ⟨6, by omega, by go_num, ho', hb'⟩
      case measure => simp [intOf]
    · go_wp2_with (at_builtin; refine wpList_append_own _ rfl _ _ 35 rfl w.heap.size 5 i0 (.int .u8 0) 1 1 Try.underlying35 hi hz0 hz1 hz2 rfl (by decide) _ _ _ rfl (hown.alloc _) ⟨wr.heap.size, 0, none⟩ 1 1 [.int .u8 (a / 256 % 256)] rfl rfl (cell_one_new _ _ _) (by intro u hu; simp at hu; subst hu; rfl) (by unfold maxLen; omega) (by omega) (by have := hb.size; simp; omega) ?_)
      intro v' w1 hown' hgrow _
      have hb' := rput_below hb hown hgrow
      have ho' : w1.ownsRow w.heap.size 5 1 v' 7 (((putBytes a).take 7).map (Value.int .u8)) := by
        have e : (((putBytes a).take 7).map (Value.int .u8)) = (((putBytes a).take 6).map (Value.int .u8)) ++ [.int .u8 (a / 256 % 256)] := by simp [putBytes]
        rw [e]; exact hown'
      clear hown' hgrow hown hb
      go_wp2
      go_roundw
      case rel => exact ⟨7, by omega, by go_num, ho', hb'⟩
      case measure => simp [intOf]
    · go_wp2_with (at_builtin; refine wpList_append_own _ rfl _ _ 35 rfl w.heap.size 5 i0 (.int .u8 0) 1 1 Try.underlying35 hi hz0 hz1 hz2 rfl (by decide) _ _ _ rfl (hown.alloc _) ⟨wr.heap.size, 0, none⟩ 1 1 [.int .u8 (a % 256)] rfl rfl (cell_one_new _ _ _) (by intro u hu; simp at hu; subst hu; rfl) (by unfold maxLen; omega) (by omega) (by have := hb.size; simp; omega) ?_)
      intro v' w1 hown' hgrow _
      have hb' := rput_below hb hown hgrow
      have ho' : w1.ownsRow w.heap.size 5 1 v' 8 (((putBytes a).take 8).map (Value.int .u8)) := by
        have e : (((putBytes a).take 8).map (Value.int .u8)) = (((putBytes a).take 7).map (Value.int .u8)) ++ [.int .u8 (a % 256)] := by simp [putBytes]
        rw [e]; exact hown'
      clear hown' hgrow hown hb
      go_wp2
      go_roundw
      case rel => exact ⟨8, by omega, by go_num, ho', hb'⟩
      case measure => simp [intOf]
    · go_wp2_with fail
      go_ret
      exact ⟨_, rfl, hown, hb⟩
end Go.Proofs.Ytaddnmnnpnkahaa
