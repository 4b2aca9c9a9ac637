/- The plain side of layer 12: Pad. -/
import Derived.Test.YthnkganmccgaeaaDoorShb1
import Derived.Test.YthnkganmccgaeaaDoorSha4
namespace Go.Proofs.YthnkganmccgaeaaDoor
open Go.RowKit

/-- How many noughts a padding has. -/
def padZM (n : Nat) : Nat := (239 - n % 128) % 128

/-- What stands behind n bytes. -/
def padM (n : Nat) : List Nat := (([128] ++ List.replicate (padZM n) 0) ++ [0, 0, 0, 0, 0, 0, 0, n / 2305843009213693952 % 256]) ++ padL n 8

set_option maxRecDepth 20000 in
set_option maxHeartbeats 2000000 in
/-- Pad. -/
theorem r12Pad (n : Int) (N : Nat) (hn : n < 9223372036854775808) (hN : N = n.toNat) (w : World) :
    Calls Tryd.prog 39 #[.int .i64 n] w fun e w' => ∃ v', e = .returned v' ∧ Row .u8 w' v' (padM N) ∧ (∀ b, v'.ownBlock = some b → w.heap.size ≤ b) ∧ Kept Nought w w' := by
  obtain ⟨i0, hi0, hz0, hz1, hz2⟩ := info_parts Tryd.info8s
  have gm : max n 0 = (N : Int) := by omega
  have hNb : N < 9223372036854775808 := by omega
  obtain ⟨Z, hZ⟩ : ∃ Z, Z = padZM N := ⟨_, rfl⟩
  have hZb : Z < 128 := by rw [hZ]; exact Nat.mod_lt _ (by omega)
  have hZc : ∀ k, k ≤ Z → ((N + (k + 1)) % 128 = 112 ↔ k = Z) := fun k hk => by rw [hZ] at hk ⊢; unfold padZM at *; omega
  have ho0 : OwnN .u8 5 (w.alloc (.cells #[.int .u8 128] 5)) w.heap.size (.slice (some ⟨w.heap.size, 0, none⟩) 1 1) 1 [128] := own_of_block (k := .u8) (zs := [128]) (heap_alloc_new w _) rfl (by unfold maxLen; omega) (Nat.le_refl _)
  have k0 : Kept Nought w (w.alloc (.cells #[.int .u8 128] 5)) := (Kept.refl Nought w).alloc _
  have HZC := toHid hZc
  have HO0 := toHid ho0
  have HK0 := toHid k0
  have HZZ := toHid hZ
  clear hN hZ hZc ho0 k0
  go_enter Tryd.func39, Tryd.ntmps39
  go_wp2_with fail
  go_loopw [3] (fun out wr => ∃ (k : Nat) (ao : Option Addr) (c : Nat), k ≤ Z ∧ out = .slice ao (k + 1) c ∧ Hid (OwnN .u8 5 wr w.heap.size (.slice ao (k + 1) c) (k + 1) ([128] ++ List.replicate k 0)) ∧ Hid (Kept Nought w wr)) (fun out _ => Z + 1 - sliceLen out)
  case atStart => exact ⟨0, _, _, Nat.zero_le _, rfl, HO0.out, HK0.out⟩
  case round =>
    obtain ⟨k, ao, c, hk, rfl, HO, HK⟩ := hrel
    have hiff := HZC.out k hk
    by_cases hkz : k = Z
    · have h112 : ((N : Int) + ((k : Int) + 1)) % 128 = 112 := by have := hiff.2 hkz; omega
      have HKZ := toHid hkz
      have ho := HO.out
      have hkp := HK.out
      obtain ⟨th, hth⟩ : ∃ th, th = N / 2305843009213693952 % 256 := ⟨_, rfl⟩
      have gth : (N : Int) / 2305843009213693952 = (th : Int) := by omega
      have gth2 : (th : Int) % 256 = (th : Int) := by omega
      have HTH := toHid hth
      clear HO0 HK0 hiff hkz hth
      go_wp2_with (at_builtin; refine wpList_append_lies _ rfl _ _ 22 rfl w.heap.size 5 i0 _ 1 1 Tryd.underlying22 hi0 hz0 hz1 hz2 rfl (by omega) _ _ _ rfl (ho.alloc _) ⟨wr.heap.size, 0, none⟩ 8 8 [.int .u8 0, .int .u8 0, .int .u8 0, .int .u8 0, .int .u8 0, .int .u8 0, .int .u8 0, .int .u8 (th : Int)] rfl rfl (World.news_of_block (cs := #[.int .u8 0, .int .u8 0, .int .u8 0, .int .u8 0, .int .u8 0, .int .u8 0, .int .u8 0, .int .u8 (th : Int)]) (t := 5) (fr := (0, 0)) (Go.heap_alloc_new wr _)) (by simp [Value.oneCell']) (by omega) (by unfold maxLen; omega) (by omega) (by have := hkp.size; simp; omega) (wr.heap.size + 1) (by simp) ?_; intro gg c' w4 ho4 hg hat hgl)
      have hk5 : Kept Nought w w4 := (hkp.alloc _).grown hg (fun b hb hlt => by have := (ho.lt b hb).1; omega)
      have HO4 : Hid (OwnN .u8 5 w4 w.heap.size (.slice (some ⟨gg, 0, none⟩) (k + 1 + 8) c') (k + 1 + 8) (([128] ++ List.replicate k 0) ++ [0, 0, 0, 0, 0, 0, 0, th])) := by unfold Hid OwnN; rw [List.map_append]; exact ho4
      have HK4 := toHid hk5
      clear h112 gth gth2 ho4 hg hat hgl hk5 ho hkp
      go_wp2_with fail
      go_loopw [3, 4] (fun out iv wr2 => ∃ (j : Nat) (a2 : Option Addr) (c2 : Nat), j ≤ 8 ∧ iv = .int .i64 (56 - 8 * (j : Int)) ∧ out = .slice a2 (k + 1 + 8 + j) c2 ∧ Hid (OwnN .u8 5 wr2 w.heap.size (.slice a2 (k + 1 + 8 + j) c2) (k + 1 + 8 + j) ((([128] ++ List.replicate k 0) ++ [0, 0, 0, 0, 0, 0, 0, th]) ++ padL N j)) ∧ Hid (Kept Nought w wr2)) (fun _ iv _ => ((intOf iv + 8) / 8).toNat)
      case atStart => exact ⟨0, _, _, Nat.zero_le _, rfl, rfl, by unfold Hid; rw [show padL N 0 = [] from rfl, List.append_nil]; exact HO4.out, HK4.out⟩
      case round =>
        obtain ⟨j, a2, c2, hj, rfl, rfl, HO2, HK2⟩ := hrel
        by_cases hj8 : j < 8
        · obtain ⟨q, hq⟩ : ∃ q, q = 56 - 8 * j := ⟨_, rfl⟩
          have gq : (56 : Int) - 8 * (j : Int) = (q : Int) := by omega
          have gq0 : (0 : Int) ≤ (q : Int) := by omega
          have hq64 : q < 64 := by omega
          obtain ⟨y, hy⟩ : ∃ y, y = 8 * N % 18446744073709551616 / 2 ^ q % 256 := ⟨_, rfl⟩
          have gy : IntKind.u64.wrap (8 * (N : Int)) / 2 ^ q % 256 = (y : Int) := by
            rw [IntKind.wrap_u64, hy]
            simp
          have HY : Hid (padL N (j + 1) = padL N j ++ [y]) := by
            unfold Hid
            rw [padL_succ, ← hq, ← hy]
          clear hq hy
          have ho := HO2.out
          have hkp := HK2.out
          go_wp2_with (at_builtin; refine wpList_append_lies _ rfl _ _ 22 rfl w.heap.size 5 i0 _ 1 1 Tryd.underlying22 hi0 hz0 hz1 hz2 rfl (by omega) _ _ _ rfl (ho.alloc _) ⟨wr.heap.size, 0, none⟩ 1 1 [.int .u8 (y : Int)] rfl rfl (new1c wr _ _) (by simp [Value.oneCell']) (by omega) (by unfold maxLen; omega) (by omega) (by have := hkp.size; simp; omega) (wr.heap.size + 1) (by simp) ?_; intro gg c' w4 ho4 hg hat hgl)
          have hk5 : Kept Nought w w4 := (hkp.alloc _).grown hg (fun b hb hlt => by have := (ho.lt b hb).1; omega)
          go_roundw
          case rel => exact ⟨j + 1, _, _, by omega, by go_num, rfl, by unfold Hid OwnN; rw [HY.out, ← List.append_assoc, List.map_append]; exact ho4, hk5⟩
          case measure => simp [intOf]; omega
        · have gj : (56 : Int) - 8 * (j : Int) < 0 := by omega
          have gj' : ¬ (56 : Int) - 8 * (j : Int) ≥ 0 := by omega
          have ho := HO2.out
          rw [show j = 8 by omega] at ho
          have hrow : Row .u8 wr (.slice a2 (k + 1 + 8 + j) c2) (padM N) := by
            unfold padM
            rw [← HZZ.out, ← HKZ.out, ← HTH.out, show k + 1 + 8 + j = k + 1 + 8 + 8 by omega]
            exact Row.of_own (base := w.heap.size) (e := 5) (by
              have hl : ((([128] ++ List.replicate k 0) ++ [0, 0, 0, 0, 0, 0, 0, th]) ++ padL N 8).length = k + 1 + 8 + 8 := by unfold padL; simp
              rw [hl]
              exact ho)
          have hfr : ∀ b, (Value.slice a2 (k + 1 + 8 + j) c2).ownBlock = some b → w.heap.size ≤ b := fun b hb => (HO2.out.lt b hb).1
          have HR := toHid hrow
          have HF := toHid hfr
          clear ho hrow hfr
          go_wp2_with fail
          go_ret
          exact ⟨_, rfl, HR.out, HF.out, HK2.out⟩
    · have h112 : ¬ ((N : Int) + ((k : Int) + 1)) % 128 = 112 := by have := mt hiff.1 hkz; omega
      clear HO0 HK0 hiff
      have ho := HO.out
      have hkp := HK.out
      go_wp2_with (at_builtin; refine wpList_append_lies _ rfl _ _ 22 rfl w.heap.size 5 i0 _ 1 1 Tryd.underlying22 hi0 hz0 hz1 hz2 rfl (by omega) _ _ _ rfl (ho.alloc _) ⟨wr.heap.size, 0, none⟩ 1 1 [.int .u8 0] rfl rfl (new1c wr _ _) (by simp [Value.oneCell']) (by omega) (by unfold maxLen; omega) (by omega) (by have := hkp.size; simp; omega) (wr.heap.size + 1) (by simp) ?_; intro gg c' w4 ho4 hg hat hgl)
      have hk5 : Kept Nought w w4 := (hkp.alloc _).grown hg (fun b hb hlt => by have := (ho.lt b hb).1; omega)
      go_roundw
      case rel => exact ⟨k + 1, _, _, by omega, rfl, by unfold Hid OwnN; rw [List.replicate_succ', ← List.append_assoc, List.map_append]; exact ho4, hk5⟩
      case measure => simp [sliceLen]; omega

end Go.Proofs.YthnkganmccgaeaaDoor
