/- Package nat: the words of a number from the highest down (downward), as a range over a function hands them out. -/
import Derived.Test.YtiljkgoafknefaaGreatNatB
import Derived.Test.YtiljkgoafknefaaGreatSeq0
import Derived.RangeFuncNested
import Derived.RangeFuncBound
import Derived.RangeFuncCalls
import Derived.RangeFuncLeaves
import Derived.RangeFuncBox
import Derived.Shelf.Abstract
import Derived.Shelf.RegionOpen
import Derived.OwnWalkIn
import Derived.TacticsInMore
import Derived.LoopNIn
import Derived.LoopIn
namespace Go.Proofs.YtiljkgoafknefaaGreat
open Go.RowKit Go.Shelf

attribute [local go_sem] Oper.semAt_some

/-- What has come: the places from the top down, when r are left. -/
def downIdx (L : Nat) (r : Nat) : List Nat := (List.range (L - r)).map fun j => L - 1 - j

theorem downIdx_all (L : Nat) : downIdx L L = [] := by simp [downIdx]

theorem downIdx_step {L j : Nat} (h : j < L) : downIdx L j = downIdx L (j + 1) ++ [j] := by
  unfold downIdx
  rw [show L - j = (L - (j + 1)) + 1 by omega, List.range_succ, List.map_append, List.map_singleton, show L - 1 - (L - (j + 1)) = j by omega]

theorem downIdx_length (L r : Nat) : (downIdx L r).length = L - r := by simp [downIdx]

set_option maxRecDepth 100000 in
set_option maxHeartbeats 2000000 in
/-- downward's closure. -/
theorem down1 (F : Fence) (n : Nat) (hf : F.fn 138) (hro : F.round = none) (hn : 1 ≤ n) (l Bs L : Nat) (g : Nat → Nat) (v : Value) (zs : List Nat) (hL : Hid (zs.length = L)) (hg : Hid (∀ j, zs.getD j 0 = g j)) (S : Nat → Prop) (hS : S Bs) (hSv : ∀ b, v.ownBlock = some b → 0 < L → S b)
    (J Jx : List (Fin L) → World → Prop)
    (hY : ∀ pre (x : Fin L) W, J pre W → pre.length < L → YieldAt F (n - 1) Tryz.prog l #[.int .i64 (x.val : Nat), .int .u64 (g x.val : Nat)] W fun e W' =>
      (e = .returned (.bool true) ∧ J (pre ++ [x]) W' ∧ KeepB S W W') ∨ (e = .returned (.bool false) ∧ Jx (pre ++ [x]) W'))
    (W : World) (hBs : W.cell? ⟨Bs, 0, none⟩ = some v) (hr : Row .u64 W v zs) (h0 : J [] W) :
    CallsIn F n Tryz.prog 138 #[.func (.yield l) #[] #[], .pointer (some ⟨Bs, 0, none⟩)] W fun e W' => (∃ v, e = .returned v) ∧
      ((∃ ys, ys.map Fin.val = downIdx L 0 ∧ J ys W') ∨ (∃ pre, (∃ r, r < L ∧ pre.map Fin.val = downIdx L r) ∧ Jx pre W')) := by
  obtain ⟨ao, m, cap, rfl, hN, c1, c2, c3, hnum⟩ := hr.open
  obtain rfl : m = L := by rw [← hN.out]; exact hL.out
  have HNUM : Hid (∀ i, i < m → NumAt .u64 W ao zs i) := hnum
  clear hnum hr
  refine callsIn_of_wp Tryz.func138 rfl hf ?_ hro
  simp only [Tryz.ntmps138, List.size_toArray, List.length_cons, List.length_nil, Nat.reduceAdd, Nat.reduceSub, Array.replicate_succ, Array.replicate_zero, List.push_toArray, List.append_toArray, List.nil_append, List.cons_append]
  gi_wp2
  gi_loopw [3] (fun i wr => ∃ r : Nat, r ≤ m ∧ i = .int .i64 ((r : Int) - 1) ∧ (∃ pre : List (Fin m), Hid (pre.map Fin.val = downIdx m r) ∧ J pre wr) ∧ KeepB S W wr)
    (fun i _ => (intOf i + 1).toNat)
  case atStart => exact ⟨m, Nat.le_refl _, by simp, ⟨[], by simp [Hid, downIdx_all], h0⟩, KeepB.refl _ _⟩
  case round =>
    obtain ⟨r, hr, rfl, ⟨pre, hpre, hJs⟩, hkp⟩ := hrel
    cases r with
    | zero =>
      gi_wp2
      go_end0
      exact ⟨⟨_, rfl⟩, .inl ⟨pre, hpre.out, hJs⟩⟩
    | succ j =>
      rw [show (((j + 1 : Nat) : Int) - 1) = (j : Int) by omega]
      obtain ⟨b, off, rfl, hc⟩ := HNUM.out j (by omega)
      have hc' : wr.cell? ⟨b, off + j, none⟩ = some (.int .u64 (g j : Nat)) := by
        rw [hkp.cell (p := ⟨b, off + j, none⟩) (hSv b rfl (by omega)), hc, hg.out]
      have hbox := (hkp.cell (p := ⟨Bs, 0, none⟩) hS).trans hBs
      have hlen : pre.length < m := by
        have := congrArg List.length hpre.out
        rw [List.length_map, downIdx_length] at this
        omega
      obtain ⟨fn, tmps, assign, body, hy, hR⟩ := hY pre ⟨j, by omega⟩ wr hJs hlen
      dsimp only at hy
      clear hc HNUM
      gi_wp2
      refine hR.mono ?_
      rintro e W3 (⟨rfl, hJ3, hk3⟩ | ⟨rfl, hJx3⟩)
      · gi_wp2
        go_roundw
        case rel => exact ⟨j, by omega, by simp, ⟨pre ++ [⟨j, by omega⟩], by unfold Hid; rw [List.map_append, hpre.out, downIdx_step (show j < m by omega)]; rfl, hJ3⟩, hkp.trans hk3⟩
        case measure => simp [intOf]
      · gi_wp2
        refine bodyPost_ret (results_none rfl _ _ _) rfl ?_
        exact ⟨⟨_, rfl⟩, .inr ⟨_, ⟨j, by omega, by rw [List.map_append, hpre.out, downIdx_step (show j < m by omega)]; rfl⟩, hJx3⟩⟩

/-- downward: the slice is boxed; the function value holds the box. -/
theorem downBox (F : Fence) (n : Nat) (h5 : F.fn 113) (hro : F.round = none) (ao : Option Addr) (len cap : Nat) (w : World) :
    CallsIn F n Tryz.prog 113 #[.slice ao len cap] w fun e w' => e = .returned (.func (.func 138) #[] #[.pointer (some ⟨w.heap.size, 0, none⟩)]) ∧ w' = w.alloc (.cells #[.slice ao len cap] 23) := by
  refine callsIn_of_wp Tryz.func113 rfl h5 ?_ hro
  simp only [Tryz.ntmps113, List.size_toArray, List.length_cons, List.length_nil, Nat.reduceAdd, Nat.reduceSub, Array.replicate_succ, Array.replicate_zero, List.push_toArray, List.append_toArray, List.nil_append, List.cons_append]
  gi_wp2
  go_ret
  exact ⟨rfl, rfl⟩

/-- downward's value, as a range over it wants it. -/
theorem downStops (F : Fence) (n : Nat) (hf : F.fn 138) (hro : F.round = none) (hn : 1 ≤ n) (Bs L : Nat) (g : Nat → Nat) (v : Value) (zs : List Nat) (hL : zs.length = L) (hg : ∀ j, zs.getD j 0 = g j) (S : Nat → Prop) (hS : S Bs) (hSv : ∀ b, v.ownBlock = some b → 0 < L → S b)
    (w : World) (hSw : ∀ k, S k → k < w.heap.size) (hBs : w.cell? ⟨Bs, 0, none⟩ = some v) (hr : Row .u64 w v zs) :
    SeqStopsK F n Tryz.prog 138 #[.pointer (some ⟨Bs, 0, none⟩)] (fun x : Fin L => #[Value.int .i64 (x.val : Nat), Value.int .u64 (g x.val : Nat)]) (KeepB S) (fun ys => ys.map Fin.val = downIdx L 0) (fun pre => ∃ r, r < L ∧ pre.map Fin.val = downIdx L r) L w := fun l J Jx W hW _ _ hY h0 => by
  have hk : KeepB S w W := fun k hk => hW.block k (hSw k hk)
  exact down1 F n hf hro hn l Bs L g v zs hL hg S hS hSv J Jx hY W ((hk.cell (p := ⟨Bs, 0, none⟩) hS).trans hBs) (hk.row (fun b hb hp => hSv b hb (by omega)) hr) h0

end Go.Proofs.YtiljkgoafknefaaGreat
