/- Put together of: NatC NatD NatE. -/
import Derived.Test.YtiljkgoafknefaaGreatPk20
import Derived.RangeFuncNested
import Derived.RangeFuncBound
import Derived.RangeFuncCalls
import Derived.RangeFuncLeaves
import Derived.RangeFuncBox
import Derived.Shelf.Abstract
import Derived.Shelf.RegionOpen
import Derived.OwnWalkIn
import Derived.TacticsInMore
import Derived.LoopNIn
import Derived.LoopIn
import Derived.Deep.RegionWith

/- Package nat: the words of a number from the highest down (downward), as a range over a function hands them out. -/
namespace Go.Proofs.YtiljkgoafknefaaGreat
open Go.RowKit Go.Shelf

attribute [local go_sem] Oper.semAt_some

/-- What has come: the places from the top down, when r are left. -/
def downIdx (L : Nat) (r : Nat) : List Nat := (List.range (L - r)).map fun j => L - 1 - j

theorem downIdx_all (L : Nat) : downIdx L L = [] := by simp [downIdx]

theorem downIdx_step {L j : Nat} (h : j < L) : downIdx L j = downIdx L (j + 1) ++ [j] := by
  unfold downIdx
  rw [show L - j = (L - (j + 1)) + 1 by omega, List.range_succ, List.map_append, List.map_singleton, show L - 1 - (L - (j + 1)) = j by omega]

theorem downIdx_length (L r : Nat) : (downIdx L r).length = L - r := by simp [downIdx]

set_option maxRecDepth 100000 in
set_option maxHeartbeats 2000000 in
/-- downward's closure. -/
theorem down1 (F : Fence) (n : Nat) (hf : F.fn 138) (hro : F.round = none) (hn : 1 ≤ n) (l Bs L : Nat) (g : Nat → Nat) (v : Value) (zs : List Nat) (hL : Hid (zs.length = L)) (hg : Hid (∀ j, zs.getD j 0 = g j)) (S : Nat → Prop) (hS : S Bs) (hSv : ∀ b, v.ownBlock = some b → 0 < L → S b)
    (J Jx : List (Fin L) → World → Prop)
    (hY : ∀ pre (x : Fin L) W, J pre W → pre.length < L → YieldAt F (n - 1) Tryz.prog l #[.int .i64 (x.val : Nat), .int .u64 (g x.val : Nat)] W fun e W' =>
      (e = .returned (.bool true) ∧ J (pre ++ [x]) W' ∧ KeepB S W W') ∨ (e = .returned (.bool false) ∧ Jx (pre ++ [x]) W'))
    (W : World) (hBs : W.cell? ⟨Bs, 0, none⟩ = some v) (hr : Row .u64 W v zs) (h0 : J [] W) :
    CallsIn F n Tryz.prog 138 #[.func (.yield l) #[] #[], .pointer (some ⟨Bs, 0, none⟩)] W fun e W' => (∃ v, e = .returned v) ∧
      ((∃ ys, ys.map Fin.val = downIdx L 0 ∧ J ys W') ∨ (∃ pre, (∃ r, r < L ∧ pre.map Fin.val = downIdx L r) ∧ Jx pre W')) := by
  obtain ⟨ao, m, cap, rfl, hN, c1, c2, c3, hnum⟩ := hr.open
  obtain rfl : m = L := by rw [← hN.out]; exact hL.out
  have HNUM : Hid (∀ i, i < m → NumAt .u64 W ao zs i) := hnum
  clear hnum hr
  refine callsIn_of_wp Tryz.func138 rfl hf ?_ hro
  simp only [Tryz.ntmps138, List.size_toArray, List.length_cons, List.length_nil, Nat.reduceAdd, Nat.reduceSub, Array.replicate_succ, Array.replicate_zero, List.push_toArray, List.append_toArray, List.nil_append, List.cons_append]
  gi_wp2
  gi_loopw [3] (fun i wr => ∃ r : Nat, r ≤ m ∧ i = .int .i64 ((r : Int) - 1) ∧ (∃ pre : List (Fin m), Hid (pre.map Fin.val = downIdx m r) ∧ J pre wr) ∧ KeepB S W wr)
    (fun i _ => (intOf i + 1).toNat)
  case atStart => exact ⟨m, Nat.le_refl _, by simp, ⟨[], by simp [Hid, downIdx_all], h0⟩, KeepB.refl _ _⟩
  case round =>
    obtain ⟨r, hr, rfl, ⟨pre, hpre, hJs⟩, hkp⟩ := hrel
    cases r with
    | zero =>
      gi_wp2
      go_end0
      exact ⟨⟨_, rfl⟩, .inl ⟨pre, hpre.out, hJs⟩⟩
    | succ j =>
      rw [show (((j + 1 : Nat) : Int) - 1) = (j : Int) by omega]
      obtain ⟨b, off, rfl, hc⟩ := HNUM.out j (by omega)
      have hc' : wr.cell? ⟨b, off + j, none⟩ = some (.int .u64 (g j : Nat)) := by
        rw [hkp.cell (p := ⟨b, off + j, none⟩) (hSv b rfl (by omega)), hc, hg.out]
      have hbox := (hkp.cell (p := ⟨Bs, 0, none⟩) hS).trans hBs
      have hlen : pre.length < m := by
        have := congrArg List.length hpre.out
        rw [List.length_map, downIdx_length] at this
        omega
      obtain ⟨fn, tmps, assign, body, hy, hR⟩ := hY pre ⟨j, by omega⟩ wr hJs hlen
      dsimp only at hy
      clear hc HNUM
      gi_wp2
      refine hR.mono ?_
      rintro e W3 (⟨rfl, hJ3, hk3⟩ | ⟨rfl, hJx3⟩)
      · gi_wp2
        go_roundw
        case rel => exact ⟨j, by omega, by simp, ⟨pre ++ [⟨j, by omega⟩], by unfold Hid; rw [List.map_append, hpre.out, downIdx_step (show j < m by omega)]; rfl, hJ3⟩, hkp.trans hk3⟩
        case measure => simp [intOf]
      · gi_wp2
        refine bodyPost_ret (results_none rfl _ _ _) rfl ?_
        exact ⟨⟨_, rfl⟩, .inr ⟨_, ⟨j, by omega, by rw [List.map_append, hpre.out, downIdx_step (show j < m by omega)]; rfl⟩, hJx3⟩⟩

/-- downward: the slice is boxed; the function value holds the box. -/
theorem downBox (F : Fence) (n : Nat) (h5 : F.fn 113) (hro : F.round = none) (ao : Option Addr) (len cap : Nat) (w : World) :
    CallsIn F n Tryz.prog 113 #[.slice ao len cap] w fun e w' => e = .returned (.func (.func 138) #[] #[.pointer (some ⟨w.heap.size, 0, none⟩)]) ∧ w' = w.alloc (.cells #[.slice ao len cap] 23) := by
  refine callsIn_of_wp Tryz.func113 rfl h5 ?_ hro
  simp only [Tryz.ntmps113, List.size_toArray, List.length_cons, List.length_nil, Nat.reduceAdd, Nat.reduceSub, Array.replicate_succ, Array.replicate_zero, List.push_toArray, List.append_toArray, List.nil_append, List.cons_append]
  gi_wp2
  go_ret
  exact ⟨rfl, rfl⟩

/-- downward's value, as a range over it wants it. -/
theorem downStops (F : Fence) (n : Nat) (hf : F.fn 138) (hro : F.round = none) (hn : 1 ≤ n) (Bs L : Nat) (g : Nat → Nat) (v : Value) (zs : List Nat) (hL : zs.length = L) (hg : ∀ j, zs.getD j 0 = g j) (S : Nat → Prop) (hS : S Bs) (hSv : ∀ b, v.ownBlock = some b → 0 < L → S b)
    (w : World) (hSw : ∀ k, S k → k < w.heap.size) (hBs : w.cell? ⟨Bs, 0, none⟩ = some v) (hr : Row .u64 w v zs) :
    SeqStopsK F n Tryz.prog 138 #[.pointer (some ⟨Bs, 0, none⟩)] (fun x : Fin L => #[Value.int .i64 (x.val : Nat), Value.int .u64 (g x.val : Nat)]) (KeepB S) (fun ys => ys.map Fin.val = downIdx L 0) (fun pre => ∃ r, r < L ∧ pre.map Fin.val = downIdx L r) L w := fun l J Jx W hW _ _ hY h0 => by
  have hk : KeepB S w W := fun k hk => hW.block k (hSw k hk)
  exact down1 F n hf hro hn l Bs L g v zs hL hg S hS hSv J Jx hY W ((hk.cell (p := ⟨Bs, 0, none⟩) hS).trans hBs) (hk.row (fun b hb hp => hSv b hb (by omega)) hr) h0

end Go.Proofs.YtiljkgoafknefaaGreat


/- Package nat: Compare: how any two numbers stand to one another. -/
namespace Go.Proofs.YtiljkgoafknefaaGreat
open Go.RowKit Go.Shelf

attribute [local go_sem] Oper.semAt_some

/-- needed, told by the slice. -/
theorem nNeedS (ao : Option Addr) (n cap : Nat) (xs : List Nat) (w : World) (h : Row .u64 w (.slice ao n cap) xs) (hd : Digs 18446744073709551616 xs) :
    Calls Tryz.prog 64 #[.slice ao n cap] w fun r w' => r = .returned (.slice ao (wordsN (val 18446744073709551616 xs)) cap) ∧ w' = w := by
  refine (nNeeded _ xs w h).mono ?_
  rintro e w' ⟨m, v', rfl, hm, hr, hz, ht, ho, ⟨ao', n', cap', e1, rfl⟩, rfl⟩
  have e2 := len_words (hd.take m) (trimmed_take hm ht)
  rw [take_trim (B := 18446744073709551616) hm hz, List.length_take, Nat.min_eq_left hm] at e2
  cases e1
  rw [e2]
  exact ⟨rfl, rfl⟩

theorem words_len {xs : List Nat} (hd : Digs 18446744073709551616 xs) : wordsN (val 18446744073709551616 xs) ≤ xs.length := (wordsN_le _ _).2 (val_lt (by omega) hd)

/-- The words that a number needs, and no more. -/
theorem need_list {xs : List Nat} (hd : Digs 18446744073709551616 xs) : ∃ ys, ys = xs.take (wordsN (val 18446744073709551616 xs)) ∧ ys.length = wordsN (val 18446744073709551616 xs) ∧ Digs 18446744073709551616 ys ∧ val 18446744073709551616 ys = val 18446744073709551616 xs ∧ (∀ j, j < wordsN (val 18446744073709551616 xs) → ys.getD j 0 = xs.getD j 0) := by
  have hl := words_len hd
  refine ⟨_, rfl, by rw [List.length_take]; omega, hd.take _, ?_, fun j hj => ?_⟩
  · refine take_trim hl (fun i hi => ?_)
    rw [← dig_val (by omega) hd i]
    unfold dig
    rw [Nat.div_eq_of_lt, Nat.zero_mod]
    exact (wordsN_le _ _).1 hi
  · rw [List.getD_eq_getElem?_getD, List.getD_eq_getElem?_getD, List.getElem?_take, if_pos hj]

theorem nCmp64 (x y : Nat) (w : World) : Calls Tryz.prog 114 #[.int .u64 x, .int .u64 y] w fun r w' => r = .returned (.int .i64 (cmpN x y)) ∧ w' = w := by
  rcases Nat.lt_trichotomy x y with h | h | h
  · rw [cmpN_lt h]
    have h' : (x : Int) < (y : Int) := by omega
    go_enter Tryz.func114, Tryz.ntmps114
    go_wp2
    go_ret
    exact ⟨rfl, rfl⟩
  · rw [cmpN_eq h]
    subst h
    go_enter Tryz.func114, Tryz.ntmps114
    go_wp2
    go_ret
    exact ⟨rfl, rfl⟩
  · rw [cmpN_gt h]
    have h' : ¬ (x : Int) < (y : Int) := by omega
    have h'' : (x : Int) > (y : Int) := by omega
    go_enter Tryz.func114, Tryz.ntmps114
    go_wp2
    go_ret
    exact ⟨rfl, rfl⟩

theorem cmpInt (x y : Nat) : Lib.compareInt (x : Int) (y : Int) = cmpN x y := by
  unfold Lib.compareInt cmpN
  by_cases h : x < y
  · rw [if_pos h, if_pos (by omega)]
  · rw [if_neg h, if_neg (by omega)]
    by_cases h2 : x = y
    · rw [if_pos h2, if_neg (by omega)]
    · rw [if_neg h2, if_pos (by omega)]

theorem cmp_words {A B : Nat} (h : wordsN A ≠ wordsN B) : cmpN (wordsN A) (wordsN B) = cmpN A B := by
  rcases Nat.lt_or_gt_of_ne h with k | k
  · rw [cmpN_lt k, cmpN_lt]
    have h1 := (wordsN_le A _).1 (Nat.le_refl _)
    have h2 : ¬ wordsN B ≤ wordsN A := by omega
    have h3 := mt (wordsN_le B (wordsN A)).2 h2
    omega
  · rw [cmpN_gt k, cmpN_gt]
    have h1 := (wordsN_le B _).1 (Nat.le_refl _)
    have h2 : ¬ wordsN A ≤ wordsN B := by omega
    have h3 := mt (wordsN_le A (wordsN B)).2 h2
    omega

/-- The highest word in which two numbers of one length differ tells how they stand. -/
theorem cmp_at {a b : List Nat} {k : Nat} (ha : Digs 18446744073709551616 a) (hb : Digs 18446744073709551616 b) (hl : a.length = b.length) (hk : k < a.length) (he : ∀ j, k < j → j < a.length → a.getD j 0 = b.getD j 0) :
    a.getD k 0 ≠ b.getD k 0 → cmpN (a.getD k 0) (b.getD k 0) = cmpN (val 18446744073709551616 a) (val 18446744073709551616 b) := by
  intro hne
  have ea := val_take_drop 18446744073709551616 a (k + 1) (by omega)
  have eb := val_take_drop 18446744073709551616 b (k + 1) (by omega)
  have hdrop : a.drop (k + 1) = b.drop (k + 1) := by
    apply List.ext_getElem?
    intro i
    rw [List.getElem?_drop, List.getElem?_drop]
    by_cases hi : k + 1 + i < a.length
    · have := he (k + 1 + i) (by omega) hi
      rw [List.getD_eq_getElem?_getD, List.getD_eq_getElem?_getD, List.getElem?_eq_getElem hi, List.getElem?_eq_getElem (show k + 1 + i < b.length by omega)] at this
      rw [List.getElem?_eq_getElem hi, List.getElem?_eq_getElem (show k + 1 + i < b.length by omega)]
      exact congrArg some this
    · rw [List.getElem?_eq_none (by omega), List.getElem?_eq_none (by omega)]
  have ta : a.take (k + 1) = a.take k ++ [a.getD k 0] := by rw [List.take_add_one, List.getD_eq_getElem?_getD, List.getElem?_eq_getElem hk]; rfl
  have tb : b.take (k + 1) = b.take k ++ [b.getD k 0] := by rw [List.take_add_one, List.getD_eq_getElem?_getD, List.getElem?_eq_getElem (show k < b.length by omega)]; rfl
  rw [ta, val_snoc, List.length_take, Nat.min_eq_left (by omega)] at ea
  rw [tb, val_snoc, List.length_take, Nat.min_eq_left (by omega), ← hdrop] at eb
  have la : val 18446744073709551616 (a.take k) < 18446744073709551616 ^ k := by
    have := val_lt (by omega) (ha.take k)
    rwa [List.length_take, Nat.min_eq_left (by omega)] at this
  have lb : val 18446744073709551616 (b.take k) < 18446744073709551616 ^ k := by
    have := val_lt (by omega) (hb.take k)
    rwa [List.length_take, Nat.min_eq_left (by omega)] at this
  generalize a.getD k 0 = x at *
  generalize b.getD k 0 = y at *
  generalize 18446744073709551616 ^ (k + 1) * val 18446744073709551616 (a.drop (k + 1)) = H at *
  generalize val 18446744073709551616 (a.take k) = p at *
  generalize val 18446744073709551616 (b.take k) = q at *
  generalize 18446744073709551616 ^ k = M at *
  rcases Nat.lt_or_gt_of_ne hne with h | h
  · have : M * (x + 1) ≤ M * y := Nat.mul_le_mul_left _ h
    rw [Nat.mul_add, Nat.mul_one] at this
    rw [cmpN_lt h, cmpN_lt (by omega)]
  · have : M * (y + 1) ≤ M * x := Nat.mul_le_mul_left _ h
    rw [Nat.mul_add, Nat.mul_one] at this
    rw [cmpN_gt h, cmpN_gt (by omega)]

theorem cmpN_ne {x y : Nat} : cmpN x y = 0 ↔ x = y := by
  unfold cmpN
  by_cases h : x < y
  · rw [if_pos h]; constructor <;> intro h2 <;> omega
  · rw [if_neg h]
    by_cases h2 : x = y
    · simp [h2]
    · rw [if_neg h2]; constructor <;> intro h3 <;> omega

end Go.Proofs.YtiljkgoafknefaaGreat


/- Package nat: Compare, walked. -/
namespace Go.Proofs.YtiljkgoafknefaaGreat
open Go.RowKit Go.Shelf

attribute [local go_sem] Oper.semAt_some

theorem downIdx_mem {L r j : Nat} : j ∈ downIdx L r ↔ r ≤ j ∧ j < L := by
  unfold downIdx
  simp only [List.mem_map, List.mem_range]
  constructor
  · rintro ⟨i, hi, rfl⟩; omega
  · rintro ⟨h1, h2⟩; exact ⟨L - 1 - j, by omega, by omega⟩

theorem mem_down {L r : Nat} {pre : List (Fin L)} (h : pre.map Fin.val = downIdx L r) {j : Nat} (h1 : r ≤ j) (h2 : j < L) : ∃ x ∈ pre, x.val = j := by
  have : j ∈ pre.map Fin.val := by rw [h]; exact downIdx_mem.2 ⟨h1, h2⟩
  simpa using this

/-- What came last. -/
theorem down_last {L r : Nat} {ini : List (Fin L)} {x : Fin L} (hr : r < L) (h : (ini ++ [x]).map Fin.val = downIdx L r) : x.val = r ∧ ini.map Fin.val = downIdx L (r + 1) := by
  rw [downIdx_step hr, List.map_append] at h
  obtain ⟨h1, h2⟩ := List.append_inj' h (by simp)
  exact ⟨by simpa using h2, h1⟩

set_option maxRecDepth 100000 in
set_option maxHeartbeats 4000000 in
/-- Compare, on words that are needed. -/
theorem nCompare (u v : Value) (xs ys : List Nat) (w : World) (hu : Row .u64 w u xs) (hv : Row .u64 w v ys) (hdx : Digs 18446744073709551616 xs) (hdy : Digs 18446744073709551616 ys) :
    Calls Tryz.prog 82 #[u, v] w fun r w' => r = .returned (.int .i64 (cmpN (val 18446744073709551616 xs) (val 18446744073709551616 ys))) ∧ Kept Nought w w' := by
  obtain ⟨R, hR⟩ : ∃ R, R = cmpN (val 18446744073709551616 xs) (val 18446744073709551616 ys) := ⟨_, rfl⟩
  rw [← hR]
  have HR : Hid (R = cmpN (val 18446744073709551616 xs) (val 18446744073709551616 ys)) := hR
  clear hR
  have hNx := fun ao n cap (e : u = .slice ao n cap) W (hk : Kept Nought w W) => nNeedS ao n cap xs W (e ▸ hu.grew hk) hdx
  have hNy := fun ao n cap (e : v = .slice ao n cap) W (hk : Kept Nought w W) => nNeedS ao n cap ys W (e ▸ hv.grew hk) hdy
  obtain ⟨ao, n, cap, rfl, hLx, c1, c2, c3, hnx⟩ := hu.open
  obtain ⟨bo, m, dap, rfl, hLy, d1, d2, d3, hny⟩ := hv.open
  have hNx := hNx ao n cap rfl
  have hNy := hNy bo m dap rfl
  obtain ⟨A, hA, lA, dA, vA, gA⟩ := need_list hdx
  obtain ⟨B, hB, lB, dB, vB, gB⟩ := need_list hdy
  have rA : Row .u64 w (.slice ao (wordsN (val 18446744073709551616 xs)) cap) A := hA ▸ hu.cut (words_len hdx)
  have rB : Row .u64 w (.slice bo (wordsN (val 18446744073709551616 ys)) dap) B := hB ▸ hv.cut (words_len hdy)
  have HW : Hid (cmpN (wordsN (val 18446744073709551616 xs)) (wordsN (val 18446744073709551616 ys)) = 0 ∨ cmpN (wordsN (val 18446744073709551616 xs)) (wordsN (val 18446744073709551616 ys)) = R) := by
    unfold Hid
    rw [HR.out]
    by_cases e : wordsN (val 18446744073709551616 xs) = wordsN (val 18446744073709551616 ys)
    · exact .inl (cmpN_ne.2 e)
    · exact .inr (cmp_words e)
  rw [← vA, ← vB] at HR
  clear hA hB gA gB vA vB hu hv hnx hny
  have w1 : wordsN (val 18446744073709551616 xs) ≤ n := by have := words_len hdx; have := hLx.out; omega
  have w2 : wordsN (val 18446744073709551616 ys) ≤ m := by have := words_len hdy; have := hLy.out; omega
  clear hdx hdy hLx hLy
  generalize wordsN (val 18446744073709551616 xs) = p at *
  generalize wordsN (val 18446744073709551616 ys) = q at *
  refine (callsIn_wide (n := 9)).1 ?_
  refine callsIn_of_wp_marks Tryz.func82 rfl trivial ?_ rfl
  simp only [Tryz.ntmps82, List.size_toArray, List.length_cons, List.length_nil, Nat.reduceAdd, Nat.reduceSub, Array.replicate_succ, Array.replicate_zero, List.push_toArray, List.append_toArray, List.nil_append, List.cons_append]
  refine wpIn_wide.2 ?_
  go_wp2_with fail
  have hk0 : Kept Nought w ((w.alloc (.cells #[.slice bo m dap] 23)).alloc (.cells #[.int .i64 0] 3)) := ((Kept.refl Nought w).alloc _).alloc _
  have hc3 : ((w.alloc (.cells #[.slice bo m dap] 23)).alloc (.cells #[.int .i64 0] 3)).cell? ⟨w.heap.size, 0, none⟩ = some (.slice bo m dap) := ((Boxed.new w 23 (.slice bo m dap)).alloc _).cell
  have hf3 : ((w.alloc (.cells #[.slice bo m dap] 23)).alloc (.cells #[.int .i64 0] 3)).frozen? ⟨w.heap.size, 0, none⟩ = false := ((Boxed.new w 23 (.slice bo m dap)).alloc _).frozen
  have hc4 : ((w.alloc (.cells #[.slice bo m dap] 23)).alloc (.cells #[.int .i64 0] 3)).cell? ⟨w.heap.size + 1, 0, none⟩ = some (.int .i64 0) := by have := (Boxed.new (w.alloc (.cells #[.slice bo m dap] 23)) 3 (.int .i64 0)).cell; rwa [World.size_alloc] at this
  have hf4 : ((w.alloc (.cells #[.slice bo m dap] 23)).alloc (.cells #[.int .i64 0] 3)).frozen? ⟨w.heap.size + 1, 0, none⟩ = false := by have := (Boxed.new (w.alloc (.cells #[.slice bo m dap] 23)) 3 (.int .i64 0)).frozen; rwa [World.size_alloc] at this
  have hs1 : ((w.alloc (.cells #[.slice bo m dap] 23)).alloc (.cells #[.int .i64 0] 3)).heap.size = w.heap.size + 2 := by simp
  generalize hw1 : (w.alloc (.cells #[.slice bo m dap] 23)).alloc (.cells #[.int .i64 0] 3) = W1 at *
  clear hw1
  refine Code.wp_mono (Q := Exit.then (fun a' w' => a' = { tmps := #[.slice ao p cap, .slice bo m dap, undef, .pointer (some ⟨w.heap.size, 0, none⟩), .pointer (some ⟨w.heap.size + 1, 0, none⟩), undef, undef, undef, undef, .slice ao n cap, .slice ao p cap, .slice bo m dap, .slice bo q dap, undef, undef, undef, undef, undef, undef, undef, undef, undef, undef, undef, undef, undef, undef, undef, undef, undef, undef, undef, undef, undef], defers := [] } ∧ w'.cell? ⟨w.heap.size, 0, none⟩ = some (.slice bo q dap) ∧ w'.cell? ⟨w.heap.size + 1, 0, none⟩ = some (.int .i64 0) ∧ w'.frozen? ⟨w.heap.size + 1, 0, none⟩ = false ∧ w'.heap.size = w.heap.size + 2 ∧ Kept Nought w w') (fun _ _ _ => False)) ?_ ?_
  · rintro e a' w' h
    cases e with
    | normal =>
      obtain ⟨rfl, hb3, hb4, hbf, hsz, hkw⟩ := h
      have hC := Any.cmp_Compare_int l122 (p : Int) (q : Int) w'
      rw [cmpInt] at hC
      clear hNx hNy hk0 hc3 hf3 hc4 hf4 hs1
      by_cases hpq : p = q
      · subst hpq
        rw [cmpN_eq rfl] at hC
        clear HW
        have hD := callsIn_wide.1 (downBox Fence.wide 0 trivial rfl ao p cap w')
        go_wp2_with fail
        refine hC.mono ?_
        rintro e w3 ⟨rfl, rfl⟩
        go_wp2_with fail
        refine hD.mono ?_
        rintro e w4 ⟨rfl, rfl⟩
        clear hC hD
        have bN := Boxed.new w3 23 (.slice ao p cap)
        rw [hsz] at bN
        have hown : ∀ b, (Value.slice ao p cap).ownBlock = some b → 0 < p → b < w.heap.size := by
          intro b hb hp
          obtain ⟨ao', n', cap', e1, hl', _, _, _, h4⟩ := rA.open
          cases e1
          obtain ⟨b', off, rfl, hc⟩ := h4 0 hp
          cases hb
          exact World.block_lt_of_cell? w _ hc
        have hB0 : Below w.heap.size w (w3.alloc (.cells #[.slice ao p cap] 23)) := (hkw.alloc _).below (Nat.le_refl _) (fun _ f => f.elim)
        have hrA := rA.grew (hkw.alloc (.cells #[.slice ao p cap] 23))
        have hRB : Hid (∀ W, Below w.heap.size w W → Row .u64 W (.slice bo p dap) B) := fun W hb => rB.kept (S := Nought) ⟨hb.os, hb.tape, hb.output, hb.size, fun k hk _ => hb.block k hk⟩ (fun _ _ f => f)
        go_wp2_with fail
        obtain ⟨g, hg⟩ : ∃ g : Nat → Nat, ∀ j, A.getD j 0 = g j := ⟨_, fun _ => rfl⟩
        refine (wpIn_wide (n := 9)).1 ?_
        refine wpIn_rangeFunc_ownG (F := Fence.wide) (n := 9) rfl (by omega) (gf := 138) (lb := #[.pointer (some ⟨w.heap.size + 2, 0, none⟩)]) rfl trivial (enters_of Tryz.func138 (by kernel_rfl) rfl)
          (downStops Fence.wide 8 trivial rfl (by omega) (w.heap.size + 2) p g (.slice ao p cap) A lA hg (fun k => k = w.heap.size + 2 ∨ ((Value.slice ao p cap).ownBlock = some k ∧ 0 < p)) (.inl rfl) (fun b hb hp => .inr ⟨hb, hp⟩) _ ?hsw bN.cell hrA) KeepB.trans (KeepB.put ?hsw2) (Below.refl _ _) (fun _ => rfl)
          (fun pre W => ((∀ x ∈ pre, g x.val = B.getD x.val 0) ∧ W.cell? ⟨w.heap.size, 0, none⟩ = some (.slice bo p dap) ∧ W.cell? ⟨w.heap.size + 1, 0, none⟩ = some (.int .i64 0) ∧ W.frozen? ⟨w.heap.size + 1, 0, none⟩ = false) ∧ Below w.heap.size w W)
          (fun c pre W => (c = .ret ∧ ∃ ini last, pre = ini ++ [last] ∧ (∀ x ∈ ini, g x.val = B.getD x.val 0) ∧ g last.val ≠ B.getD last.val 0 ∧ W.cell? ⟨w.heap.size + 1, 0, none⟩ = some (.int .i64 (cmpN (g last.val) (B.getD last.val 0)))) ∧ Below w.heap.size w W)
          (OwnFrom.and (Own.from (fun s A B row hs hg hr => ⟨hs.1, cell_kept hs.2.1 hg hr, cell_kept hs.2.2.1 hg hr, (frozen_kept hs.2.2.1 hg hr).trans hs.2.2.2⟩) _) (ownFrom_below (Nat.le_refl _) (by simp; omega)))
          (fun c => OwnFrom.and (Own.from (fun s A B row hs hg hr => by obtain ⟨hc, ini, last, e1, e2, e3, e4⟩ := hs; exact ⟨hc, ini, last, e1, e2, e3, cell_kept e4 hg hr⟩) _) (ownFrom_below (Nat.le_refl _) (by simp; omega)))
          ⟨⟨by simp, cellA _ hb3, cellA _ hb4, frozenA _ hb4 hbf⟩, hB0⟩
          ?act ?assign ?body ?done ?stop
        case hsw =>
          rintro k (rfl | ⟨hk, hp⟩)
          · simp [hsz]
          · have := hown k hk hp
            simp [hsz]; omega
        case hsw2 =>
          rintro k (rfl | ⟨hk, hp⟩)
          · simp [hsz]
          · have := hown k hk hp
            simp [hsz]; omega
        case assign =>
          intro l x W K hK
          gi_wp2
          exact hK
        case body =>
          rintro l pre x W ⟨⟨hp, hcb, hcr, hfr⟩, hB⟩ _
          obtain ⟨bo', q', dap', e1, hl', _, _, _, h4⟩ := (hRB.out W hB).open
          cases e1
          have hx := x.isLt
          obtain ⟨b, off, rfl, hc⟩ := h4 x.val hx
          have hN := nCmp64 (g x.val) (B.getD x.val 0) W
          have HP : Hid (∀ x ∈ pre, g x.val = B.getD x.val 0) := hp
          have HX : Hid (∃ y, y = x) := ⟨_, rfl⟩
          obtain ⟨yb, hyb⟩ : ∃ yb, yb = B.getD x.val 0 := ⟨_, rfl⟩
          rw [← hyb] at hN
          rw [← hyb] at hc
          clear h4 hp rA rB hRB hrA
          by_cases he : g x.val = yb
          · rw [cmpN_eq he] at hN
            have HE : Hid (g x.val = B.getD x.val 0) := by rw [← hyb]; exact he
            clear hyb he hg
            gi_wp2_with (refine ⟨trivial, ?_⟩; gi_at_call 114; refine (CallsIn.inRound l (callsIn_wide.2 hN)).mono ?_; rintro e w' ⟨rfl, rfl⟩)
            refine ⟨KeepsFrom.refl _ _, KeepB.refl _ _, ⟨fun y hy => ?_, hcb, hcr, hfr⟩, hB⟩
            rcases List.mem_append.1 hy with h | h
            · exact HP.out y h
            · rw [List.mem_singleton.1 h]; exact HE.out
          · have h0 : cmpN (g x.val) yb ≠ 0 := fun h => he (cmpN_ne.1 h)
            have HC : Hid (cmpN (g x.val) yb = cmpN (g x.val) (B.getD x.val 0)) := by rw [hyb]; rfl
            have HE : Hid (g x.val ≠ B.getD x.val 0) := by rw [← hyb]; exact he
            generalize cmpN (g x.val) yb = C at *
            clear hyb he hg
            gi_wp2_with (refine ⟨trivial, ?_⟩; gi_at_call 114; refine (CallsIn.inRound l (callsIn_wide.2 hN)).mono ?_; rintro e w' ⟨rfl, rfl⟩)
            exact ⟨(KeepsOthers.setCell _ _ _).from _, ⟨rfl, pre, x, rfl, HP.out, HE.out, by rw [← HC.out]; exact World.cell?_setCell_same _ _ _ hcr⟩, hB.setCell (p := ⟨w.heap.size + 1, 0, none⟩) (by simp) _⟩
        case done =>
          rintro D ys W hD hys ⟨⟨hall, hcb, hcr, hfr⟩, hB⟩ hK
          have hAB : A = B := by
            apply List.ext_getElem
            · rw [lA, lB]
            · intro i h1 h2
              obtain ⟨x, hx, hxi⟩ := mem_down hys (Nat.zero_le i) (show i < p by omega)
              have := hall x hx
              rw [hxi, ← hg, List.getD_eq_getElem?_getD, List.getD_eq_getElem?_getD, List.getElem?_eq_getElem h1, List.getElem?_eq_getElem h2] at this
              simpa using this
          rw [hAB, cmpN_eq rfl] at HR
          clear hall hys rA rB hRB hrA hown hg
          go_wp2
          have hK' := (KeepsOthers.setCell W ⟨w.heap.size + 1, 0, none⟩ (.int .i64 0)).same D _ hK rfl
          refine ⟨by simp, .inl ⟨_, _, rfl, run_takeDeferred hK', ?_⟩⟩
          have hc5 := cell_kept (World.cell?_setCell_same W ⟨w.heap.size + 1, 0, none⟩ (.int .i64 0) hcr) (grownBy_putObj' _ D (.deferred none)) (fun r e => by cases e; exact ⟨_, hK', rfl⟩)
          have hBf := (hB.setCell (p := ⟨w.heap.size + 1, 0, none⟩) (by simp) (.int .i64 0)).trans (belowK_b (w := w) (Nat.le_refl _) _ D _ (.deferred none) (by simp [hsz] at hD; omega) hK' rfl rfl)
          refine ⟨.int .i64 0, ?_, by rw [HR.out], ⟨hBf.os, hBf.tape, hBf.output, hBf.size, fun k hk _ => hBf.block k hk⟩⟩
          simp [results, Tryz.f82, go_sem, hc5]
        case stop =>
          rintro D c pre W hD ⟨r, hr, hpre⟩ ⟨⟨rfl, ini, last, rfl, e2, e3, hcr⟩, hB⟩ hK
          obtain ⟨hlast, hini⟩ := down_last hr hpre
          rw [hlast, ← hg] at e3 hcr
          have hcmp := cmp_at dA dB (by rw [lA, lB]) (show r < A.length by omega) (fun j h1 h2 => by
            obtain ⟨x, hx, hxj⟩ := mem_down hini h1 (show j < p by omega)
            have := e2 x hx
            rwa [hxj, ← hg] at this) e3
          rw [hcmp, ← HR.out] at hcr
          clear e2 e3 hpre hini hlast rA rB hRB hrA hown hg
          gi_wp2
          refine ⟨by simp, .inl ⟨_, _, rfl, run_takeDeferred hK, ?_⟩⟩
          have hc5 := cell_kept hcr (grownBy_putObj' _ D (.deferred none)) (fun r e => by cases e; exact ⟨_, hK, rfl⟩)
          have hBf := hB.trans (belowK_b (w := w) (Nat.le_refl _) W D _ (.deferred none) (by simp [hsz] at hD; omega) hK rfl rfl)
          refine ⟨.int .i64 R, ?_, rfl, ⟨hBf.os, hBf.tape, hBf.output, hBf.size, fun k hk _ => hBf.block k hk⟩⟩
          simp [results, Tryz.f82, go_sem, hc5]
      · rw [show cmpN p q = R from HW.out.resolve_left (fun h => hpq (cmpN_ne.1 h))] at hC
        have hR0 : R ≠ 0 := by
          rw [← HW.out.resolve_left (fun h => hpq (cmpN_ne.1 h))]
          exact fun h => hpq (cmpN_ne.1 h)
        go_wp2_with fail
        refine hC.mono ?_
        rintro e w3 ⟨rfl, rfl⟩
        go_wp2
        have hc5 := World.cell?_setCell_same w3 ⟨w.heap.size + 1, 0, none⟩ (.int .i64 R) hb4
        refine ⟨.int .i64 R, ?_, rfl, hkw.setCell ⟨w.heap.size + 1, 0, none⟩ (fun h => absurd h (by simp)) _⟩
        simp [results, Tryz.f82, go_sem, hc5]
    | _ => exact h.elim
  · go_region_with (first
      | (go_at_call_of 64 ao; refine (hNx _ ?_).mono ?_; (first | exact hk0 | exact hk0.drew | exact hk0.drewN _); rintro e w' ⟨rfl, rfl⟩)
      | (go_at_call_of 64 bo; refine (hNy _ ?_).mono ?_; (first | exact hk0 | exact hk0.drew | exact hk0.drewN _); rintro e w' ⟨rfl, rfl⟩))
    all_goals exact ⟨rfl, World.cell?_setCell_same _ _ _ hc3, (World.cell?_setCell_other _ _ _ _ (by simp)).trans hc4, (World.frozen?_setCell _ _ _ _).trans hf4, by simpa using hs1, (hk0.setCell ⟨w.heap.size, 0, none⟩ (fun h => absurd h (by simp)) _).drew⟩

end Go.Proofs.YtiljkgoafknefaaGreat

