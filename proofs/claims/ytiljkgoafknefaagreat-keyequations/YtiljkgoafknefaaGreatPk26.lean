/- Put together of: Ref10A LimO Kex1 Held1. -/
import Derived.Test.YtiljkgoafknefaaGreatPk5
import Derived.Test.YtiljkgoafknefaaGreatPk14
import Derived.Test.YtiljkgoafknefaaGreatPk20
import Derived.Test.YtiljkgoafknefaaGreatPk21
import Derived.Test.YtiljkgoafknefaaGreatPk25
import Derived.Test.YtiljkgoafknefaaGreatRows
import Derived.Deep.RegionHeld3

/- The plain side of layer 10 (package sconceref10): how many steps; greatest divisors. -/
namespace Go.Proofs.YtiljkgoafknefaaGreat
open Go.RowKit

/-- So many bits, within the bound. -/
def stepBits (b : Int) : Int := min (max b 1) 8320

def stepsN (b : Int) : Int := if stepBits b < 46 then (49 * stepBits b + 80) / 17 else (49 * stepBits b + 57) / 17

end Go.Proofs.YtiljkgoafknefaaGreat


/- Package limbs with no trace: Add, Sub; the laws' first test of layer 4: the chapter's examples. -/
namespace Go.Proofs.YtiljkgoafknefaaGreat
open Go.RowKit

theorem lSub0 (u v : Value) (xs ys : List Nat) (w : World) (hu : Row .u64 w u xs) (hv : Row .u64 w v ys) (hdx : Digs 18446744073709551616 xs) (hdy : Digs 18446744073709551616 ys) (hL : xs.length ≤ 100000000) (hM : ys.length ≤ 100000000) :
    Calls Tryz.prog 79 #[.pointer none, u, v] w fun e w' => ∃ v', e = .returned (.tuple #[v', .int .u64 (oneN (decide (val 18446744073709551616 xs < val 18446744073709551616 ys)) : Nat)]) ∧ Row .u64 w' v' (digs 18446744073709551616 (subN (val 18446744073709551616 xs) (val 18446744073709551616 ys) (max xs.length ys.length)) (max xs.length ys.length)) ∧ Kept Nought w w' := by
  refine (lSub none u v xs ys w (TrRoom.none w 1 (by omega)) (RowT.none hu) (RowT.none hv) hdx hdy hL hM).mono ?_
  rintro e w' ⟨v', rfl, ho, o', hd⟩
  exact ⟨v', rfl, own_row ho (digs_length _ _ _), hd.none.2⟩

end Go.Proofs.YtiljkgoafknefaaGreat


/- Package key: attempt, refuse, step, and the small functions. -/
namespace Go.Proofs.YtiljkgoafknefaaGreat
open Go.RowKit

set_option maxHeartbeats 400000 in
/-- The deferred closure, where nothing was refused. -/
theorem kCatchIdle (p : Addr) (w : World) :
    CallsD Tryz.prog 63 #[.pointer (some p)] .returning w fun e u' w' => e = .returned (.tuple #[]) ∧ u' = .returning ∧ w' = w := by
  refine callsD_of_wpS Tryz.func63 rfl fun c₀ cs hu => ?_
  apply wpS_seq
  apply wpS_region
  simp [wpOpsS, go_sem, recoverD, hu, Tryz.ntmps63, Exit.thenS]
  apply wpS_seq
  apply wpS_seq
  apply wpS_region
  simp [wpOpsS, go_sem, Exit.thenS]
  refine wpS_cond (t := true) (by simp [Act.eval, Array.replicate]) ?_
  simp only [if_true]
  refine wpS_of_wp (wp_ret ?_)
  cases c₀
  simp_all [bodyPostS, results, Tryz.results63, Exit.thenS]

set_option maxHeartbeats 400000 in
/-- The deferred closure, where something was refused. -/
theorem kCatch (p : Addr) (x n : Int) (older : List PanicEntry) (w : World) (hc : w.cell? p = some (.int .i64 x)) (hz : w.frozen? p = false) :
    CallsD Tryz.prog 63 #[.pointer (some p)] (.panicking (refusal n :: older)) w fun e u' w' =>
      e = .returned (.tuple #[]) ∧ u' = .panicking ({ refusal n with recovered := true } :: older) ∧ w' = w.setCell p (.int .i64 n) := by
  refine callsD_of_wpS Tryz.func63 rfl fun c₀ cs hu => ?_
  apply wpS_seq
  apply wpS_region
  simp [wpOpsS, go_sem, recoverD, hu, Tryz.ntmps63, Exit.thenS]
  apply wpS_seq
  apply wpS_seq
  apply wpS_region
  simp [wpOpsS, go_sem, Exit.thenS]
  refine wpS_cond (t := false) (by simp [Act.eval, Array.replicate]) ?_
  simp only [Bool.false_eq_true, if_false]
  refine wpS_of_wp (wp_skip ?_)
  simp only [Exit.thenS]
  refine wpS_of_wp ?_
  have hta : ∀ w : World, (Instr.typeAssert (.iface 27 (.int .i64 n)) 20 27 true).run Tryz.prog w = .ok (.tuple #[.int .i64 n, .bool true]) w := fun w => by kernel_rfl
  have hnot : ∀ (x : Bool) (w : World), (Op.unary .not (.bool x)).run Tryz.prog w = .ok (.bool (!x)) w := fun _ _ => rfl
  have e : (#[Value.pointer (some p)] ++ ((((Array.replicate 15 undef).setIfInBounds 3 (Value.iface 27 (Value.int IntKind.i64 n))).setIfInBounds 0 (Value.iface 27 (Value.int IntKind.i64 n))).setIfInBounds 4 (Value.iface 27 (Value.int IntKind.i64 n))).setIfInBounds 5 (Value.bool false) : Array Value) = #[.pointer (some p), .iface 27 (.int .i64 n), undef, undef, .iface 27 (.int .i64 n), .iface 27 (.int .i64 n), .bool false, undef, undef, undef, undef, undef, undef, undef, undef, undef] := rfl
  rw [e]
  clear e
  go_wp2
  simp [bodyPostS, results, Tryz.results63]

set_option maxHeartbeats 400000 in
/-- attempt: what the closure does, and 0, or the number with which it was refused. -/
theorem kAttempt (f : Nat) (cap : Array Value) (w : World) (Q : Int → World → Prop) (he : ∀ args w, (callFunc f args).run Tryz.prog w = .ok (.enter f args) w)
    (h : Calls Tryz.prog f cap (w.alloc (.cells #[.int .i64 0] 27)) fun e w' => w'.heap[w.heap.size]? = some (.cells #[.int .i64 0] 27 (0, 0)) ∧
      ((e = .returned (.tuple #[]) ∧ Q 0 w') ∨ ∃ n, e = .panicked [refusal n] ∧ Q n w')) :
    Calls Tryz.prog 30 #[.func (.func f) #[] cap] w fun e w' => ∃ n w1, e = .returned (.int .i64 n) ∧ (Q n w1 ∧ w1.heap[w.heap.size]? = some (.cells #[.int .i64 0] 27 (0, 0))) ∧ w' = w1.setCell ⟨w.heap.size, 0, none⟩ (.int .i64 n) := by
  have hmf : ∀ (fn : Fn) (first cap : Array Value) (w : World), (Instr.makeFunc fn first cap).run Tryz.prog w = .ok (.func fn first cap) w := fun _ _ _ _ => rfl
  go_enter_defers Tryz.func30, Tryz.ntmps30
  go_wp2_with fail
  refine h.mono ?_
  rintro e w1 ⟨hb, (⟨rfl, hq⟩ | ⟨n, rfl, hq⟩)⟩
  · have hc : w1.cell? ⟨w.heap.size, 0, none⟩ = some (.int .i64 0) := by simp [World.cell?, hb]
    have hz : w1.frozen? ⟨w.heap.size, 0, none⟩ = false := by simp [World.frozen?, hb]
    clear h
    go_wp2_with fail
    refine leaves_cons (f := 63) (args := #[.pointer (some ⟨w.heap.size, 0, none⟩)]) (by simp) (by simp [go_sem]) ?_
    refine (kCatchIdle ⟨w.heap.size, 0, none⟩ _).mono ?_
    rintro e u' w'' ⟨rfl, rfl, rfl⟩
    have hc2 : (w1.setCell ⟨w.heap.size, 0, none⟩ (.int .i64 0)).cell? ⟨w.heap.size, 0, none⟩ = some (.int .i64 0) := World.cell?_setCell_same' _ _ _ (by rw [hc]; rfl)
    simp [Leaves, settle, results, Tryz.results30, go_sem, hc2]
    exact ⟨_, ⟨hq, hb⟩, rfl⟩
  · have hc : w1.cell? ⟨w.heap.size, 0, none⟩ = some (.int .i64 0) := by simp [World.cell?, hb]
    have hz : w1.frozen? ⟨w.heap.size, 0, none⟩ = false := by simp [World.frozen?, hb]
    clear h
    refine leaves_cons (f := 63) (args := #[.pointer (some ⟨w.heap.size, 0, none⟩)]) (by simp) (by simp [go_sem]) ?_
    refine (kCatch ⟨w.heap.size, 0, none⟩ 0 n [] _ hc hz).mono ?_
    rintro e u' w'' ⟨rfl, rfl, rfl⟩
    have hc2 : (w1.setCell ⟨w.heap.size, 0, none⟩ (.int .i64 n)).cell? ⟨w.heap.size, 0, none⟩ = some (.int .i64 n) := World.cell?_setCell_same' _ _ _ (by rw [hc]; rfl)
    simp [Leaves, settle, results, Tryz.results30, go_sem, hc2]
    exact ⟨_, ⟨hq, hb⟩, rfl⟩

set_option maxHeartbeats 400000 in
/-- refuse, where it is not so. -/
theorem kRefuseNo (n : Int) (w : World) : Calls Tryz.prog 33 #[.bool false, .int .i64 n] w fun e w' => e = .returned (.tuple #[]) ∧ w' = w := by
  go_enter Tryz.func33, Tryz.ntmps33
  go_wp2
  go_end0
  exact ⟨rfl, rfl⟩

set_option maxHeartbeats 400000 in
/-- refuse, where it is so. -/
theorem kRefuseYes (n : Int) (w : World) : Calls Tryz.prog 33 #[.bool true, .int .i64 n] w fun e w' => e = .panicked [refusal n] ∧ w' = w := by
  go_enter Tryz.func33, Tryz.ntmps33
  go_wp2
  exact ⟨rfl, rfl, rfl⟩

set_option maxHeartbeats 400000 in
/-- step, of no error. -/
theorem kStepN (ao : Option Addr) (n cap : Nat) (w : World) : Calls Tryz.prog 43 #[.slice ao n cap, .int .i64 0] w fun e w' => e = .returned (.slice ao n cap) ∧ w' = w := by
  have hR := kRefuseNo 0 w
  go_enter Tryz.func43, Tryz.ntmps43
  go_wp2_with fail
  refine hR.mono ?_
  rintro e w' ⟨rfl, rfl⟩
  go_wp2
  go_ret
  exact ⟨rfl, rfl⟩

theorem val_single (x : Nat) : val 18446744073709551616 [x] = x := by simp [val]

theorem digs_single {x : Nat} (hx : x < 18446744073709551616) : digs 18446744073709551616 x 1 = [x] := word_digs x 0 hx

theorem fits_res {V n : Nat} (h : V < 18446744073709551616 ^ n) (hn : n ≤ 300) : resCode V (n : Int) = 0 ∧ resList V (n : Int) = digs 18446744073709551616 V n := by
  have hw := (wordsN_le V n).2 h
  have e : resCode V (n : Int) = 0 := by
    unfold resCode
    rw [if_neg (by omega), if_neg (by omega)]
  exact ⟨e, by unfold resList; rw [if_pos e]; rfl⟩

theorem words_blen (V : Nat) : wordsN V = (blen V + 63) / 64 := by
  unfold wordsN blen
  by_cases h : V = 0
  · rw [if_pos h, if_pos h]
  · rw [if_neg h, if_neg h]
    omega

set_option maxHeartbeats 400000 in
/-- parts. -/
theorem kParts (n s q : Nat) (hq : q = (n + s - 1) / s) (hn : n ≤ 1000000000000) (hs0 : 0 < s) (hs : s ≤ 64) (w : World) :
    Calls Tryz.prog 34 #[.int .i64 (n : Int), .int .i64 (s : Int)] w fun e w' => e = .returned (.int .i64 (q : Int)) ∧ w' = w := by
  have g1 : ((n : Int) + (s : Int) - 1) / (s : Int) = (q : Int) := by
    rw [hq]
    have e : (n : Int) + (s : Int) - 1 = ((n + s - 1 : Nat) : Int) := by omega
    rw [e]
    rfl
  have g2 : ((n : Int) + (s : Int) - 1).tdiv (s : Int) = (q : Int) := by rw [Int.tdiv_eq_ediv_of_nonneg (by omega)]; exact g1
  have g3 : ¬ (s : Int) = 0 := by omega
  have g4 : ((s : Int) == 0) = false := by simpa using g3
  have hqb : q ≤ 1000000000100 := by rw [hq]; exact Nat.le_trans (Nat.div_le_self _ _) (by omega)
  clear hq
  go_enter Tryz.func34, Tryz.ntmps34
  go_wp2_with fail
  go_ret
  first | exact ⟨rfl, rfl⟩ | exact ⟨by simp_all, rfl⟩

set_option maxHeartbeats 400000 in
/-- isOdd. -/
theorem kOdd (ao : Option Addr) (L cap : Nat) (xs : List Nat) (w : World) (hu : Row .u64 w (.slice ao L cap) xs) (hd : Digs 18446744073709551616 xs) :
    Calls Tryz.prog 35 #[.slice ao L cap] w fun e w' => e = .returned (.bool (decide (val 18446744073709551616 xs % 2 = 1))) ∧ w' = w := by
  have J := nBit _ xs 0 w hu hd (by omega)
  have hb : bitN (val 18446744073709551616 xs) 0 = val 18446744073709551616 xs % 2 := by
    have := bitN_nat (val 18446744073709551616 xs) 0
    rw [Nat.pow_zero, Nat.div_one] at this
    exact this
  rw [hb] at J
  obtain ⟨V, hV⟩ : ∃ V, V = val 18446744073709551616 xs := ⟨_, rfl⟩
  rw [← hV] at J ⊢
  clear hu hd hb hV
  have h2 : V % 2 = 0 ∨ V % 2 = 1 := by omega
  rcases h2 with h2 | h2
  · rw [h2] at J ⊢
    go_enter Tryz.func35, Tryz.ntmps35
    go_wp2_with fail
    refine J.mono ?_
    rintro e w' ⟨rfl, rfl⟩
    go_wp2
    go_ret
    exact ⟨rfl, rfl⟩
  · rw [h2] at J ⊢
    go_enter Tryz.func35, Tryz.ntmps35
    go_wp2_with fail
    refine J.mono ?_
    rintro e w' ⟨rfl, rfl⟩
    go_wp2
    go_ret
    exact ⟨rfl, rfl⟩

theorem kWord (x : Nat) (hx : x < 18446744073709551616) (w : World) :
    Calls Tryz.prog 75 #[.int .u64 (x : Nat), .int .i64 1] w fun r w' => ∃ zo zc, r = .returned (.slice zo 1 zc) ∧ Row .u64 w' (.slice zo 1 zc) [x] ∧ Kept Nought w w' := by
  refine (nWord x hx 1 w).mono ?_
  rintro e w' ⟨v', rfl, hr, k⟩
  rw [show clampN 1 = 1 from rfl, digs_single hx] at hr
  obtain ⟨zo, zn, zc, rfl, hl, _, _, _, _⟩ := hr.open
  obtain rfl : 1 = zn := hl.out
  exact ⟨_, _, rfl, hr, k⟩

set_option maxHeartbeats 400000 in
/-- isBelow. -/
theorem kBelow (ao : Option Addr) (L cap : Nat) (xs : List Nat) (y : Nat) (hy : y < 18446744073709551616) (R : Bool) (hR : R = decide (val 18446744073709551616 xs < y)) (w : World) (hu : Row .u64 w (.slice ao L cap) xs) (hd : Digs 18446744073709551616 xs) :
    Calls Tryz.prog 57 #[.slice ao L cap, .int .u64 (y : Nat)] w fun e w' => e = .returned (.bool R) ∧ Kept Nought w w' := by
  have JW := kWord y hy w
  have JC : Hid (∀ W u, Kept Nought w W → Row .u64 W u [y] → Calls Tryz.prog 82 #[.slice ao L cap, u] W fun e w' => e = .returned (.int .i64 (cmpN (val 18446744073709551616 xs) y)) ∧ Kept Nought w w') := fun W u k hr => by
    have h := nCompare _ _ xs [y] W (hu.grew k) hr hd (Digs.one hy)
    rw [val_single] at h
    refine h.mono ?_
    rintro e w' ⟨rfl, k'⟩
    exact ⟨rfl, k.trans k'⟩
  obtain ⟨V, hV⟩ : ∃ V, V = val 18446744073709551616 xs := ⟨_, rfl⟩
  rw [← hV] at JC hR
  clear hu hd hV
  have h3 : V < y ∨ V = y ∨ y < V := by omega
  rcases h3 with h3 | h3 | h3
  · rw [cmpN_lt h3] at JC
    obtain rfl : R = true := by rw [hR]; exact decide_eq_true h3
    clear hR h3
    go_enter Tryz.func57, Tryz.ntmps57
    go_wp2_with fail
    refine JW.mono ?_
    rintro e w1 ⟨zo, zc, rfl, hr, k⟩
    have J := JC.out _ _ k hr
    clear JW
    go_wp2_with fail
    refine J.mono ?_
    rintro e w2 ⟨rfl, k2⟩
    have HK := toHid k2
    clear J k2 k
    go_wp2
    go_ret
    exact ⟨rfl, HK.out⟩
  · rw [cmpN_eq h3] at JC
    obtain rfl : R = false := by rw [hR]; exact decide_eq_false (by omega)
    clear hR h3
    go_enter Tryz.func57, Tryz.ntmps57
    go_wp2_with fail
    refine JW.mono ?_
    rintro e w1 ⟨zo, zc, rfl, hr, k⟩
    have J := JC.out _ _ k hr
    clear JW
    go_wp2_with fail
    refine J.mono ?_
    rintro e w2 ⟨rfl, k2⟩
    have HK := toHid k2
    clear J k2 k
    go_wp2
    go_ret
    exact ⟨rfl, HK.out⟩
  · rw [cmpN_gt h3] at JC
    obtain rfl : R = false := by rw [hR]; exact decide_eq_false (by omega)
    clear hR h3
    go_enter Tryz.func57, Tryz.ntmps57
    go_wp2_with fail
    refine JW.mono ?_
    rintro e w1 ⟨zo, zc, rfl, hr, k⟩
    have J := JC.out _ _ k hr
    clear JW
    go_wp2_with fail
    refine J.mono ?_
    rintro e w2 ⟨rfl, k2⟩
    have HK := toHid k2
    clear J k2 k
    go_wp2
    go_ret
    exact ⟨rfl, HK.out⟩

set_option maxHeartbeats 400000 in
/-- fitted: a number that fits. -/
theorem kFit (ao : Option Addr) (L cap : Nat) (xs : List Nat) (X n : Nat) (hX : X = val 18446744073709551616 xs) (hn : n ≤ 300) (hf : X < 18446744073709551616 ^ n) (w : World) (hu : Row .u64 w (.slice ao L cap) xs) (hd : Digs 18446744073709551616 xs) :
    Calls Tryz.prog 44 #[.slice ao L cap, .int .i64 (n : Nat)] w fun e w' => ∃ vo vc, e = .returned (.slice vo n vc) ∧ Row .u64 w' (.slice vo n vc) (digs 18446744073709551616 X n) ∧ Fresh w (.slice vo n vc) ∧ Kept Nought w w' := by
  have J := nResizeF _ xs (n : Nat) w hu hd
  rw [← hX] at J
  obtain ⟨e1, e2⟩ := fits_res hf hn
  rw [e1, e2] at J
  clear hu hd e1 e2 hX hf
  go_enter Tryz.func44, Tryz.ntmps44
  go_wp2_with fail
  refine J.mono ?_
  rintro e w1 ⟨v, rfl, hr, hn1, k1⟩
  obtain ⟨vo, vn, vc, rfl, hl, _, _, _, _⟩ := hr.open
  obtain rfl : n = vn := by rw [← hl.out, digs_length]
  have HR := toHid hr
  have HN := toHid hn1
  have HK := toHid k1
  have JS := kStepN vo n vc w1
  clear J hr hn1 k1 hl
  go_wp2_with fail
  refine JS.mono ?_
  rintro e w2 ⟨rfl, rfl⟩
  clear JS
  go_wp2
  go_ret
  exact ⟨_, _, rfl, HR.out, HN.out, HK.out⟩

set_option maxHeartbeats 400000 in
/-- needed. -/
theorem kNeed (ao : Option Addr) (L cap : Nat) (xs : List Nat) (X n : Nat) (hX : X = val 18446744073709551616 xs) (hn : n = wordsN X) (hnb : n ≤ 300) (w : World) (hu : Row .u64 w (.slice ao L cap) xs) (hd : Digs 18446744073709551616 xs) (hL : xs.length ≤ 1000) :
    Calls Tryz.prog 39 #[.slice ao L cap] w fun e w' => ∃ vo vc, e = .returned (.slice vo n vc) ∧ Row .u64 w' (.slice vo n vc) (digs 18446744073709551616 X n) ∧ Fresh w (.slice vo n vc) ∧ Kept Nought w w' := by
  have JB := nBits _ xs w hu hd (by omega)
  rw [← hX] at JB
  have hbl : blen X ≤ 64 * xs.length := (blen_le _ _).2 (by rw [Nat.pow_mul, hX]; exact val_lt (by omega) hd)
  have JP := kParts (blen X) 64 n (by rw [hn, words_blen]; rfl) (by omega) (by omega) (by omega) w
  have JF := kFit ao L cap xs X n hX hnb ((wordsN_le X n).1 (by omega)) w hu hd
  obtain ⟨b, hb⟩ : ∃ b, b = blen X := ⟨_, rfl⟩
  rw [← hb] at JB JP
  clear hu hd hbl hb hX hn hL hnb
  go_enter Tryz.func39, Tryz.ntmps39
  go_wp2_with fail
  refine JB.mono ?_
  rintro e w1 ⟨rfl, rfl⟩
  clear JB
  go_wp2_with fail
  refine JP.mono ?_
  rintro e w1 ⟨rfl, rfl⟩
  clear JP
  go_wp2_with fail
  refine JF.mono ?_
  rintro e w1 ⟨vo, vc, rfl, hr, hn1, k1⟩
  have HR := toHid hr
  have HN := toHid hn1
  have HK := toHid k1
  clear JF hr hn1 k1
  go_wp2
  go_ret
  exact ⟨_, _, rfl, HR.out, HN.out, HK.out⟩

set_option maxHeartbeats 400000 in
/-- lessOne. -/
theorem kLess (ao : Option Addr) (L cap : Nat) (xs : List Nat) (X : Nat) (hX : X = val 18446744073709551616 xs) (h1 : 1 ≤ X) (hLx : xs.length = L) (hLb : L ≤ 300) (w : World) (hu : Row .u64 w (.slice ao L cap) xs) (hd : Digs 18446744073709551616 xs) :
    Calls Tryz.prog 46 #[.slice ao L cap] w fun e w' => ∃ vo vc, e = .returned (.slice vo L vc) ∧ Row .u64 w' (.slice vo L vc) (digs 18446744073709551616 (X - 1) L) ∧ Kept Nought w w' := by
  have hL1 : 1 ≤ L := by
    rcases Nat.eq_zero_or_pos L with h | h
    · rw [h] at hLx
      rw [List.length_eq_zero_iff.1 hLx] at hX
      have : val 18446744073709551616 [] = 0 := rfl
      omega
    · exact h
  have JW := kWord 1 (by omega) w
  have JS : Hid (∀ W u, Kept Nought w W → Row .u64 W u [1] → Calls Tryz.prog 79 #[.pointer none, .slice ao L cap, u] W fun e w' => ∃ vo vc c, e = .returned (.tuple #[.slice vo L vc, .int .u64 (c : Nat)]) ∧ Row .u64 w' (.slice vo L vc) (digs 18446744073709551616 (X - 1) L) ∧ Kept Nought w w') := fun W u k hr => by
    have hxl : X < 18446744073709551616 ^ L := by rw [hX, ← hLx]; exact val_lt (by omega) hd
    have h := lSub0 _ _ xs [1] W (hu.grew k) hr hd (Digs.one (by omega)) (by omega) (by show 1 ≤ _; omega)
    rw [val_single, ← hX, hLx, show max L [1].length = L by show max L 1 = L; omega] at h
    have es : subN X 1 L = X - 1 := by
      unfold subN; rw [if_neg (by omega)]
    rw [es] at h
    refine h.mono ?_
    rintro e w' ⟨v', rfl, hr', k'⟩
    obtain ⟨vo, vn, vc, rfl, hl, _, _, _, _⟩ := hr'.open
    obtain rfl : L = vn := by rw [← hl.out, digs_length]
    exact ⟨_, _, _, rfl, hr', k.trans k'⟩
  clear hu hd hX h1 hLx
  go_enter Tryz.func46, Tryz.ntmps46
  go_wp2_with fail
  refine JW.mono ?_
  rintro e w1 ⟨zo, zc, rfl, hr, k⟩
  have J := JS.out _ _ k hr
  clear JW
  go_wp2_with fail
  refine J.mono ?_
  rintro e w2 ⟨vo, vc, c, rfl, hr2, k2⟩
  have HR := toHid hr2
  have HK := toHid k2
  clear J hr2 k2 k hr
  go_wp2
  go_ret
  exact ⟨_, _, rfl, HR.out, HK.out⟩

set_option maxHeartbeats 400000 in
/-- quotient. -/
theorem kQuo (ao bo : Option Addr) (L M cap dap : Nat) (xs ys : List Nat) (X Y : Nat) (hX : X = val 18446744073709551616 xs) (hY : Y = val 18446744073709551616 ys) (hY0 : 0 < Y) (hL : L ≤ 300) (hM : M ≤ 300) (w : World) (hu : Row .u64 w (.slice ao L cap) xs) (hv : Row .u64 w (.slice bo M dap) ys) (hdx : Digs 18446744073709551616 xs) (hdy : Digs 18446744073709551616 ys) :
    Calls Tryz.prog 59 #[.slice ao L cap, .slice bo M dap] w fun e w' => ∃ vo vc, e = .returned (.slice vo L vc) ∧ Row .u64 w' (.slice vo L vc) (digs 18446744073709551616 (X / Y) L) ∧ Kept Nought w w' := by
  have hE : divE (val 18446744073709551616 ys) L M = 0 := (div_good (X := X) ⟨hL, hM⟩ (by rw [← hY]; omega)).1
  have hQ : divQ X (val 18446744073709551616 ys) L M = digs 18446744073709551616 (X / val 18446744073709551616 ys) L := (div_good (X := X) ⟨hL, hM⟩ (by rw [← hY]; omega)).2.1
  have hR : divR X (val 18446744073709551616 ys) L M = digs 18446744073709551616 (X % val 18446744073709551616 ys) M := (div_good (X := X) ⟨hL, hM⟩ (by rw [← hY]; omega)).2.2
  have J := pQuick ao bo L M cap dap xs ys 0 hE.symm w hu hv hdx hdy
  rw [← hX, hQ, hR, ← hY] at J
  clear hu hv hdx hdy hE hQ hR hX hY
  go_enter Tryz.func59, Tryz.ntmps59
  go_wp2_with fail
  refine J.mono ?_
  rintro e w1 ⟨v1, v2, rfl, h1, h2, k1⟩
  obtain ⟨qo, qn, qc, rfl, hl1, _, _, _, _⟩ := h1.open
  obtain rfl : L = qn := by rw [← hl1.out, digs_length]
  obtain ⟨so, sn, sc, rfl, hl2, _, _, _, _⟩ := h2.open
  obtain rfl : M = sn := by rw [← hl2.out, digs_length]
  have HR1 := toHid h1
  have HR2 := toHid h2
  have HK := toHid k1
  have JS := fun a n c => kStepN a n c w1
  clear J h1 h2 k1 hl1 hl2
  go_wp2_with fail
  refine (JS _ _ _).mono ?_
  rintro e w2 ⟨rfl, rfl⟩
  clear JS
  go_wp2
  go_ret
  exact ⟨_, _, rfl, HR1.out, HK.out⟩

set_option maxHeartbeats 400000 in
/-- rest. -/
theorem kRest (ao bo : Option Addr) (L M cap dap : Nat) (xs ys : List Nat) (X Y : Nat) (hX : X = val 18446744073709551616 xs) (hY : Y = val 18446744073709551616 ys) (hY0 : 0 < Y) (hL : L ≤ 300) (hM : M ≤ 300) (w : World) (hu : Row .u64 w (.slice ao L cap) xs) (hv : Row .u64 w (.slice bo M dap) ys) (hdx : Digs 18446744073709551616 xs) (hdy : Digs 18446744073709551616 ys) :
    Calls Tryz.prog 45 #[.slice ao L cap, .slice bo M dap] w fun e w' => ∃ vo vc, e = .returned (.slice vo M vc) ∧ Row .u64 w' (.slice vo M vc) (digs 18446744073709551616 (X % Y) M) ∧ Kept Nought w w' := by
  have hE : divE (val 18446744073709551616 ys) L M = 0 := (div_good (X := X) ⟨hL, hM⟩ (by rw [← hY]; omega)).1
  have hQ : divQ X (val 18446744073709551616 ys) L M = digs 18446744073709551616 (X / val 18446744073709551616 ys) L := (div_good (X := X) ⟨hL, hM⟩ (by rw [← hY]; omega)).2.1
  have hR : divR X (val 18446744073709551616 ys) L M = digs 18446744073709551616 (X % val 18446744073709551616 ys) M := (div_good (X := X) ⟨hL, hM⟩ (by rw [← hY]; omega)).2.2
  have J := pQuick ao bo L M cap dap xs ys 0 hE.symm w hu hv hdx hdy
  rw [← hX, hQ, hR, ← hY] at J
  clear hu hv hdx hdy hE hQ hR hX hY
  go_enter Tryz.func45, Tryz.ntmps45
  go_wp2_with fail
  refine J.mono ?_
  rintro e w1 ⟨v1, v2, rfl, h1, h2, k1⟩
  obtain ⟨qo, qn, qc, rfl, hl1, _, _, _, _⟩ := h1.open
  obtain rfl : L = qn := by rw [← hl1.out, digs_length]
  obtain ⟨so, sn, sc, rfl, hl2, _, _, _, _⟩ := h2.open
  obtain rfl : M = sn := by rw [← hl2.out, digs_length]
  have HR1 := toHid h1
  have HR2 := toHid h2
  have HK := toHid k1
  have JS := fun a n c => kStepN a n c w1
  clear J h1 h2 k1 hl1 hl2
  go_wp2_with fail
  refine (JS _ _ _).mono ?_
  rintro e w2 ⟨rfl, rfl⟩
  clear JS
  go_wp2
  go_ret
  exact ⟨_, _, rfl, HR2.out, HK.out⟩

end Go.Proofs.YtiljkgoafknefaaGreat


/- Steps of a region that draws, by hand: a call that may panic, an operation that its guard leaves out. -/
namespace Go.Proofs.YtiljkgoafknefaaGreat

/-- A call that comes up alone in a region that draws, and may panic. -/
theorem wpAnyH_callP {P : Program} {md : Region.Mode} {ops : Array Oper} {Q : Exit → Act → World → Prop} {S : World → Prop} {fuel : Nat} {listed : Array Bool} {a : Act} {w : World} (i : Nat) {o : Oper} (hr : Region.ready md ops listed = [i]) (hi : ops[i]? = some o) (hg : o.guard = none) (f : Nat) (args : List Operand) (tys : Array TypeId) (vals : List Value)
    (ho : o.op = .call { callee := .value (.func f), args := args.toArray, argTypes := tys }) (hv : args.map a.eval = vals) (he : ∀ args w, (callFunc f args).run P w = .ok (.enter f args) w) {R : Ending → World → Prop} (hc : Calls P f vals.toArray w R)
    (h : ∀ e w', R e w' → (∃ v, e = .returned v ∧ S w' ∧ wpAnyH P md ops Q S fuel (listed.setIfInBounds i true) (a.put o.dst v) w') ∨ ∃ ch, e = .panicked ch ∧ Q (.panic ch) a w') :
    wpAnyH P md ops Q S (fuel + 1) listed a w := by
  refine wpAnyH_all hr (by simp) fun j hj => ?_
  obtain rfl : j = i := by simpa using hj
  have hw : Region.wanted o (yielded ops a.tmps) = true := by simp [Region.wanted, hg]
  unfold wpOp
  rw [hi]
  dsimp only
  rw [if_pos hw]
  refine .inl ?_
  have hc2 : Calls P f vals.toArray w fun
      | .returned v, w'' => S w'' ∧ wpAnyH P md ops Q S fuel (listed.setIfInBounds j true) (a.put o.dst v) w''
      | .panicked chain, w'' => Q (.panic chain) a w''
      | .outgrown, _ => LetsOut Q := hc.mono (fun e w' r => by
    rcases h e w' r with ⟨v, rfl, hk⟩ | ⟨ch, rfl, hk⟩
    · exact hk
    · exact hk)
  unfold Oper.wp
  simp [execOp, ho, resolve, invoke, hv, he, go_sem]
  exact hc2

/-- An operation that comes up alone in a region that draws, and that its guard leaves out. -/
theorem wpAnyH_skip {P : Program} {md : Region.Mode} {ops : Array Oper} {Q : Exit → Act → World → Prop} {S : World → Prop} {fuel : Nat} {listed : Array Bool} {a : Act} {w : World} (i : Nat) {o : Oper} (hr : Region.ready md ops listed = [i]) (hi : ops[i]? = some o)
    (hw : Region.wanted o (yielded ops a.tmps) = false) (hS : S w) (h : wpAnyH P md ops Q S fuel (listed.setIfInBounds i true) (a.put o.dst undef) w) : wpAnyH P md ops Q S (fuel + 1) listed a w := by
  refine wpAnyH_all hr (by simp) fun j hj => ?_
  obtain rfl : j = i := by simpa using hj
  unfold wpOp
  rw [hi]
  dsimp only
  rw [if_neg (by rw [hw]; decide)]
  exact ⟨hS, h⟩

/-- As wpAnyH_take, with the place that is written named: so that the state can be laid out behind it. -/
theorem takeH {P : Program} {md : Region.Mode} {ops : Array Oper} {Q : Exit → Act → World → Prop} {S : World → Prop} {fuel : Nat} {listed : Array Bool} {a : Act} {w : World} {oi : Oper} (i : Nat) (d : Option Tmp) (v : Value) (hi : ops[i]? = some oi) (hd : oi.dst = d)
    (hs : Region.noSelect ops = true) (hf : Region.free md ops listed i = true) (hr : (Region.ready md ops listed).contains i = true)
    (hQ : ∀ c a w, Q (.panic c) (a.put d v) w → Q (.panic c) a w) (hy : YieldsIf P ops S oi v a) (hS : S w)
    (h : wpAnyH P md ops Q S fuel (listed.setIfInBounds i true) (a.put d v) w) : wpAnyH P md ops Q S (fuel + 1) listed a w := by
  subst hd
  exact wpAnyH_take hi hs hf hr hQ hy hS h

/-- As wpAnyH_skip, with the place named. -/
theorem skipH {P : Program} {md : Region.Mode} {ops : Array Oper} {Q : Exit → Act → World → Prop} {S : World → Prop} {fuel : Nat} {listed : Array Bool} {a : Act} {w : World} {o : Oper} (i : Nat) (d : Option Tmp) (hr : Region.ready md ops listed = [i]) (hi : ops[i]? = some o) (hd : o.dst = d)
    (hw : Region.wanted o (yielded ops a.tmps) = false) (hS : S w) (h : wpAnyH P md ops Q S fuel (listed.setIfInBounds i true) (a.put d undef) w) : wpAnyH P md ops Q S (fuel + 1) listed a w := by
  subst hd
  exact wpAnyH_skip i hr hi hw hS h

/-- As wpAnyH_callP, with the place named. -/
theorem callH {P : Program} {md : Region.Mode} {ops : Array Oper} {Q : Exit → Act → World → Prop} {S : World → Prop} {fuel : Nat} {listed : Array Bool} {a : Act} {w : World} {o : Oper} (i : Nat) (d : Option Tmp) (hr : Region.ready md ops listed = [i]) (hi : ops[i]? = some o) (hd : o.dst = d) (hg : o.guard = none) (f : Nat) (args : List Operand) (tys : Array TypeId) (vals : List Value)
    (ho : o.op = .call { callee := .value (.func f), args := args.toArray, argTypes := tys }) (hv : args.map a.eval = vals) (he : ∀ args w, (callFunc f args).run P w = .ok (.enter f args) w) {R : Ending → World → Prop} (hc : Calls P f vals.toArray w R)
    (h : ∀ e w', R e w' → (∃ v, e = .returned v ∧ S w' ∧ wpAnyH P md ops Q S fuel (listed.setIfInBounds i true) (a.put d v) w') ∨ ∃ ch, e = .panicked ch ∧ Q (.panic ch) a w') :
    wpAnyH P md ops Q S (fuel + 1) listed a w := by
  subst hd
  exact wpAnyH_callP i hr hi hg f args tys vals ho hv he hc h

/-- A call that comes up alone, behind a guard that lets it by, or without one. -/
theorem callG {P : Program} {md : Region.Mode} {ops : Array Oper} {Q : Exit → Act → World → Prop} {S : World → Prop} {fuel : Nat} {listed : Array Bool} {a : Act} {w : World} {o : Oper} (i : Nat) (d : Option Tmp) (hr : Region.ready md ops listed = [i]) (hi : ops[i]? = some o) (hd : o.dst = d) (hw : Region.wanted o (yielded ops a.tmps) = true) (f : Nat) (args : List Operand) (tys : Array TypeId) (vals : List Value)
    (ho : o.op = .call { callee := .value (.func f), args := args.toArray, argTypes := tys }) (hv : args.map a.eval = vals) (he : ∀ args w, (callFunc f args).run P w = .ok (.enter f args) w) {R : Ending → World → Prop} (hc : Calls P f vals.toArray w R)
    (h : ∀ e w', R e w' → (∃ v, e = .returned v ∧ S w' ∧ wpAnyH P md ops Q S fuel (listed.setIfInBounds i true) (a.put d v) w') ∨ ∃ ch, e = .panicked ch ∧ Q (.panic ch) a w') :
    wpAnyH P md ops Q S (fuel + 1) listed a w := by
  subst hd
  refine wpAnyH_all hr (by simp) fun j hj => ?_
  obtain rfl : j = i := by simpa using hj
  unfold wpOp
  rw [hi]
  dsimp only
  rw [if_pos hw]
  refine .inl ?_
  have hc2 : Calls P f vals.toArray w fun
      | .returned v, w'' => S w'' ∧ wpAnyH P md ops Q S fuel (listed.setIfInBounds j true) (a.put o.dst v) w''
      | .panicked chain, w'' => Q (.panic chain) a w''
      | .outgrown, _ => LetsOut Q := hc.mono (fun e w' r => by
    rcases h e w' r with ⟨v, rfl, hk⟩ | ⟨ch, rfl, hk⟩
    · exact hk
    · exact hk)
  unfold Oper.wp
  simp [execOp, ho, resolve, invoke, hv, he, go_sem]
  exact hc2

end Go.Proofs.YtiljkgoafknefaaGreat

