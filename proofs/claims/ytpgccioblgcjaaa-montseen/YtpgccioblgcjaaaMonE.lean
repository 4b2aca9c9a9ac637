/- Package mont: attempt, refuse, needs, refuseNumber. -/
import Derived.Test.YtpgccioblgcjaaaPro2
import Derived.Test.YtpgccioblgcjaaaBase4
namespace Go.Proofs.Ytpgccioblgcjaaa
open Go.RowKit

set_option maxHeartbeats 400000 in
/-- The deferred closure, where nothing was refused. -/
theorem mCatchIdle (p : Addr) (w : World) :
    CallsD Try.prog 62 #[.pointer (some p)] .returning w fun e u' w' => e = .returned (.tuple #[]) ∧ u' = .returning ∧ w' = w := by
  refine callsD_of_wpS Try.func62 rfl fun c₀ cs hu => ?_
  apply wpS_seq
  apply wpS_region
  simp [wpOpsS, go_sem, recoverD, hu, Try.ntmps62, Exit.thenS]
  apply wpS_seq
  apply wpS_seq
  apply wpS_region
  simp [wpOpsS, go_sem, Exit.thenS]
  refine wpS_cond (t := true) (by simp [Act.eval, Array.replicate]) ?_
  simp only [if_true]
  refine wpS_of_wp (wp_ret ?_)
  cases c₀
  simp_all [bodyPostS, results, Try.results62, Exit.thenS]

set_option maxHeartbeats 400000 in
/-- The deferred closure, where something was refused. -/
theorem mCatch (p : Addr) (x n : Int) (older : List PanicEntry) (w : World) (hc : w.cell? p = some (.int .i64 x)) (hz : w.frozen? p = false) :
    CallsD Try.prog 62 #[.pointer (some p)] (.panicking (refusal n :: older)) w fun e u' w' =>
      e = .returned (.tuple #[]) ∧ u' = .panicking ({ refusal n with recovered := true } :: older) ∧ w' = w.setCell p (.int .i64 n) := by
  refine callsD_of_wpS Try.func62 rfl fun c₀ cs hu => ?_
  apply wpS_seq
  apply wpS_region
  simp [wpOpsS, go_sem, recoverD, hu, Try.ntmps62, Exit.thenS]
  apply wpS_seq
  apply wpS_seq
  apply wpS_region
  simp [wpOpsS, go_sem, Exit.thenS]
  refine wpS_cond (t := false) (by simp [Act.eval, Array.replicate]) ?_
  simp only [Bool.false_eq_true, if_false]
  refine wpS_of_wp (wp_skip ?_)
  simp only [Exit.thenS]
  refine wpS_of_wp ?_
  have hta : ∀ w : World, (Instr.typeAssert (.iface 29 (.int .i64 n)) 20 29 true).run Try.prog w = .ok (.tuple #[.int .i64 n, .bool true]) w := fun w => by kernel_rfl
  have hnot : ∀ (x : Bool) (w : World), (Op.unary .not (.bool x)).run Try.prog w = .ok (.bool (!x)) w := fun _ _ => rfl
  have e : (#[Value.pointer (some p)] ++ ((((Array.replicate 15 undef).setIfInBounds 3 (Value.iface 29 (Value.int IntKind.i64 n))).setIfInBounds 0 (Value.iface 29 (Value.int IntKind.i64 n))).setIfInBounds 4 (Value.iface 29 (Value.int IntKind.i64 n))).setIfInBounds 5 (Value.bool false) : Array Value) = #[.pointer (some p), .iface 29 (.int .i64 n), undef, undef, .iface 29 (.int .i64 n), .iface 29 (.int .i64 n), .bool false, undef, undef, undef, undef, undef, undef, undef, undef, undef] := rfl
  rw [e]
  clear e
  go_wp2
  simp [bodyPostS, results, Try.results62]

set_option maxHeartbeats 400000 in
/-- attempt: what the closure does, and 0, or the number with which it was refused. -/
theorem mAttempt (f : Nat) (cap : Array Value) (w : World) (Q : Int → World → Prop) (he : ∀ args w, (callFunc f args).run Try.prog w = .ok (.enter f args) w)
    (h : Calls Try.prog f cap (w.alloc (.cells #[.int .i64 0] 29)) fun e w' => w'.heap[w.heap.size]? = some (.cells #[.int .i64 0] 29 (0, 0)) ∧
      ((e = .returned (.tuple #[]) ∧ Q 0 w') ∨ ∃ n, e = .panicked [refusal n] ∧ Q n w')) :
    Calls Try.prog 33 #[.func (.func f) #[] cap] w fun e w' => ∃ n w1, e = .returned (.int .i64 n) ∧ (Q n w1 ∧ w1.heap[w.heap.size]? = some (.cells #[.int .i64 0] 29 (0, 0))) ∧ w' = w1.setCell ⟨w.heap.size, 0, none⟩ (.int .i64 n) := by
  have hmf : ∀ (fn : Fn) (first cap : Array Value) (w : World), (Instr.makeFunc fn first cap).run Try.prog w = .ok (.func fn first cap) w := fun _ _ _ _ => rfl
  go_enter_defers Try.func33, Try.ntmps33
  go_wp2_with fail
  refine h.mono ?_
  rintro e w1 ⟨hb, (⟨rfl, hq⟩ | ⟨n, rfl, hq⟩)⟩
  · have hc : w1.cell? ⟨w.heap.size, 0, none⟩ = some (.int .i64 0) := by simp [World.cell?, hb]
    have hz : w1.frozen? ⟨w.heap.size, 0, none⟩ = false := by simp [World.frozen?, hb]
    clear h
    go_wp2_with fail
    refine leaves_cons (f := 62) (args := #[.pointer (some ⟨w.heap.size, 0, none⟩)]) (by simp) (by simp [go_sem]) ?_
    refine (mCatchIdle ⟨w.heap.size, 0, none⟩ _).mono ?_
    rintro e u' w'' ⟨rfl, rfl, rfl⟩
    have hc2 : (w1.setCell ⟨w.heap.size, 0, none⟩ (.int .i64 0)).cell? ⟨w.heap.size, 0, none⟩ = some (.int .i64 0) := World.cell?_setCell_same' _ _ _ (by rw [hc]; rfl)
    simp [Leaves, settle, results, Try.results33, go_sem, hc2]
    exact ⟨_, ⟨hq, hb⟩, rfl⟩
  · have hc : w1.cell? ⟨w.heap.size, 0, none⟩ = some (.int .i64 0) := by simp [World.cell?, hb]
    have hz : w1.frozen? ⟨w.heap.size, 0, none⟩ = false := by simp [World.frozen?, hb]
    clear h
    refine leaves_cons (f := 62) (args := #[.pointer (some ⟨w.heap.size, 0, none⟩)]) (by simp) (by simp [go_sem]) ?_
    refine (mCatch ⟨w.heap.size, 0, none⟩ 0 n [] _ hc hz).mono ?_
    rintro e u' w'' ⟨rfl, rfl, rfl⟩
    have hc2 : (w1.setCell ⟨w.heap.size, 0, none⟩ (.int .i64 n)).cell? ⟨w.heap.size, 0, none⟩ = some (.int .i64 n) := World.cell?_setCell_same' _ _ _ (by rw [hc]; rfl)
    simp [Leaves, settle, results, Try.results33, go_sem, hc2]
    exact ⟨_, ⟨hq, hb⟩, rfl⟩

set_option maxHeartbeats 400000 in
/-- refuse, where it is not so. -/
theorem mRefuseNo (n : Int) (w : World) : Calls Try.prog 46 #[.bool false, .int .i64 n] w fun e w' => e = .returned (.tuple #[]) ∧ w' = w := by
  go_enter Try.func46, Try.ntmps46
  go_wp2
  go_end0
  exact ⟨rfl, rfl⟩

set_option maxHeartbeats 400000 in
/-- refuse, where it is so. -/
theorem mRefuseYes (n : Int) (w : World) : Calls Try.prog 46 #[.bool true, .int .i64 n] w fun e w' => e = .panicked [refusal n] ∧ w' = w := by
  go_enter Try.func46, Try.ntmps46
  go_wp2
  exact ⟨rfl, rfl, rfl⟩

theorem needs_words (V : Nat) : (blen V + 63) / 64 = wordsN V := by
  unfold blen wordsN
  by_cases h : V = 0
  · rw [if_pos h, if_pos h]
  · rw [if_neg h, if_neg h]
    omega

set_option maxHeartbeats 400000 in
/-- needs. -/
theorem mNeeds (v : Value) (xs : List Nat) (R : Nat) (hR : R = wordsN (val 18446744073709551616 xs)) (w : World) (h : Row .u64 w v xs) (hd : Digs 18446744073709551616 xs) (hl : xs.length ≤ 100000000) :
    Calls Try.prog 35 #[v] w fun e w' => e = .returned (.int .i64 (R : Nat)) ∧ w' = w := by
  have hB := nBits v xs w h hd hl
  have hn := needs_words (val 18446744073709551616 xs)
  rw [← hR] at hn
  have hb : blen (val 18446744073709551616 xs) ≤ 100000000 * 64 := by
    have h1 := (wordsN_le (val 18446744073709551616 xs) xs.length).2 (val_lt (by omega) hd)
    rw [← hR] at h1
    omega
  obtain ⟨b, hbb⟩ : ∃ b, b = blen (val 18446744073709551616 xs) := ⟨_, rfl⟩
  rw [← hbb] at hB hn hb
  have HN := toHid hn
  clear hR h hd hl hbb hn
  go_enter Try.func35, Try.ntmps35
  go_wp2_with fail
  refine hB.mono ?_
  rintro e w' ⟨rfl, rfl⟩
  go_wp2_with fail
  go_ret
  refine ⟨?_, rfl⟩
  have hn := HN.out
  show Ending.returned (Value.int .i64 (((b : Int) + 64 - 1) / 64)) = _
  rw [show ((b : Int) + 64 - 1) / 64 = (R : Int) by omega]

/-- What a number is refused with. -/
def rfn (L V : Nat) : Nat := if 130 < L then 2 else if V < 2 then 1 else if V % 2 = 0 then 60 else 0

set_option maxRecDepth 20000 in
set_option maxHeartbeats 1000000 in
/-- refuseNumber. -/
theorem mRefuseNumber (ao : Option Addr) (L cap : Nat) (xs : List Nat) (w : World) (h : Row .u64 w (.slice ao L cap) xs) (hd : Digs 18446744073709551616 xs) (hl : L ≤ 100000000) :
    Calls Try.prog 36 #[.slice ao L cap] w fun e w' => ((rfn L (val 18446744073709551616 xs) = 0 ∧ e = .returned (.tuple #[])) ∨ (rfn L (val 18446744073709551616 xs) ≠ 0 ∧ e = .panicked [refusal (rfn L (val 18446744073709551616 xs) : Nat)])) ∧ w' = w := by
  obtain ⟨_, _, _, e1, hLx, _, _, _, hnum⟩ := h.open
  cases e1
  have hB := nBits _ xs w h hd (by rw [hLx.out]; exact hl)
  obtain ⟨V, hV⟩ : ∃ V, V = val 18446744073709551616 xs := ⟨_, rfl⟩
  rw [← hV] at hB ⊢
  have HX := toHid (dig_val (by omega) hd 0)
  rw [← hV] at HX
  have HLT : Hid (V < 18446744073709551616 ^ L) := by have := val_lt (by omega) hd; rw [hLx.out, ← hV] at this; exact this
  have HDB : Hid (xs.getD 0 0 < 18446744073709551616) := hd.getD (by omega) _
  have hbl : blen V < 2 ↔ V < 2 := by
    unfold blen
    by_cases h0 : V = 0
    · simp [h0]
    · rw [if_neg h0]
      have := Nat.log2_lt (n := V) (k := 1) h0
      omega
  obtain ⟨b, hb⟩ : ∃ b, b = blen V := ⟨_, rfl⟩
  rw [← hb] at hB hbl
  clear hV h hd hb
  unfold rfn
  have hN2 := mRefuseNo 2 w
  have hN1 := mRefuseNo 1 w
  have hN6 := mRefuseNo 60 w
  by_cases h1 : 130 < L
  · have hY := mRefuseYes 2 w
    rw [if_pos h1]
    have g1 : (L : Int) > 130 := by omega
    clear hnum hB hN1 hN2 hN6
    go_enter Try.func36, Try.ntmps36
    go_wp2_with fail
    refine hY.mono ?_
    rintro e w' ⟨rfl, rfl⟩
    exact ⟨rfl, .inr ⟨by omega, rfl⟩, rfl⟩
  · rw [if_neg h1]
    have g1 : ¬ (L : Int) > 130 := by omega
    by_cases h2 : V < 2
    · have hY := mRefuseYes 1 w
      rw [if_pos h2]
      have g2 : (b : Int) < 2 := by have := hbl.2 h2; omega
      clear hnum hN1 hN6
      go_enter Try.func36, Try.ntmps36
      go_wp2_with fail
      refine hN2.mono ?_
      rintro e w' ⟨rfl, rfl⟩
      go_wp2_with fail
      refine hB.mono ?_
      rintro e w' ⟨rfl, rfl⟩
      go_wp2_with fail
      refine hY.mono ?_
      rintro e w' ⟨rfl, rfl⟩
      exact ⟨rfl, .inr ⟨by omega, rfl⟩, rfl⟩
    · rw [if_neg h2]
      have g2 : ¬ (b : Int) < 2 := by have := mt hbl.1 h2; omega
      have hL0 : 0 < L := by
        rcases Nat.eq_zero_or_pos L with h0 | h0
        · have := HLT.out
          rw [h0, Nat.pow_zero] at this
          omega
        · exact h0
      obtain ⟨b2, off2, rfl, hc2⟩ := hnum 0 hL0
      have hx0 := HDB.out
      have hdg : V % 18446744073709551616 = xs.getD 0 0 := by
        have := HX.out
        unfold dig at this
        rwa [Nat.pow_zero, Nat.div_one] at this
      have hpar : (xs.getD 0 0) % 2 = V % 2 := by omega
      have hand := and_one_u64 (xs.getD 0 0 : Nat) (by omega) (by omega)
      generalize xs.getD 0 0 = x at *
      rw [Nat.add_zero] at hc2
      clear hnum hdg HX hbl
      by_cases h3 : V % 2 = 0
      · have hY := mRefuseYes 60 w
        rw [if_pos h3]
        have hz : bits .and .u64 (x : Int) 1 = 0 := by rw [hand]; omega
        clear hand hpar
        go_enter Try.func36, Try.ntmps36
        go_wp2_with fail
        refine hN2.mono ?_
        rintro e w' ⟨rfl, rfl⟩
        go_wp2_with fail
        refine hB.mono ?_
        rintro e w' ⟨rfl, rfl⟩
        go_wp2_with fail
        rw [show decide ((b : Int) < 2) = false from decide_eq_false (by omega)]
        refine hN1.mono ?_
        rintro e w' ⟨rfl, rfl⟩
        go_wp2_with fail
        refine hY.mono ?_
        rintro e w' ⟨rfl, rfl⟩
        exact ⟨rfl, .inr ⟨by omega, rfl⟩, rfl⟩
      · rw [if_neg h3]
        have hz : bits .and .u64 (x : Int) 1 = 1 := by rw [hand]; omega
        clear hand hpar
        go_enter Try.func36, Try.ntmps36
        go_wp2_with fail
        refine hN2.mono ?_
        rintro e w' ⟨rfl, rfl⟩
        go_wp2_with fail
        refine hB.mono ?_
        rintro e w' ⟨rfl, rfl⟩
        go_wp2_with fail
        rw [show decide ((b : Int) < 2) = false from decide_eq_false (by omega)]
        refine hN1.mono ?_
        rintro e w' ⟨rfl, rfl⟩
        go_wp2_with fail
        refine hN6.mono ?_
        rintro e w' ⟨rfl, rfl⟩
        go_wp2_with fail
        go_end0
        exact ⟨.inl ⟨trivial, rfl⟩, rfl⟩

end Go.Proofs.Ytpgccioblgcjaaa
