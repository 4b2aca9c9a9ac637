/- Package miller: attempt, refuse, step, equal, refuseNumber. -/
import Derived.Test.YtcjaafmlflonhaaGreatDoorMon3
import Derived.Test.YtcjaafmlflonhaaGreatDoorPrm2
namespace Go.Proofs.YtcjaafmlflonhaaGreatDoor
open Go.RowKit

set_option maxHeartbeats 400000 in
/-- The deferred closure, where nothing was refused. -/
theorem yCatchIdle (p : Addr) (w : World) :
    CallsD Tryz.prog 104 #[.pointer (some p)] .returning w fun e u' w' => e = .returned (.tuple #[]) ∧ u' = .returning ∧ w' = w := by
  refine callsD_of_wpS Tryz.func104 rfl fun c₀ cs hu => ?_
  apply wpS_seq
  apply wpS_region
  simp [wpOpsS, go_sem, recoverD, hu, Tryz.ntmps104, Exit.thenS]
  apply wpS_seq
  apply wpS_seq
  apply wpS_region
  simp [wpOpsS, go_sem, Exit.thenS]
  refine wpS_cond (t := true) (by simp [Act.eval, Array.replicate]) ?_
  simp only [if_true]
  refine wpS_of_wp (wp_ret ?_)
  cases c₀
  simp_all [bodyPostS, results, Tryz.results104, Exit.thenS]

set_option maxHeartbeats 400000 in
/-- The deferred closure, where something was refused. -/
theorem yCatch (p : Addr) (x n : Int) (older : List PanicEntry) (w : World) (hc : w.cell? p = some (.int .i64 x)) (hz : w.frozen? p = false) :
    CallsD Tryz.prog 104 #[.pointer (some p)] (.panicking (refusal n :: older)) w fun e u' w' =>
      e = .returned (.tuple #[]) ∧ u' = .panicking ({ refusal n with recovered := true } :: older) ∧ w' = w.setCell p (.int .i64 n) := by
  refine callsD_of_wpS Tryz.func104 rfl fun c₀ cs hu => ?_
  apply wpS_seq
  apply wpS_region
  simp [wpOpsS, go_sem, recoverD, hu, Tryz.ntmps104, Exit.thenS]
  apply wpS_seq
  apply wpS_seq
  apply wpS_region
  simp [wpOpsS, go_sem, Exit.thenS]
  refine wpS_cond (t := false) (by simp [Act.eval, Array.replicate]) ?_
  simp only [Bool.false_eq_true, if_false]
  refine wpS_of_wp (wp_skip ?_)
  simp only [Exit.thenS]
  refine wpS_of_wp ?_
  have hta : ∀ w : World, (Instr.typeAssert (.iface 32 (.int .i64 n)) 20 32 true).run Tryz.prog w = .ok (.tuple #[.int .i64 n, .bool true]) w := fun w => by kernel_rfl
  have hnot : ∀ (x : Bool) (w : World), (Op.unary .not (.bool x)).run Tryz.prog w = .ok (.bool (!x)) w := fun _ _ => rfl
  have e : (#[Value.pointer (some p)] ++ ((((Array.replicate 15 undef).setIfInBounds 3 (Value.iface 32 (Value.int IntKind.i64 n))).setIfInBounds 0 (Value.iface 32 (Value.int IntKind.i64 n))).setIfInBounds 4 (Value.iface 32 (Value.int IntKind.i64 n))).setIfInBounds 5 (Value.bool false) : Array Value) = #[.pointer (some p), .iface 32 (.int .i64 n), undef, undef, .iface 32 (.int .i64 n), .iface 32 (.int .i64 n), .bool false, undef, undef, undef, undef, undef, undef, undef, undef, undef] := rfl
  rw [e]
  clear e
  go_wp2
  simp [bodyPostS, results, Tryz.results104]

set_option maxHeartbeats 400000 in
/-- attempt: what the closure does, and 0, or the number with which it was refused. -/
theorem yAttempt (f : Nat) (cap : Array Value) (w : World) (Q : Int → World → Prop) (he : ∀ args w, (callFunc f args).run Tryz.prog w = .ok (.enter f args) w)
    (h : Calls Tryz.prog f cap (w.alloc (.cells #[.int .i64 0] 32)) fun e w' => w'.heap[w.heap.size]? = some (.cells #[.int .i64 0] 32 (0, 0)) ∧
      ((e = .returned (.tuple #[]) ∧ Q 0 w') ∨ ∃ n, e = .panicked [refusal n] ∧ Q n w')) :
    Calls Tryz.prog 69 #[.func (.func f) #[] cap] w fun e w' => ∃ n w1, e = .returned (.int .i64 n) ∧ (Q n w1 ∧ w1.heap[w.heap.size]? = some (.cells #[.int .i64 0] 32 (0, 0))) ∧ w' = w1.setCell ⟨w.heap.size, 0, none⟩ (.int .i64 n) := by
  have hmf : ∀ (fn : Fn) (first cap : Array Value) (w : World), (Instr.makeFunc fn first cap).run Tryz.prog w = .ok (.func fn first cap) w := fun _ _ _ _ => rfl
  go_enter_defers Tryz.func69, Tryz.ntmps69
  go_wp2_with fail
  refine h.mono ?_
  rintro e w1 ⟨hb, (⟨rfl, hq⟩ | ⟨n, rfl, hq⟩)⟩
  · have hc : w1.cell? ⟨w.heap.size, 0, none⟩ = some (.int .i64 0) := by simp [World.cell?, hb]
    have hz : w1.frozen? ⟨w.heap.size, 0, none⟩ = false := by simp [World.frozen?, hb]
    clear h
    go_wp2_with fail
    refine leaves_cons (f := 104) (args := #[.pointer (some ⟨w.heap.size, 0, none⟩)]) (by simp) (by simp [go_sem]) ?_
    refine (yCatchIdle ⟨w.heap.size, 0, none⟩ _).mono ?_
    rintro e u' w'' ⟨rfl, rfl, rfl⟩
    have hc2 : (w1.setCell ⟨w.heap.size, 0, none⟩ (.int .i64 0)).cell? ⟨w.heap.size, 0, none⟩ = some (.int .i64 0) := World.cell?_setCell_same' _ _ _ (by rw [hc]; rfl)
    simp [Leaves, settle, results, Tryz.results69, go_sem, hc2]
    exact ⟨_, ⟨hq, hb⟩, rfl⟩
  · have hc : w1.cell? ⟨w.heap.size, 0, none⟩ = some (.int .i64 0) := by simp [World.cell?, hb]
    have hz : w1.frozen? ⟨w.heap.size, 0, none⟩ = false := by simp [World.frozen?, hb]
    clear h
    refine leaves_cons (f := 104) (args := #[.pointer (some ⟨w.heap.size, 0, none⟩)]) (by simp) (by simp [go_sem]) ?_
    refine (yCatch ⟨w.heap.size, 0, none⟩ 0 n [] _ hc hz).mono ?_
    rintro e u' w'' ⟨rfl, rfl, rfl⟩
    have hc2 : (w1.setCell ⟨w.heap.size, 0, none⟩ (.int .i64 n)).cell? ⟨w.heap.size, 0, none⟩ = some (.int .i64 n) := World.cell?_setCell_same' _ _ _ (by rw [hc]; rfl)
    simp [Leaves, settle, results, Tryz.results69, go_sem, hc2]
    exact ⟨_, ⟨hq, hb⟩, rfl⟩

set_option maxHeartbeats 400000 in
/-- refuse, where it is not so. -/
theorem yRefuseNo (n : Int) (w : World) : Calls Tryz.prog 72 #[.bool false, .int .i64 n] w fun e w' => e = .returned (.tuple #[]) ∧ w' = w := by
  go_enter Tryz.func72, Tryz.ntmps72
  go_wp2
  go_end0
  exact ⟨rfl, rfl⟩

set_option maxHeartbeats 400000 in
/-- refuse, where it is so. -/
theorem yRefuseYes (n : Int) (w : World) : Calls Tryz.prog 72 #[.bool true, .int .i64 n] w fun e w' => e = .panicked [refusal n] ∧ w' = w := by
  go_enter Tryz.func72, Tryz.ntmps72
  go_wp2
  exact ⟨rfl, rfl, rfl⟩

set_option maxHeartbeats 400000 in
/-- step, of no error. -/
theorem yStep (ao : Option Addr) (n cap : Nat) (w : World) : Calls Tryz.prog 110 #[.slice ao n cap, .int .i64 0] w fun e w' => e = .returned (.slice ao n cap) ∧ w' = w := by
  have hR := yRefuseNo 0 w
  go_enter Tryz.func110, Tryz.ntmps110
  go_wp2_with fail
  refine hR.mono ?_
  rintro e w' ⟨rfl, rfl⟩
  go_wp2
  go_ret
  exact ⟨rfl, rfl⟩

set_option maxHeartbeats 400000 in
/-- equal. -/
theorem yEqual (u v : Value) (xs ys : List Nat) (R : Bool) (hR : R = decide (val 18446744073709551616 xs = val 18446744073709551616 ys)) (w : World) (hu : Row .u64 w u xs) (hv : Row .u64 w v ys) (hdx : Digs 18446744073709551616 xs) (hdy : Digs 18446744073709551616 ys) (hL : xs.length ≤ 100000000) (hM : ys.length ≤ 100000000) :
    Calls Tryz.prog 114 #[u, v] w fun e w' => e = .returned (.bool R) ∧ Kept Nought w w' := by
  have hE := lEqual none u v xs ys w (TrRoom.none w 1 (by omega)) (RowT.none hu) (RowT.none hv) hdx hdy hL hM
  rw [← hR] at hE
  obtain ⟨ao, L, cap, rfl, _⟩ := hu.open
  obtain ⟨bo, M, dap, rfl, _⟩ := hv.open
  clear hu hv hdx hdy hL hM hR
  cases R with
  | true =>
    go_enter Tryz.func114, Tryz.ntmps114
    go_wp2_with fail
    refine hE.mono ?_
    rintro e w' ⟨rfl, o', d⟩
    have k := d.none.2
    clear hE d
    go_wp2_with fail
    go_ret
    exact ⟨rfl, k⟩
  | false =>
    go_enter Tryz.func114, Tryz.ntmps114
    go_wp2_with fail
    refine hE.mono ?_
    rintro e w' ⟨rfl, o', d⟩
    have k := d.none.2
    clear hE d
    go_wp2_with fail
    go_ret
    exact ⟨rfl, k⟩

theorem odd_bits (X : Nat) : (8320 < blen X ↔ 130 < wordsN X) ∧ (blen X < 3 ↔ X ≤ 3) := by
  have h1 := needs_words X
  have h2 := blen_le X 2
  constructor
  · omega
  · have : (2 : Nat) ^ 2 = 4 := by decide
    omega

set_option maxRecDepth 20000 in
set_option maxHeartbeats 1000000 in
/-- refuseNumber. -/
theorem yRefuseNumber (ao : Option Addr) (L cap : Nat) (xs : List Nat) (E : Nat) (hE : E = oddE (val 18446744073709551616 xs)) (w : World) (h : Row .u64 w (.slice ao L cap) xs) (hd : Digs 18446744073709551616 xs) (hl : L ≤ 1000000) :
    Calls Tryz.prog 71 #[.slice ao L cap] w fun e w' => ((E = 0 ∧ e = .returned (.tuple #[])) ∨ (E ≠ 0 ∧ e = .panicked [refusal (E : Nat)])) ∧ w' = w := by
  obtain ⟨_, _, _, e1, hLx, _, _, _, hnum⟩ := h.open
  cases e1
  have hB := nBits _ xs w h hd (by rw [hLx.out]; omega)
  obtain ⟨V, hV⟩ : ∃ V, V = val 18446744073709551616 xs := ⟨_, rfl⟩
  rw [← hV] at hB hE
  have HX := toHid (dig_val (by omega) hd 0)
  rw [← hV] at HX
  have HLT : Hid (V < 18446744073709551616 ^ L) := by have := val_lt (by omega) hd; rw [hLx.out, ← hV] at this; exact this
  have HDB : Hid (xs.getD 0 0 < 18446744073709551616) := hd.getD (by omega) _
  obtain ⟨hb1, hb2⟩ := odd_bits V
  obtain ⟨b, hb⟩ : ∃ b, b = blen V := ⟨_, rfl⟩
  rw [← hb] at hB hb1 hb2
  unfold oddE at hE
  clear hV h hd hb
  have hN2 := yRefuseNo 2 w
  have hN1 := yRefuseNo 1 w
  by_cases h1 : 130 < wordsN V
  · have hY := yRefuseYes 2 w
    rw [if_pos h1] at hE
    subst hE
    have g1 : (b : Int) > 8320 := by have := hb1.2 h1; omega
    have g1' : (8320 : Int) < (b : Int) := g1
    clear hnum hN1 hN2 hb1 hb2 h1
    go_enter Tryz.func71, Tryz.ntmps71
    go_wp2_with fail
    refine hB.mono ?_
    rintro e w' ⟨rfl, rfl⟩
    go_wp2_with fail
    refine hY.mono ?_
    rintro e w' ⟨rfl, rfl⟩
    exact ⟨rfl, .inr ⟨by omega, rfl⟩, rfl⟩
  · rw [if_neg h1] at hE
    have g1 : ¬ (b : Int) > 8320 := by have := mt hb1.1 h1; omega
    have g1' : ¬ (8320 : Int) < (b : Int) := g1
    have q1 : decide ((8320 : Int) < (b : Int)) = false := decide_eq_false g1'
    by_cases h2 : V ≤ 3
    · have hY := yRefuseYes 1 w
      rw [if_pos (.inl h2)] at hE
      subst hE
      have g2 : (b : Int) < 3 := by have := hb2.2 h2; omega
      clear hnum hN1 hb1 hb2 h1
      go_enter Tryz.func71, Tryz.ntmps71
      go_wp2_with fail
      refine hB.mono ?_
      rintro e w' ⟨rfl, rfl⟩
      go_wp2_with fail
      refine hN2.mono ?_
      rintro e w' ⟨rfl, rfl⟩
      go_wp2_with fail
      refine hY.mono ?_
      rintro e w' ⟨rfl, rfl⟩
      exact ⟨rfl, .inr ⟨by omega, rfl⟩, rfl⟩
    · have g2 : ¬ (b : Int) < 3 := by have := mt hb2.1 h2; omega
      have hL0 : 0 < L := by
        rcases Nat.eq_zero_or_pos L with h0 | h0
        · have := HLT.out
          rw [h0, Nat.pow_zero] at this
          omega
        · exact h0
      obtain ⟨b2, off2, rfl, hc2⟩ := hnum 0 hL0
      have hx0 := HDB.out
      have hdg : V % 18446744073709551616 = xs.getD 0 0 := by
        have := HX.out
        unfold dig at this
        rwa [Nat.pow_zero, Nat.div_one] at this
      have hpar : (xs.getD 0 0) % 2 = V % 2 := by omega
      have hand := and_one_u64 (xs.getD 0 0 : Nat) (by omega) (by omega)
      generalize xs.getD 0 0 = x at *
      rw [Nat.add_zero] at hc2
      clear hnum hdg HX hb1 hb2 h1
      by_cases h3 : V % 2 = 0
      · have hY := yRefuseYes 1 w
        rw [if_pos (.inr h3)] at hE
        subst hE
        have hz : bits .and .u64 (x : Int) 1 = 0 := by rw [hand]; omega
        clear hand hpar
        go_enter Tryz.func71, Tryz.ntmps71
        go_wp2_with fail
        refine hB.mono ?_
        rintro e w' ⟨rfl, rfl⟩
        go_wp2_with fail
        refine hN2.mono ?_
        rintro e w' ⟨rfl, rfl⟩
        go_wp2_with fail
        refine hY.mono ?_
        rintro e w' ⟨rfl, rfl⟩
        exact ⟨rfl, .inr ⟨by omega, rfl⟩, rfl⟩
      · rw [if_neg (by omega)] at hE
        subst hE
        have hz : bits .and .u64 (x : Int) 1 = 1 := by rw [hand]; omega
        clear hand hpar
        go_enter Tryz.func71, Tryz.ntmps71
        go_wp2_with fail
        refine hB.mono ?_
        rintro e w' ⟨rfl, rfl⟩
        go_wp2_with fail
        refine hN2.mono ?_
        rintro e w' ⟨rfl, rfl⟩
        go_wp2_with fail
        rw [show decide ((b : Int) < 3) = false from decide_eq_false (by omega)]
        refine hN1.mono ?_
        rintro e w' ⟨rfl, rfl⟩
        go_wp2_with fail
        go_end0
        exact ⟨.inl ⟨trivial, rfl⟩, rfl⟩

end Go.Proofs.YtcjaafmlflonhaaGreatDoor
