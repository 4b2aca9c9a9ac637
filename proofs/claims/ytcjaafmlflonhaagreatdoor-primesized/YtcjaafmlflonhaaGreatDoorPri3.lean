/- Package prime: attempt, refuse, step, passes, candidates. -/
import Derived.Test.YtcjaafmlflonhaaGreatDoorMir8
import Derived.Test.YtcjaafmlflonhaaGreatDoorPri2
import Derived.Test.YtcjaafmlflonhaaGreatDoorSeq5
import Derived.Test.YtcjaafmlflonhaaGreatDoorKey7
namespace Go.Proofs.YtcjaafmlflonhaaGreatDoor
open Go.RowKit Go.Shelf

set_option maxHeartbeats 400000 in
/-- The deferred closure, where nothing was refused. -/
theorem oCatchIdle (p : Addr) (w : World) :
    CallsD Tryz.prog 35 #[.pointer (some p)] .returning w fun e u' w' => e = .returned (.tuple #[]) ∧ u' = .returning ∧ w' = w := by
  refine callsD_of_wpS Tryz.func35 rfl fun c₀ cs hu => ?_
  apply wpS_seq
  apply wpS_region
  simp [wpOpsS, go_sem, recoverD, hu, Tryz.ntmps35, Exit.thenS]
  apply wpS_seq
  apply wpS_seq
  apply wpS_region
  simp [wpOpsS, go_sem, Exit.thenS]
  refine wpS_cond (t := true) (by simp [Act.eval, Array.replicate]) ?_
  simp only [if_true]
  refine wpS_of_wp (wp_ret ?_)
  cases c₀
  simp_all [bodyPostS, results, Tryz.results35, Exit.thenS]

set_option maxHeartbeats 400000 in
/-- The deferred closure, where something was refused. -/
theorem oCatch (p : Addr) (x n : Int) (older : List PanicEntry) (w : World) (hc : w.cell? p = some (.int .i64 x)) (hz : w.frozen? p = false) :
    CallsD Tryz.prog 35 #[.pointer (some p)] (.panicking (refusal n :: older)) w fun e u' w' =>
      e = .returned (.tuple #[]) ∧ u' = .panicking ({ refusal n with recovered := true } :: older) ∧ w' = w.setCell p (.int .i64 n) := by
  refine callsD_of_wpS Tryz.func35 rfl fun c₀ cs hu => ?_
  apply wpS_seq
  apply wpS_region
  simp [wpOpsS, go_sem, recoverD, hu, Tryz.ntmps35, Exit.thenS]
  apply wpS_seq
  apply wpS_seq
  apply wpS_region
  simp [wpOpsS, go_sem, Exit.thenS]
  refine wpS_cond (t := false) (by simp [Act.eval, Array.replicate]) ?_
  simp only [Bool.false_eq_true, if_false]
  refine wpS_of_wp (wp_skip ?_)
  simp only [Exit.thenS]
  refine wpS_of_wp ?_
  have hta : ∀ w : World, (Instr.typeAssert (.iface 32 (.int .i64 n)) 20 32 true).run Tryz.prog w = .ok (.tuple #[.int .i64 n, .bool true]) w := fun w => by kernel_rfl
  have hnot : ∀ (x : Bool) (w : World), (Op.unary .not (.bool x)).run Tryz.prog w = .ok (.bool (!x)) w := fun _ _ => rfl
  have e : (#[Value.pointer (some p)] ++ ((((Array.replicate 15 undef).setIfInBounds 3 (Value.iface 32 (Value.int IntKind.i64 n))).setIfInBounds 0 (Value.iface 32 (Value.int IntKind.i64 n))).setIfInBounds 4 (Value.iface 32 (Value.int IntKind.i64 n))).setIfInBounds 5 (Value.bool false) : Array Value) = #[.pointer (some p), .iface 32 (.int .i64 n), undef, undef, .iface 32 (.int .i64 n), .iface 32 (.int .i64 n), .bool false, undef, undef, undef, undef, undef, undef, undef, undef, undef] := rfl
  rw [e]
  clear e
  go_wp2
  simp [bodyPostS, results, Tryz.results35]

set_option maxHeartbeats 400000 in
/-- attempt: what the closure does, and 0, or the number with which it was refused. -/
theorem oAttempt (f : Nat) (cap : Array Value) (w : World) (Q : Int → World → Prop) (he : ∀ args w, (callFunc f args).run Tryz.prog w = .ok (.enter f args) w)
    (h : Calls Tryz.prog f cap (w.alloc (.cells #[.int .i64 0] 32)) fun e w' => w'.heap[w.heap.size]? = some (.cells #[.int .i64 0] 32 (0, 0)) ∧
      ((e = .returned (.tuple #[]) ∧ Q 0 w') ∨ ∃ n, e = .panicked [refusal n] ∧ Q n w')) :
    Calls Tryz.prog 17 #[.func (.func f) #[] cap] w fun e w' => ∃ n w1, e = .returned (.int .i64 n) ∧ (Q n w1 ∧ w1.heap[w.heap.size]? = some (.cells #[.int .i64 0] 32 (0, 0))) ∧ w' = w1.setCell ⟨w.heap.size, 0, none⟩ (.int .i64 n) := by
  have hmf : ∀ (fn : Fn) (first cap : Array Value) (w : World), (Instr.makeFunc fn first cap).run Tryz.prog w = .ok (.func fn first cap) w := fun _ _ _ _ => rfl
  go_enter_defers Tryz.func17, Tryz.ntmps17
  go_wp2_with fail
  refine h.mono ?_
  rintro e w1 ⟨hb, (⟨rfl, hq⟩ | ⟨n, rfl, hq⟩)⟩
  · have hc : w1.cell? ⟨w.heap.size, 0, none⟩ = some (.int .i64 0) := by simp [World.cell?, hb]
    have hz : w1.frozen? ⟨w.heap.size, 0, none⟩ = false := by simp [World.frozen?, hb]
    clear h
    go_wp2_with fail
    refine leaves_cons (f := 35) (args := #[.pointer (some ⟨w.heap.size, 0, none⟩)]) (by simp) (by simp [go_sem]) ?_
    refine (oCatchIdle ⟨w.heap.size, 0, none⟩ _).mono ?_
    rintro e u' w'' ⟨rfl, rfl, rfl⟩
    have hc2 : (w1.setCell ⟨w.heap.size, 0, none⟩ (.int .i64 0)).cell? ⟨w.heap.size, 0, none⟩ = some (.int .i64 0) := World.cell?_setCell_same' _ _ _ (by rw [hc]; rfl)
    simp [Leaves, settle, results, Tryz.results17, go_sem, hc2]
    exact ⟨_, ⟨hq, hb⟩, rfl⟩
  · have hc : w1.cell? ⟨w.heap.size, 0, none⟩ = some (.int .i64 0) := by simp [World.cell?, hb]
    have hz : w1.frozen? ⟨w.heap.size, 0, none⟩ = false := by simp [World.frozen?, hb]
    clear h
    refine leaves_cons (f := 35) (args := #[.pointer (some ⟨w.heap.size, 0, none⟩)]) (by simp) (by simp [go_sem]) ?_
    refine (oCatch ⟨w.heap.size, 0, none⟩ 0 n [] _ hc hz).mono ?_
    rintro e u' w'' ⟨rfl, rfl, rfl⟩
    have hc2 : (w1.setCell ⟨w.heap.size, 0, none⟩ (.int .i64 n)).cell? ⟨w.heap.size, 0, none⟩ = some (.int .i64 n) := World.cell?_setCell_same' _ _ _ (by rw [hc]; rfl)
    simp [Leaves, settle, results, Tryz.results17, go_sem, hc2]
    exact ⟨_, ⟨hq, hb⟩, rfl⟩

set_option maxHeartbeats 400000 in
/-- refuse, where it is not so. -/
theorem oRefuseNo (n : Int) (w : World) : Calls Tryz.prog 19 #[.bool false, .int .i64 n] w fun e w' => e = .returned (.tuple #[]) ∧ w' = w := by
  go_enter Tryz.func19, Tryz.ntmps19
  go_wp2
  go_end0
  exact ⟨rfl, rfl⟩

set_option maxHeartbeats 400000 in
/-- refuse, where it is so. -/
theorem oRefuseYes (n : Int) (w : World) : Calls Tryz.prog 19 #[.bool true, .int .i64 n] w fun e w' => e = .panicked [refusal n] ∧ w' = w := by
  go_enter Tryz.func19, Tryz.ntmps19
  go_wp2
  exact ⟨rfl, rfl, rfl⟩

set_option maxHeartbeats 400000 in
/-- step, of no error. -/
theorem oStepB (ao : Option Addr) (n cap : Nat) (w : World) : Calls Tryz.prog 37 #[.slice ao n cap, .int .i64 0] w fun e w' => e = .returned (.slice ao n cap) ∧ w' = w := by
  have hR := oRefuseNo 0 w
  go_enter Tryz.func37, Tryz.ntmps37
  go_wp2_with fail
  refine hR.mono ?_
  rintro e w' ⟨rfl, rfl⟩
  go_wp2
  go_ret
  exact ⟨rfl, rfl⟩

set_option maxHeartbeats 400000 in
/-- step, of an error. -/
theorem oStepBE (ao : Option Addr) (n cap : Nat) (E : Nat) (hE : E ≠ 0) (w : World) : Calls Tryz.prog 37 #[.slice ao n cap, .int .i64 (E : Nat)] w fun e w' => e = .panicked [refusal (E : Nat)] ∧ w' = w := by
  have hR := oRefuseYes (E : Nat) w
  have hE1 : ¬ (E : Int) = 0 := by omega
  have hb : ((E : Int) != 0) = true := by simp; omega
  go_enter Tryz.func37, Tryz.ntmps37
  go_wp2_with fail
  try rw [hb]
  refine hR.mono ?_
  rintro e w' ⟨rfl, rfl⟩
  exact ⟨rfl, rfl, rfl⟩

set_option maxHeartbeats 400000 in
/-- step, of no error. -/
theorem oStepN (ao : Option Addr) (n cap : Nat) (w : World) : Calls Tryz.prog 39 #[.slice ao n cap, .int .i64 0] w fun e w' => e = .returned (.slice ao n cap) ∧ w' = w := by
  have hR := oRefuseNo 0 w
  go_enter Tryz.func39, Tryz.ntmps39
  go_wp2_with fail
  refine hR.mono ?_
  rintro e w' ⟨rfl, rfl⟩
  go_wp2
  go_ret
  exact ⟨rfl, rfl⟩

set_option maxHeartbeats 400000 in
/-- step, of an error. -/
theorem oStepNE (ao : Option Addr) (n cap : Nat) (E : Nat) (hE : E ≠ 0) (w : World) : Calls Tryz.prog 39 #[.slice ao n cap, .int .i64 (E : Nat)] w fun e w' => e = .panicked [refusal (E : Nat)] ∧ w' = w := by
  have hR := oRefuseYes (E : Nat) w
  have hE1 : ¬ (E : Int) = 0 := by omega
  have hb : ((E : Int) != 0) = true := by simp; omega
  go_enter Tryz.func39, Tryz.ntmps39
  go_wp2_with fail
  try rw [hb]
  refine hR.mono ?_
  rintro e w' ⟨rfl, rfl⟩
  exact ⟨rfl, rfl, rfl⟩

set_option maxHeartbeats 400000 in
/-- step, of no error. -/
theorem oStepL (r : Bool) (w : World) : Calls Tryz.prog 41 #[.bool r, .int .i64 0] w fun e w' => e = .returned (.bool r) ∧ w' = w := by
  have hR := oRefuseNo 0 w
  go_enter Tryz.func41, Tryz.ntmps41
  go_wp2_with fail
  refine hR.mono ?_
  rintro e w' ⟨rfl, rfl⟩
  go_wp2
  go_ret
  exact ⟨rfl, rfl⟩

set_option maxHeartbeats 400000 in
/-- step, of an error. -/
theorem oStepLE (r : Bool) (E : Nat) (hE : E ≠ 0) (w : World) : Calls Tryz.prog 41 #[.bool r, .int .i64 (E : Nat)] w fun e w' => e = .panicked [refusal (E : Nat)] ∧ w' = w := by
  have hR := oRefuseYes (E : Nat) w
  have hE1 : ¬ (E : Int) = 0 := by omega
  have hb : ((E : Int) != 0) = true := by simp; omega
  go_enter Tryz.func41, Tryz.ntmps41
  go_wp2_with fail
  try rw [hb]
  refine hR.mono ?_
  rintro e w' ⟨rfl, rfl⟩
  exact ⟨rfl, rfl, rfl⟩

set_option maxRecDepth 20000 in
set_option maxHeartbeats 1000000 in
/-- passes. -/
theorem oPasses (co p : Option Addr) (L cap B : Nat) (k : Int) (xs cs : List Nat) (r1 : Bool) (r2 : List (List Nat)) (r3 : Nat) (r4 : List Nat) (hRN : rndAll xs k cs = (r1, r2, r3, r4)) (hk0 : -9223372036854775808 ≤ k) (hk1 : k ≤ 9223372036854775807) (w : World)
    (hu : Row .u64 w (.slice co L cap) xs) (hd : Digs 18446744073709551616 xs) (hL : L ≤ 1000000) (hs : Lsc w p B cs) (hB : B ≤ w.heap.size) (hcd : Digs 256 cs) :
    Calls Tryz.prog 22 #[.pointer p, .slice co L cap, .int .i64 k] w fun e w' => ((r3 = 0 ∧ e = .returned (.bool r1)) ∨ (r3 ≠ 0 ∧ e = .panicked [refusal (r3 : Nat)])) ∧ Lsc w' p B r4 ∧ Kept (ofP p) w w' := by
  have J := yRounds co p L cap B k xs cs r1 r2 r3 r4 hRN hk0 hk1 w hu hd hL hs hB hcd
  clear hRN hk0 hk1 hu hd hL hs hB hcd
  by_cases hr : r3 = 0
  · subst hr
    go_enter Tryz.func22, Tryz.ntmps22
    go_wp2_with fail
    refine J.mono ?_
    rintro e w1 ⟨v, rfl, hbs, hsc, kk⟩
    obtain ⟨vo, vc, rfl⟩ := hbs.slice
    have J2 := oStepL r1 w1
    have HSC := toHid hsc
    have HK := toHid kk
    clear J hbs hsc kk
    go_wp2_with fail
    refine J2.mono ?_
    rintro e w2 ⟨rfl, rfl⟩
    clear J2
    go_wp2_with fail
    go_ret
    exact ⟨.inl ⟨trivial, rfl⟩, HSC.out, HK.out⟩
  · have HR := toHid hr
    go_enter Tryz.func22, Tryz.ntmps22
    go_wp2_with fail
    refine J.mono ?_
    rintro e w1 ⟨v, rfl, hbs, hsc, kk⟩
    obtain ⟨vo, vc, rfl⟩ := hbs.slice
    have J2 := oStepLE r1 r3 HR.out w1
    have HSC := toHid hsc
    have HK := toHid kk
    clear J hbs hsc kk
    go_wp2_with fail
    refine J2.mono ?_
    rintro e w2 ⟨rfl, rfl⟩
    exact ⟨rfl, .inr ⟨HR.out, rfl⟩, HSC.out, HK.out⟩

set_option maxRecDepth 20000 in
set_option maxHeartbeats 1000000 in
/-- candidates: two parameters are boxed; the function value holds the boxes. -/
theorem oCands (p : Option Addr) (t : Int) (w : World) :
    Calls Tryz.prog 21 #[.pointer p, .int .i64 t] w fun e w' => e = .returned (.func (.func 36) #[] #[.pointer (some ⟨w.heap.size, 0, none⟩), .pointer (some ⟨w.heap.size + 1, 0, none⟩)]) ∧
      Boxed w' w.heap.size 25 (.pointer p) ∧ Boxed w' (w.heap.size + 1) 3 (.int .i64 t) ∧ Kept Nought w w' ∧ w'.heap.size = w.heap.size + 2 := by
  have hmf : ∀ (fn : Fn) (first cap : Array Value) (w : World), (Instr.makeFunc fn first cap).run Tryz.prog w = .ok (.func fn first cap) w := fun _ _ _ _ => rfl
  have b0 := (Boxed.new w 25 (.pointer p)).alloc (.cells #[.int .i64 t] 3)
  have b1 := Boxed.new (w.alloc (.cells #[.pointer p] 25)) 3 (.int .i64 t)
  simp only [World.size_alloc] at b1
  have HB0 := toHid b0
  have HB1 := toHid b1
  clear b0 b1
  go_enter Tryz.func21, Tryz.ntmps21
  go_wp2_with fail
  go_ret
  exact ⟨rfl, HB0.out, HB1.out, ((Kept.refl Nought w).alloc _).alloc _, by simp⟩

end Go.Proofs.YtcjaafmlflonhaaGreatDoor
