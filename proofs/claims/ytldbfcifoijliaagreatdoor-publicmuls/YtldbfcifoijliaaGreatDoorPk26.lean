/- Put together of: Pub2. -/
import Derived.Test.YtldbfcifoijliaaGreatDoorPk20
import Derived.Test.YtldbfcifoijliaaGreatDoorPk22
import Derived.Test.YtldbfcifoijliaaGreatDoorPk25

/- Package public: attempt, refuse, step; Apply. (written by wip/gen/pub2.py) -/
namespace Go.Proofs.YtldbfcifoijliaaGreatDoor
open Go.RowKit

set_option maxHeartbeats 400000 in
/-- The deferred closure, where nothing was refused. -/
theorem uCatchIdle (p : Addr) (w : World) :
    CallsD Tryz.prog 38 #[.pointer (some p)] .returning w fun e u' w' => e = .returned (.tuple #[]) ∧ u' = .returning ∧ w' = w := by
  refine callsD_of_wpS Tryz.func38 rfl fun c₀ cs hu => ?_
  apply wpS_seq
  apply wpS_region
  simp [wpOpsS, go_sem, recoverD, hu, Tryz.ntmps38, Exit.thenS]
  apply wpS_seq
  apply wpS_seq
  apply wpS_region
  simp [wpOpsS, go_sem, Exit.thenS]
  refine wpS_cond (t := true) (by simp [Act.eval, Array.replicate]) ?_
  simp only [if_true]
  refine wpS_of_wp (wp_ret ?_)
  cases c₀
  simp_all [bodyPostS, results, Tryz.results38, Exit.thenS]

set_option maxHeartbeats 400000 in
/-- The deferred closure, where something was refused. -/
theorem uCatch (p : Addr) (x n : Int) (older : List PanicEntry) (w : World) (hc : w.cell? p = some (.int .i64 x)) (hz : w.frozen? p = false) :
    CallsD Tryz.prog 38 #[.pointer (some p)] (.panicking (refusal n :: older)) w fun e u' w' =>
      e = .returned (.tuple #[]) ∧ u' = .panicking ({ refusal n with recovered := true } :: older) ∧ w' = w.setCell p (.int .i64 n) := by
  refine callsD_of_wpS Tryz.func38 rfl fun c₀ cs hu => ?_
  apply wpS_seq
  apply wpS_region
  simp [wpOpsS, go_sem, recoverD, hu, Tryz.ntmps38, Exit.thenS]
  apply wpS_seq
  apply wpS_seq
  apply wpS_region
  simp [wpOpsS, go_sem, Exit.thenS]
  refine wpS_cond (t := false) (by simp [Act.eval, Array.replicate]) ?_
  simp only [Bool.false_eq_true, if_false]
  refine wpS_of_wp (wp_skip ?_)
  simp only [Exit.thenS]
  refine wpS_of_wp ?_
  have hta : ∀ w : World, (Instr.typeAssert (.iface 28 (.int .i64 n)) 20 28 true).run Tryz.prog w = .ok (.tuple #[.int .i64 n, .bool true]) w := fun w => by kernel_rfl
  have hnot : ∀ (x : Bool) (w : World), (Op.unary .not (.bool x)).run Tryz.prog w = .ok (.bool (!x)) w := fun _ _ => rfl
  have e : (#[Value.pointer (some p)] ++ ((((Array.replicate 15 undef).setIfInBounds 3 (Value.iface 28 (Value.int IntKind.i64 n))).setIfInBounds 0 (Value.iface 28 (Value.int IntKind.i64 n))).setIfInBounds 4 (Value.iface 28 (Value.int IntKind.i64 n))).setIfInBounds 5 (Value.bool false) : Array Value) = #[.pointer (some p), .iface 28 (.int .i64 n), undef, undef, .iface 28 (.int .i64 n), .iface 28 (.int .i64 n), .bool false, undef, undef, undef, undef, undef, undef, undef, undef, undef] := rfl
  rw [e]
  clear e
  go_wp2
  simp [bodyPostS, results, Tryz.results38]

set_option maxHeartbeats 400000 in
/-- attempt: what the closure does, and 0, or the number with which it was refused. -/
theorem uAttempt (f : Nat) (cap : Array Value) (w : World) (Q : Int → World → Prop) (he : ∀ args w, (callFunc f args).run Tryz.prog w = .ok (.enter f args) w)
    (h : Calls Tryz.prog f cap (w.alloc (.cells #[.int .i64 0] 28)) fun e w' => w'.heap[w.heap.size]? = some (.cells #[.int .i64 0] 28 (0, 0)) ∧
      ((e = .returned (.tuple #[]) ∧ Q 0 w') ∨ ∃ n, e = .panicked [refusal n] ∧ Q n w')) :
    Calls Tryz.prog 18 #[.func (.func f) #[] cap] w fun e w' => ∃ n w1, e = .returned (.int .i64 n) ∧ (Q n w1 ∧ w1.heap[w.heap.size]? = some (.cells #[.int .i64 0] 28 (0, 0))) ∧ w' = w1.setCell ⟨w.heap.size, 0, none⟩ (.int .i64 n) := by
  have hmf : ∀ (fn : Fn) (first cap : Array Value) (w : World), (Instr.makeFunc fn first cap).run Tryz.prog w = .ok (.func fn first cap) w := fun _ _ _ _ => rfl
  go_enter_defers Tryz.func18, Tryz.ntmps18
  go_wp2_with fail
  refine h.mono ?_
  rintro e w1 ⟨hb, (⟨rfl, hq⟩ | ⟨n, rfl, hq⟩)⟩
  · have hc : w1.cell? ⟨w.heap.size, 0, none⟩ = some (.int .i64 0) := by simp [World.cell?, hb]
    have hz : w1.frozen? ⟨w.heap.size, 0, none⟩ = false := by simp [World.frozen?, hb]
    clear h
    go_wp2_with fail
    refine leaves_cons (f := 38) (args := #[.pointer (some ⟨w.heap.size, 0, none⟩)]) (by simp) (by simp [go_sem]) ?_
    refine (uCatchIdle ⟨w.heap.size, 0, none⟩ _).mono ?_
    rintro e u' w'' ⟨rfl, rfl, rfl⟩
    have hc2 : (w1.setCell ⟨w.heap.size, 0, none⟩ (.int .i64 0)).cell? ⟨w.heap.size, 0, none⟩ = some (.int .i64 0) := World.cell?_setCell_same' _ _ _ (by rw [hc]; rfl)
    simp [Leaves, settle, results, Tryz.results18, go_sem, hc2]
    exact ⟨_, ⟨hq, hb⟩, rfl⟩
  · have hc : w1.cell? ⟨w.heap.size, 0, none⟩ = some (.int .i64 0) := by simp [World.cell?, hb]
    have hz : w1.frozen? ⟨w.heap.size, 0, none⟩ = false := by simp [World.frozen?, hb]
    clear h
    refine leaves_cons (f := 38) (args := #[.pointer (some ⟨w.heap.size, 0, none⟩)]) (by simp) (by simp [go_sem]) ?_
    refine (uCatch ⟨w.heap.size, 0, none⟩ 0 n [] _ hc hz).mono ?_
    rintro e u' w'' ⟨rfl, rfl, rfl⟩
    have hc2 : (w1.setCell ⟨w.heap.size, 0, none⟩ (.int .i64 n)).cell? ⟨w.heap.size, 0, none⟩ = some (.int .i64 n) := World.cell?_setCell_same' _ _ _ (by rw [hc]; rfl)
    simp [Leaves, settle, results, Tryz.results18, go_sem, hc2]
    exact ⟨_, ⟨hq, hb⟩, rfl⟩

set_option maxHeartbeats 400000 in
/-- refuse, where it is not so. -/
theorem uRefuseNo (n : Int) (w : World) : Calls Tryz.prog 21 #[.bool false, .int .i64 n] w fun e w' => e = .returned (.tuple #[]) ∧ w' = w := by
  go_enter Tryz.func21, Tryz.ntmps21
  go_wp2
  go_end0
  exact ⟨rfl, rfl⟩

set_option maxHeartbeats 400000 in
/-- refuse, where it is so. -/
theorem uRefuseYes (n : Int) (w : World) : Calls Tryz.prog 21 #[.bool true, .int .i64 n] w fun e w' => e = .panicked [refusal n] ∧ w' = w := by
  go_enter Tryz.func21, Tryz.ntmps21
  go_wp2
  exact ⟨rfl, rfl, rfl⟩

set_option maxHeartbeats 400000 in
/-- step, of no error. -/
theorem uStepN (ao : Option Addr) (n cap : Nat) (w : World) : Calls Tryz.prog 23 #[.slice ao n cap, .int .i64 0] w fun e w' => e = .returned (.slice ao n cap) ∧ w' = w := by
  have hR := uRefuseNo 0 w
  go_enter Tryz.func23, Tryz.ntmps23
  go_wp2_with fail
  refine hR.mono ?_
  rintro e w' ⟨rfl, rfl⟩
  go_wp2
  go_ret
  exact ⟨rfl, rfl⟩

set_option maxHeartbeats 400000 in
/-- step, of an error. -/
theorem uStepNE (ao : Option Addr) (n cap : Nat) (E : Nat) (hE : E ≠ 0) (w : World) : Calls Tryz.prog 23 #[.slice ao n cap, .int .i64 (E : Nat)] w fun e w' => e = .panicked [refusal (E : Nat)] ∧ w' = w := by
  have hR := uRefuseYes (E : Nat) w
  have hE1 : ¬ (E : Int) = 0 := by omega
  have hb : ((E : Int) != 0) = true := by simp; omega
  go_enter Tryz.func23, Tryz.ntmps23
  go_wp2_with fail
  try rw [hb]
  refine hR.mono ?_
  rintro e w' ⟨rfl, rfl⟩
  exact ⟨rfl, rfl, rfl⟩

set_option maxHeartbeats 800000 in
/-- step, of a modulus. -/
theorem uStepM (ao bo : Option Addr) (n ac K l bc : Nat) (w : World) : Calls Tryz.prog 25 #[.agg #[.slice ao n ac, .int .u64 (K : Nat), .slice bo l bc], .int .i64 0] w fun e w' => e = .returned (.agg #[.slice ao n ac, .int .u64 (K : Nat), .slice bo l bc]) ∧ Kept Nought w w' := by
  have hR := uRefuseNo 0
  obtain ⟨W, hW⟩ : ∃ W, W = (w.alloc (.cells #[.slice ao n ac, .int .u64 (K : Nat), .slice bo l bc] 52)).alloc (.cells #[.slice none 0 0, .int .u64 0, .slice none 0 0] 52) := ⟨_, rfl⟩
  have k0 : Kept Nought w W := by rw [hW]; exact ((Kept.refl Nought w).alloc _).alloc _
  have b1 : W.heap[w.heap.size]? = some (.cells #[.slice ao n ac, .int .u64 (K : Nat), .slice bo l bc] 52 (0, 0)) := by rw [hW]; exact heapAt_alloc (heap_alloc_new _ _)
  have b2 : W.heap[w.heap.size + 1]? = some (.cells #[.slice none 0 0, .int .u64 0, .slice none 0 0] 52 (0, 0)) := by
    rw [hW]
    have := heap_alloc_new (w.alloc (.cells #[.slice ao n ac, .int .u64 (K : Nat), .slice bo l bc] 52)) (.cells #[.slice none 0 0, .int .u64 0, .slice none 0 0] 52)
    rwa [World.size_alloc] at this
  obtain ⟨c0, c1, c2⟩ := cells3 b1
  obtain ⟨f0, f1, f2⟩ := frees3 b2
  obtain ⟨d0, d1, d2⟩ := cells3 (put3 b2 (.slice ao n ac) (.int .u64 (K : Nat)) (.slice bo l bc))
  obtain ⟨g0, g1, g2⟩ := cells3 b2
  have HKK := toHid (k0.next (kept3 W (w.heap.size + 1) (.slice ao n ac) (.int .u64 (K : Nat)) (.slice bo l bc)) (fun x hx e => by omega))
  have HW := toHid hW
  clear hW k0 b1 b2
  go_enter Tryz.func25, Tryz.ntmps25
  go_wp2_with (rw [← HW.out])
  refine (hR W).mono ?_
  rintro e w1 ⟨rfl, rfl⟩
  clear hR
  go_wp2_with fail
  exact bodyPost_ret (v := .agg #[.slice ao n ac, .int .u64 (K : Nat), .slice bo l bc]) (by simp [results, Tryz.results25, go_sem, d0, d1, d2]) rfl ⟨rfl, HKK.out⟩

set_option maxHeartbeats 400000 in
/-- step, of bytes, of no error. -/
theorem uStepB (ao : Option Addr) (n cap : Nat) (w : World) : Calls Tryz.prog 28 #[.slice ao n cap, .int .i64 0] w fun e w' => e = .returned (.slice ao n cap) ∧ w' = w := by
  have hR := uRefuseNo 0 w
  go_enter Tryz.func28, Tryz.ntmps28
  go_wp2_with fail
  refine hR.mono ?_
  rintro e w' ⟨rfl, rfl⟩
  go_wp2
  go_ret
  exact ⟨rfl, rfl⟩

/-- What Apply attempts comes to. -/
def AppEnd (bO : Nat) (ns : List Nat) (e : Nat) (ms : List Nat) (w : World) (r : Ending) (w' : World) : Prop :=
  (appE ns e ms = 0 ∧ r = .returned (.tuple #[]) ∧ ∃ v, Box w' bO v 25 ∧ Row .u8 w' v (appL ns e ms) ∧ Fresh w v ∧ Kept (fun x => x = bO) w w') ∨ (appE ns e ms ≠ 0 ∧ r = .panicked [refusal (appE ns e ms : Nat)] ∧ Kept Nought w w')

theorem AppEnd.no {bO : Nat} {ns : List Nat} {e : Nat} {ms : List Nat} {w w' : World} {E : Nat} (h : appE ns e ms = E) (hE : E ≠ 0) (k : Kept Nought w w') : AppEnd bO ns e ms w (.panicked [refusal (E : Nat)]) w' := by
  subst h
  exact .inr ⟨hE, rfl, k⟩

set_option maxRecDepth 20000 in
set_option maxHeartbeats 2000000 in
/-- What Apply attempts: no key's half. -/
theorem uApp1A (bN bE bM bO : Nat) (ao : Option Addr) (L cap : Nat) (ns : List Nat) (e : Nat) (bo : Option Addr) (M dap : Nat) (ms : List Nat) (w : World) (_ : e < 18446744073709551616) (hu : Row .u64 w (.slice ao L cap) ns) (hd : Digs 18446744073709551616 ns) (hL : L ≤ 1000) (_ : Row .u8 w (.slice bo M dap) ms) (_ : Digs 256 ms) (_ : M ≤ 10000) (b0 : w.cell? ⟨bN, 0, none⟩ = some (.slice ao L cap)) (b1 : w.cell? ⟨bE, 0, none⟩ = some (.int .u64 (e : Int))) (_ : w.cell? ⟨bM, 0, none⟩ = some (.slice bo M dap)) (hE : pubE ns e = 190) :
    Calls Tryz.prog 19 #[.pointer (some ⟨bN, 0, none⟩), .pointer (some ⟨bE, 0, none⟩), .pointer (some ⟨bM, 0, none⟩), .pointer (some ⟨bO, 0, none⟩)] w fun r w' => AppEnd bO ns e ms w r w' := by
  have HE : Hid (appE ns e ms = 190) := by unfold Hid appE; rw [if_neg (by omega)]
  have J1 := kPub ao L cap ns e w hu hd hL
  rw [hE] at J1
  have hY := uRefuseYes 190
  clear hu hd hL hE
  go_enter Tryz.func19, Tryz.ntmps19
  go_wp2_with fail
  refine J1.mono ?_
  rintro r w1 ⟨rfl, k1⟩
  have HK1 := toHid k1
  clear J1 k1
  go_wp2_with fail
  refine (hY _).mono ?_
  rintro r w2 ⟨rfl, rfl⟩
  exact ⟨rfl, .no HE.out (by decide) HK1.out⟩

set_option maxRecDepth 20000 in
set_option maxHeartbeats 2000000 in
/-- What Apply attempts: bytes of another length. -/
theorem uApp1B (bN bE bM bO : Nat) (ao : Option Addr) (L cap : Nat) (ns : List Nat) (e : Nat) (bo : Option Addr) (M dap : Nat) (ms : List Nat) (w : World) (_ : e < 18446744073709551616) (hu : Row .u64 w (.slice ao L cap) ns) (hd : Digs 18446744073709551616 ns) (hL : L ≤ 1000) (hv : Row .u8 w (.slice bo M dap) ms) (_ : Digs 256 ms) (_ : M ≤ 10000) (b0 : w.cell? ⟨bN, 0, none⟩ = some (.slice ao L cap)) (b1 : w.cell? ⟨bE, 0, none⟩ = some (.int .u64 (e : Int))) (b2 : w.cell? ⟨bM, 0, none⟩ = some (.slice bo M dap)) (hE : pubE ns e = 0) (hS : M ≠ sizeN (val 18446744073709551616 ns)) :
    Calls Tryz.prog 19 #[.pointer (some ⟨bN, 0, none⟩), .pointer (some ⟨bE, 0, none⟩), .pointer (some ⟨bM, 0, none⟩), .pointer (some ⟨bO, 0, none⟩)] w fun r w' => AppEnd bO ns e ms w r w' := by
  obtain ⟨_, _, _, e1, hM2, -, -, -, -⟩ := hv.open
  cases e1
  have HE : Hid (appE ns e ms = 1) := by unfold Hid appE numE; rw [if_pos hE, if_neg (by rw [hM2.out]; exact fun h => hS h.1)]
  have J1 := kPub ao L cap ns e w hu hd hL
  have JS := toHid fun W (k : Kept Nought w W) => kSiz ao L cap ns W (hu.grew k) hd hL
  rw [hE] at J1
  have hR := uRefuseNo 0
  have hY := uRefuseYes 1
  generalize sizeN (val 18446744073709551616 ns) = z at *
  have hne : ¬ (M : Int) = (z : Int) := by omega
  have hnb : ((M : Int) != (z : Int)) = true := by simp; omega
  clear hu hd hL hv hE hS hM2
  go_enter Tryz.func19, Tryz.ntmps19
  go_wp2_with fail
  refine J1.mono ?_
  rintro r w1 ⟨rfl, k1⟩
  have HK1 := toHid k1
  clear J1 k1
  go_wp2_with fail
  refine (hR _).mono ?_
  rintro r w2 ⟨rfl, rfl⟩
  have J2 := JS.out _ HK1.out
  have b0 := HK1.out.cellN b0
  clear JS hR
  go_wp2_with fail
  refine J2.mono ?_
  rintro r w3 ⟨rfl, k3⟩
  have HK3 := toHid (HK1.out.trans k3)
  have b2 := HK3.out.cellN b2
  clear J2 k3
  go_wp2_with fail
  try rw [hnb]
  refine (hY _).mono ?_
  rintro r w4 ⟨rfl, rfl⟩
  exact ⟨rfl, .no HE.out (by decide) HK3.out⟩

set_option maxRecDepth 20000 in
set_option maxHeartbeats 4000000 in
/-- What Apply attempts: a number that isn't below the modulus. -/
theorem uApp1C (bN bE bM bO : Nat) (ao : Option Addr) (L cap : Nat) (ns : List Nat) (e : Nat) (bo : Option Addr) (M dap : Nat) (ms : List Nat) (w : World) (he : e < 18446744073709551616) (hu : Row .u64 w (.slice ao L cap) ns) (hd : Digs 18446744073709551616 ns) (hL : L ≤ 1000) (hv : Row .u8 w (.slice bo M dap) ms) (hdm : Digs 256 ms) (_ : M ≤ 10000) (b0 : w.cell? ⟨bN, 0, none⟩ = some (.slice ao L cap)) (b1 : w.cell? ⟨bE, 0, none⟩ = some (.int .u64 (e : Int))) (b2 : w.cell? ⟨bM, 0, none⟩ = some (.slice bo M dap)) (hE : pubE ns e = 0) (hS : M = sizeN (val 18446744073709551616 ns)) (hlt : ¬ bev ms < val 18446744073709551616 ns) :
    Calls Tryz.prog 19 #[.pointer (some ⟨bN, 0, none⟩), .pointer (some ⟨bE, 0, none⟩), .pointer (some ⟨bM, 0, none⟩), .pointer (some ⟨bO, 0, none⟩)] w fun r w' => AppEnd bO ns e ms w r w' := by
  obtain ⟨_, _, _, e1, hL2, -, -, -, -⟩ := hu.open
  cases e1
  obtain ⟨_, _, _, e1, hM2, -, -, -, -⟩ := hv.open
  cases e1
  obtain ⟨N, hN⟩ : ∃ N, N = val 18446744073709551616 ns := ⟨_, rfl⟩
  obtain ⟨X, hX⟩ : ∃ X, X = bev ms := ⟨_, rfl⟩
  have hiff := (pub_iff hd (by rw [hL2.out]; exact hL) e).1 hE
  rw [← hN] at hiff hS
  obtain ⟨⟨hb1, hb2⟩, ⟨hW, ho⟩, -⟩ := hiff
  rw [hL2.out] at hW
  have hL128 : L ≤ 128 := by rw [hW]; exact words_of_bits (n := 128) (by omega)
  have hN2 : 2 ≤ N := Nat.le_of_not_lt fun h => by
    have h1 := (blen_le N 1).2 (by omega)
    omega
  have hmE := mont_good hN2 ho (by omega)
  have hlm : M ≤ 8 * L := by
    have h1 : blen N ≤ 64 * L := (blen_le _ _).2 (by rw [hN, ← hL2.out, Nat.pow_mul]; exact val_lt (by omega) hd)
    rw [hS]
    unfold sizeN
    omega
  have hXl : X < 18446744073709551616 ^ L := by
    rw [hX]
    refine Nat.lt_of_lt_of_le (bev_ltB hdm) ?_
    rw [hM2.out, show (18446744073709551616 : Nat) ^ L = 256 ^ (8 * L) by rw [Nat.pow_mul]]
    exact Nat.pow_le_pow_right (by omega) hlm
  obtain ⟨hrc, hrl⟩ := fits_res hXl (by omega : L ≤ 300)
  have vX : val 18446744073709551616 (digs 18446744073709551616 X L) = X := by rw [val_digs, Nat.mod_eq_of_lt hXl]
  have J1 := kPub ao L cap ns e w hu hd hL
  rw [hE] at J1
  have JS := toHid fun W (k : Kept Nought w W) => kSiz ao L cap ns W (hu.grew k) hd hL
  rw [← hN] at JS
  obtain ⟨z, hz⟩ : ∃ z, z = sizeN N := ⟨_, rfl⟩
  rw [← hz] at JS hS
  have JM : Hid (∀ W, Kept Nought w W → Calls Tryz.prog 26 #[.slice ao L cap] W fun e w' => ∃ a K b, e = .returned (.tuple #[.agg #[a, .int .u64 (K : Nat), b], .int .i64 ((0 : Nat) : Int)]) ∧ Row .u64 w' a (modM N) ∧ Row .u64 w' b (modR N) ∧ isKf N K ∧ Kept Nought W w') := fun W (k : Kept Nought w W) => mSetup ao L cap ns N 0 hN hmE.symm W (hu.grew k) hd (by omega)
  have JN : Hid (∀ W, Kept Nought w W → Calls Tryz.prog 27 #[.slice bo M dap, .int .i64 (L : Int)] W fun r w' => ∃ v', r = .returned (.tuple #[v', .int .i64 0]) ∧ Row .u64 w' v' (digs 18446744073709551616 X L) ∧ Kept Nought W w') := fun W k => by
    have h := nOf (.slice bo M dap) ms (L : Int) W (hv.grew k) hdm
    rw [← hX, hrc, hrl] at h
    exact h
  have HE : Hid (appE ns e ms = 1) := by unfold Hid appE numE; rw [if_pos hE, if_neg (fun h => hlt h.2)]
  rw [← hN, ← hX] at hlt
  have JX : Hid (∀ W (sa sb so : Option Addr) (na nb ca cb no sc K : Nat), isKf N K → Row .u64 W (.slice sa na ca) (modM N) → Row .u64 W (.slice sb nb cb) (modR N) → Row .u64 W (.slice so no sc) (digs 18446744073709551616 X L) → Calls Tryz.prog 24 #[.agg #[.slice sa na ca, .int .u64 (K : Nat), .slice sb nb cb], .slice so no sc, .int .u64 (e : Nat)] W fun r w' => ∃ v', r = .returned (.tuple #[v', .int .i64 1]) ∧ (∃ xo xn xc, v' = .slice xo xn xc) ∧ Kept Nought W w') := fun W sa sb so na nb ca cb no sc K hK h1 h3 h4 => by
    obtain ⟨ok1, ok2, ok3, ok4, ok5, ok6⟩ := setup_ok hmE hK
    obtain ⟨_, _, _, e1, hla, -, -, -, -⟩ := h1.open
    cases e1
    obtain ⟨_, _, _, e1, hlo, -, -, -, -⟩ := h4.open
    cases e1
    obtain rfl : L = na := by rw [← hla.out, ok2, hW]
    obtain rfl : L = no := by rw [← hlo.out, digs_length]
    refine (sExp sa sb so L nb K ca cb L sc e (modM N) (modR N) (digs 18446744073709551616 X L) 1 (by rw [vX, ok4]; exact iff_of_false (by decide) (fun h => hlt h.2.2)) (by omega) _ rfl W h1 h3 h4 ok5 ok6 (digs_digs (by omega) _ _) he hK.1 (by omega)).mono ?_
    rintro r w' ⟨v', rfl, hr, k⟩
    obtain ⟨xo, xn, xc, rfl, -⟩ := hr.open
    exact ⟨_, rfl, ⟨_, _, _, rfl⟩, k⟩
  have hR := uRefuseNo 0
  have hR1 := uRefuseNo 1
  have hne : (M : Int) = (z : Int) := by omega
  have hnb : ((M : Int) != (z : Int)) = false := by simp; omega
  clear hu hd hv hdm he hE hS hM2 hL2 hN hX hb1 hb2 hW ho hL128 hN2 hmE hlm hXl hrc hrl vX hz hlt hL
  go_enter Tryz.func19, Tryz.ntmps19
  go_wp2_with fail
  refine J1.mono ?_
  rintro r w1 ⟨rfl, k1⟩
  have HK1 := toHid k1
  clear J1 k1
  go_wp2_with fail
  refine (hR _).mono ?_
  rintro r w2 ⟨rfl, rfl⟩
  have J2 := JS.out _ HK1.out
  have b01 := HK1.out.cellN b0
  clear JS
  go_wp2_with fail
  refine J2.mono ?_
  rintro r w3 ⟨rfl, k3⟩
  have HK3 := toHid (HK1.out.trans k3)
  have b03 := HK3.out.cellN b0
  have b13 := HK3.out.cellN b1
  have b23 := HK3.out.cellN b2
  clear J2 k3 b0 b1 b2 b01 HK1
  go_wp2_with fail
  try rw [hnb]
  refine (hR1 _).mono ?_
  rintro r w4 ⟨rfl, rfl⟩
  clear hne hnb
  go_wp2_with fail
  have KD := HK3.out.drew
  refine wp_region_held_drew (S := fun w' => w'.cell? ⟨bN, 0, none⟩ = some (.slice ao L cap) ∧ w'.cell? ⟨bE, 0, none⟩ = some (.int .u64 (e : Int)) ∧ w'.cell? ⟨bM, 0, none⟩ = some (.slice bo M dap)) (by kernel_rfl) ⟨b03, b13, b23⟩ (fun hS => ?_)
  refine takeH 0 (some 21) (.slice ao L cap) rfl rfl (by kernel_rfl) (by kernel_rfl) (by kernel_rfl) (fun _ _ _ h => h) (.inl ⟨by rfl, fun w h => by simp [execOp, go_sem, h.1]⟩) hS ?_
  simp only [Act.put, List.setIfInBounds_toArray, List.set_cons_succ, List.set_cons_zero]
  refine takeH 5 (some 26) (.slice bo M dap) rfl rfl (by kernel_rfl) (by kernel_rfl) (by kernel_rfl) (fun _ _ _ h => h) (.inl ⟨by rfl, fun w h => by simp [execOp, go_sem, h.2.2]⟩) hS ?_
  simp only [Act.put, List.setIfInBounds_toArray, List.set_cons_succ, List.set_cons_zero]
  refine takeH 6 (some 27) (.slice ao L cap) rfl rfl (by kernel_rfl) (by kernel_rfl) (by kernel_rfl) (fun _ _ _ h => h) (.inl ⟨by rfl, fun w h => by simp [execOp, go_sem, h.1]⟩) hS ?_
  simp only [Act.put, List.setIfInBounds_toArray, List.set_cons_succ, List.set_cons_zero]
  refine takeH 7 (some 28) (.int .i64 (L : Int)) rfl rfl (by kernel_rfl) (by kernel_rfl) (by kernel_rfl) (fun _ _ _ h => h) (.inl ⟨by rfl, fun w h => by simp [execOp, go_sem]⟩) hS ?_
  simp only [Act.put, List.setIfInBounds_toArray, List.set_cons_succ, List.set_cons_zero]
  refine takeH 12 (some 33) (.int .u64 (e : Int)) rfl rfl (by kernel_rfl) (by kernel_rfl) (by kernel_rfl) (fun _ _ _ h => h) (.inl ⟨by rfl, fun w h => by simp [execOp, go_sem, h.2.1]⟩) hS ?_
  simp only [Act.put, List.setIfInBounds_toArray, List.set_cons_succ, List.set_cons_zero]
  refine callG 1 (some 22) (by kernel_rfl) rfl rfl (by rfl) 26 _ _ [.slice ao L cap] rfl rfl (fun _ _ => by simp [go_sem]) (JM.out _ KD) ?_
  rintro r w5 ⟨va, K, vb, rfl, ra, rb, hK, k5⟩
  obtain ⟨sa, na, ca, rfl, -⟩ := ra.open
  obtain ⟨sb, nb, cb, rfl, -⟩ := rb.open
  have KD5 := KD.trans k5
  have hS5 := And.intro (k5.cellN hS.1) (And.intro (k5.cellN hS.2.1) (k5.cellN hS.2.2))

  refine .inl ⟨_, rfl, hS5, ?_⟩
  simp only [Act.put, List.setIfInBounds_toArray, List.set_cons_succ, List.set_cons_zero]
  refine takeH 2 (some 23) (.agg #[.slice sa na ca, .int .u64 (K : Nat), .slice sb nb cb]) rfl rfl (by kernel_rfl) (by kernel_rfl) (by kernel_rfl) (fun _ _ _ h => h) (.inl ⟨by rfl, fun w h => by simp [execOp, go_sem]⟩) hS5 ?_
  simp only [Act.put, List.setIfInBounds_toArray, List.set_cons_succ, List.set_cons_zero]
  refine takeH 3 (some 24) (.int .i64 0) rfl rfl (by kernel_rfl) (by kernel_rfl) (by kernel_rfl) (fun _ _ _ h => h) (.inl ⟨by rfl, fun w h => by simp [execOp, go_sem]⟩) hS5 ?_
  simp only [Act.put, List.setIfInBounds_toArray, List.set_cons_succ, List.set_cons_zero]
  refine callG 4 (some 25) (by kernel_rfl) rfl rfl (by rfl) 25 _ _ [.agg #[.slice sa na ca, .int .u64 (K : Nat), .slice sb nb cb], .int .i64 0] rfl rfl (fun _ _ => by simp [go_sem]) (uStepM sa sb na ca K nb cb _) ?_
  rintro r w6 ⟨rfl, k6⟩
  have KD6 := KD5.trans k6
  have hS6 := And.intro (k6.cellN hS5.1) (And.intro (k6.cellN hS5.2.1) (k6.cellN hS5.2.2))

  refine .inl ⟨_, rfl, hS6, ?_⟩
  simp only [Act.put, List.setIfInBounds_toArray, List.set_cons_succ, List.set_cons_zero]
  refine callG 8 (some 29) (by kernel_rfl) rfl rfl (by rfl) 27 _ _ [.slice bo M dap, .int .i64 (L : Int)] rfl rfl (fun _ _ => by simp [go_sem]) (JN.out _ KD6) ?_
  rintro r w7 ⟨vo, rfl, ro, k7⟩
  obtain ⟨so, no, sc, rfl, -⟩ := ro.open
  have KD7 := KD6.trans k7
  have hS7 := And.intro (k7.cellN hS6.1) (And.intro (k7.cellN hS6.2.1) (k7.cellN hS6.2.2))

  refine .inl ⟨_, rfl, hS7, ?_⟩
  simp only [Act.put, List.setIfInBounds_toArray, List.set_cons_succ, List.set_cons_zero]
  refine takeH 9 (some 30) (.slice so no sc) rfl rfl (by kernel_rfl) (by kernel_rfl) (by kernel_rfl) (fun _ _ _ h => h) (.inl ⟨by rfl, fun w h => by simp [execOp, go_sem]⟩) hS7 ?_
  simp only [Act.put, List.setIfInBounds_toArray, List.set_cons_succ, List.set_cons_zero]
  refine takeH 10 (some 31) (.int .i64 0) rfl rfl (by kernel_rfl) (by kernel_rfl) (by kernel_rfl) (fun _ _ _ h => h) (.inl ⟨by rfl, fun w h => by simp [execOp, go_sem]⟩) hS7 ?_
  simp only [Act.put, List.setIfInBounds_toArray, List.set_cons_succ, List.set_cons_zero]
  refine callG 11 (some 32) (by kernel_rfl) rfl rfl (by rfl) 23 _ _ [.slice so no sc, .int .i64 0] rfl rfl (fun _ _ => by simp [go_sem]) (uStepN so no sc _) ?_
  rintro r w8 ⟨rfl, rfl⟩
  refine .inl ⟨_, rfl, hS7, ?_⟩
  simp only [Act.put, List.setIfInBounds_toArray, List.set_cons_succ, List.set_cons_zero]
  refine callG 13 (some 34) (by kernel_rfl) rfl rfl (by rfl) 24 _ _ [.agg #[.slice sa na ca, .int .u64 (K : Nat), .slice sb nb cb], .slice so no sc, .int .u64 (e : Int)] rfl rfl (fun _ _ => by simp [go_sem]) (JX.out _ sa sb so na nb ca cb no sc K hK (ra.grew (k6.trans k7)) (rb.grew (k6.trans k7)) ro) ?_
  rintro r w9 ⟨vx, rfl, ⟨xo, xn, xc, rfl⟩, k9⟩
  have KD9 := KD7.trans k9
  have hS9 := And.intro (k9.cellN hS7.1) (And.intro (k9.cellN hS7.2.1) (k9.cellN hS7.2.2))

  refine .inl ⟨_, rfl, hS9, ?_⟩
  simp only [Act.put, List.setIfInBounds_toArray, List.set_cons_succ, List.set_cons_zero]
  refine takeH 14 (some 35) (.slice xo xn xc) rfl rfl (by kernel_rfl) (by kernel_rfl) (by kernel_rfl) (fun _ _ _ h => h) (.inl ⟨by rfl, fun w h => by simp [execOp, go_sem]⟩) hS9 ?_
  simp only [Act.put, List.setIfInBounds_toArray, List.set_cons_succ, List.set_cons_zero]
  refine takeH 15 (some 36) (.int .i64 1) rfl rfl (by kernel_rfl) (by kernel_rfl) (by kernel_rfl) (fun _ _ _ h => h) (.inl ⟨by rfl, fun w h => by simp [execOp, go_sem]⟩) hS9 ?_
  simp only [Act.put, List.setIfInBounds_toArray, List.set_cons_succ, List.set_cons_zero]
  refine callG 16 (some 37) (by kernel_rfl) rfl rfl (by rfl) 23 _ _ [.slice xo xn xc, .int .i64 1] rfl rfl (fun _ _ => by simp [go_sem]) (uStepNE xo xn xc 1 (by decide) _) ?_
  rintro r w10 ⟨rfl, rfl⟩
  exact .inr ⟨_, rfl, rfl, .no HE.out (by decide) KD9⟩

set_option maxRecDepth 20000 in
set_option maxHeartbeats 4000000 in
/-- What Apply attempts: the power. -/
theorem uApp1D (bN bE bM bO : Nat) (ao : Option Addr) (L cap : Nat) (ns : List Nat) (e : Nat) (bo : Option Addr) (M dap : Nat) (ms : List Nat) (w : World) (he : e < 18446744073709551616) (hu : Row .u64 w (.slice ao L cap) ns) (hd : Digs 18446744073709551616 ns) (hL : L ≤ 1000) (hv : Row .u8 w (.slice bo M dap) ms) (hdm : Digs 256 ms) (hM : M ≤ 10000) (b0 : w.cell? ⟨bN, 0, none⟩ = some (.slice ao L cap)) (b1 : w.cell? ⟨bE, 0, none⟩ = some (.int .u64 (e : Int))) (b2 : w.cell? ⟨bM, 0, none⟩ = some (.slice bo M dap)) (bxO : Box w bO (.slice none 0 0) 25) (hE : pubE ns e = 0) (hS : M = sizeN (val 18446744073709551616 ns)) (hlt : bev ms < val 18446744073709551616 ns) :
    Calls Tryz.prog 19 #[.pointer (some ⟨bN, 0, none⟩), .pointer (some ⟨bE, 0, none⟩), .pointer (some ⟨bM, 0, none⟩), .pointer (some ⟨bO, 0, none⟩)] w fun r w' => AppEnd bO ns e ms w r w' := by
  obtain ⟨_, _, _, e1, hL2, -, -, -, -⟩ := hu.open
  cases e1
  obtain ⟨_, _, _, e1, hM2, -, -, -, -⟩ := hv.open
  cases e1
  obtain ⟨N, hN⟩ : ∃ N, N = val 18446744073709551616 ns := ⟨_, rfl⟩
  obtain ⟨X, hX⟩ : ∃ X, X = bev ms := ⟨_, rfl⟩
  have hiff := (pub_iff hd (by rw [hL2.out]; exact hL) e).1 hE
  rw [← hN] at hiff hS
  obtain ⟨⟨hb1, hb2⟩, ⟨hW, ho⟩, -⟩ := hiff
  rw [hL2.out] at hW
  have hL128 : L ≤ 128 := by rw [hW]; exact words_of_bits (n := 128) (by omega)
  have hN2 : 2 ≤ N := Nat.le_of_not_lt fun h => by
    have h1 := (blen_le N 1).2 (by omega)
    omega
  have hmE := mont_good hN2 ho (by omega)
  have hlm : M ≤ 8 * L := by
    have h1 : blen N ≤ 64 * L := (blen_le _ _).2 (by rw [hN, ← hL2.out, Nat.pow_mul]; exact val_lt (by omega) hd)
    rw [hS]
    unfold sizeN
    omega
  have hXl : X < 18446744073709551616 ^ L := by
    rw [hX]
    refine Nat.lt_of_lt_of_le (bev_ltB hdm) ?_
    rw [hM2.out, show (18446744073709551616 : Nat) ^ L = 256 ^ (8 * L) by rw [Nat.pow_mul]]
    exact Nat.pow_le_pow_right (by omega) hlm
  obtain ⟨hrc, hrl⟩ := fits_res hXl (by omega : L ≤ 300)
  have vX : val 18446744073709551616 (digs 18446744073709551616 X L) = X := by rw [val_digs, Nat.mod_eq_of_lt hXl]
  have J1 := kPub ao L cap ns e w hu hd hL
  rw [hE] at J1
  have JS := toHid fun W (k : Kept Nought w W) => kSiz ao L cap ns W (hu.grew k) hd hL
  rw [← hN] at JS
  obtain ⟨z, hz⟩ : ∃ z, z = sizeN N := ⟨_, rfl⟩
  rw [← hz] at JS hS
  have JM : Hid (∀ W, Kept Nought w W → Calls Tryz.prog 26 #[.slice ao L cap] W fun e w' => ∃ a K b, e = .returned (.tuple #[.agg #[a, .int .u64 (K : Nat), b], .int .i64 ((0 : Nat) : Int)]) ∧ Row .u64 w' a (modM N) ∧ Row .u64 w' b (modR N) ∧ isKf N K ∧ Kept Nought W w') := fun W (k : Kept Nought w W) => mSetup ao L cap ns N 0 hN hmE.symm W (hu.grew k) hd (by omega)
  have JN : Hid (∀ W, Kept Nought w W → Calls Tryz.prog 27 #[.slice bo M dap, .int .i64 (L : Int)] W fun r w' => ∃ v', r = .returned (.tuple #[v', .int .i64 0]) ∧ Row .u64 w' v' (digs 18446744073709551616 X L) ∧ Kept Nought W w') := fun W k => by
    have h := nOf (.slice bo M dap) ms (L : Int) W (hv.grew k) hdm
    rw [← hX, hrc, hrl] at h
    exact h
  have HE : Hid (appE ns e ms = 0) := by unfold Hid appE numE; rw [if_pos hE, if_pos ⟨by rw [hM2.out, hS, hz, hN], hlt⟩]
  have HAL : Hid (appL ns e ms = bes (X ^ e % N) z z) := by unfold Hid appL; rw [if_pos HE.out, hX, hN, hM2.out, hS]
  rw [← hN, ← hX] at hlt
  have JX : Hid (∀ W (sa sb so : Option Addr) (na nb ca cb no sc K : Nat), isKf N K → Row .u64 W (.slice sa na ca) (modM N) → Row .u64 W (.slice sb nb cb) (modR N) → Row .u64 W (.slice so no sc) (digs 18446744073709551616 X L) → Calls Tryz.prog 24 #[.agg #[.slice sa na ca, .int .u64 (K : Nat), .slice sb nb cb], .slice so no sc, .int .u64 (e : Nat)] W fun r w' => ∃ v', r = .returned (.tuple #[v', .int .i64 0]) ∧ Row .u64 w' v' (digs 18446744073709551616 (X ^ e % N) L) ∧ Kept Nought W w') := fun W sa sb so na nb ca cb no sc K hK h1 h3 h4 => by
    obtain ⟨ok1, ok2, ok3, ok4, ok5, ok6⟩ := setup_ok hmE hK
    obtain ⟨_, _, _, e1, hla, -, -, -, -⟩ := h1.open
    cases e1
    obtain ⟨_, _, _, e1, hlo, -, -, -, -⟩ := h4.open
    cases e1
    obtain rfl : L = na := by rw [← hla.out, ok2, hW]
    obtain rfl : L = no := by rw [← hlo.out, digs_length]
    refine (sExp sa sb so L nb K ca cb L sc e (modM N) (modR N) (digs 18446744073709551616 X L) 0 (by rw [vX, ok4]; exact iff_of_true rfl ⟨ok1, rfl, hlt⟩) (by omega) _ rfl W h1 h3 h4 ok5 ok6 (digs_digs (by omega) _ _) he hK.1 (by omega)).mono ?_
    rintro r w' ⟨v', rfl, hr, k⟩
    rw [if_pos rfl, vX, ok4] at hr
    exact ⟨_, rfl, hr, k⟩
  have hPl : X ^ e % N < 18446744073709551616 ^ L := Nat.lt_of_lt_of_le (Nat.mod_lt _ (by omega)) (by rw [hN, ← hL2.out]; exact Nat.le_of_lt (val_lt (by omega) hd))
  have hPb : (blen (X ^ e % N) + 7) / 8 ≤ z := by
    have h1 : blen (X ^ e % N) ≤ blen N := (blen_le _ _).2 (Nat.lt_trans (Nat.mod_lt _ (by omega)) ((blen_le N _).1 (Nat.le_refl _)))
    rw [hz]
    unfold sizeN
    omega
  obtain ⟨hbc, hbl⟩ := byt_ok (V := X ^ e % N) (len := L) (n := z) (by omega) (by omega) hPb
  have JB : Hid (∀ W (xo : Option Addr) (xn xc : Nat), Row .u64 W (.slice xo xn xc) (digs 18446744073709551616 (X ^ e % N) L) → Calls Tryz.prog 29 #[.slice xo xn xc, .int .i64 (z : Int)] W fun r w' => ∃ v', r = .returned (.tuple #[v', .int .i64 0]) ∧ Row .u8 w' v' (bes (X ^ e % N) z z) ∧ Fresh W v' ∧ Kept Nought W w') := fun W xo xn xc h => by
    have h := nBytesF _ _ (z : Int) W h (digs_digs (by omega) _ _) (by rw [digs_length]; omega)
    rw [val_digs, Nat.mod_eq_of_lt hPl, digs_length, hbc, hbl] at h
    exact h
  have hR := uRefuseNo 0
  have hR1 := uRefuseNo 1
  have hne : (M : Int) = (z : Int) := by omega
  have hnb : ((M : Int) != (z : Int)) = false := by simp; omega
  clear hu hd hv hdm he hE hS hM2 hL2 hN hX hb1 hb2 hW ho hL128 hN2 hmE hlm hXl hrc hrl vX hz hlt hL hM hPl hPb hbc hbl
  go_enter Tryz.func19, Tryz.ntmps19
  go_wp2_with fail
  refine J1.mono ?_
  rintro r w1 ⟨rfl, k1⟩
  have HK1 := toHid k1
  clear J1 k1
  go_wp2_with fail
  refine (hR _).mono ?_
  rintro r w2 ⟨rfl, rfl⟩
  have J2 := JS.out _ HK1.out
  have b01 := HK1.out.cellN b0
  clear JS
  go_wp2_with fail
  refine J2.mono ?_
  rintro r w3 ⟨rfl, k3⟩
  have HK3 := toHid (HK1.out.trans k3)
  have b03 := HK3.out.cellN b0
  have b13 := HK3.out.cellN b1
  have b23 := HK3.out.cellN b2
  clear J2 k3 b0 b1 b2 b01 HK1
  go_wp2_with fail
  try rw [hnb]
  refine (hR1 _).mono ?_
  rintro r w4 ⟨rfl, rfl⟩
  clear hne hnb
  go_wp2_with fail
  have KD := HK3.out.drew
  refine wp_region_held_drew (S := fun w' => w'.cell? ⟨bN, 0, none⟩ = some (.slice ao L cap) ∧ w'.cell? ⟨bE, 0, none⟩ = some (.int .u64 (e : Int)) ∧ w'.cell? ⟨bM, 0, none⟩ = some (.slice bo M dap)) (by kernel_rfl) ⟨b03, b13, b23⟩ (fun hS => ?_)
  refine takeH 0 (some 21) (.slice ao L cap) rfl rfl (by kernel_rfl) (by kernel_rfl) (by kernel_rfl) (fun _ _ _ h => h) (.inl ⟨by rfl, fun w h => by simp [execOp, go_sem, h.1]⟩) hS ?_
  simp only [Act.put, List.setIfInBounds_toArray, List.set_cons_succ, List.set_cons_zero]
  refine takeH 5 (some 26) (.slice bo M dap) rfl rfl (by kernel_rfl) (by kernel_rfl) (by kernel_rfl) (fun _ _ _ h => h) (.inl ⟨by rfl, fun w h => by simp [execOp, go_sem, h.2.2]⟩) hS ?_
  simp only [Act.put, List.setIfInBounds_toArray, List.set_cons_succ, List.set_cons_zero]
  refine takeH 6 (some 27) (.slice ao L cap) rfl rfl (by kernel_rfl) (by kernel_rfl) (by kernel_rfl) (fun _ _ _ h => h) (.inl ⟨by rfl, fun w h => by simp [execOp, go_sem, h.1]⟩) hS ?_
  simp only [Act.put, List.setIfInBounds_toArray, List.set_cons_succ, List.set_cons_zero]
  refine takeH 7 (some 28) (.int .i64 (L : Int)) rfl rfl (by kernel_rfl) (by kernel_rfl) (by kernel_rfl) (fun _ _ _ h => h) (.inl ⟨by rfl, fun w h => by simp [execOp, go_sem]⟩) hS ?_
  simp only [Act.put, List.setIfInBounds_toArray, List.set_cons_succ, List.set_cons_zero]
  refine takeH 12 (some 33) (.int .u64 (e : Int)) rfl rfl (by kernel_rfl) (by kernel_rfl) (by kernel_rfl) (fun _ _ _ h => h) (.inl ⟨by rfl, fun w h => by simp [execOp, go_sem, h.2.1]⟩) hS ?_
  simp only [Act.put, List.setIfInBounds_toArray, List.set_cons_succ, List.set_cons_zero]
  refine callG 1 (some 22) (by kernel_rfl) rfl rfl (by rfl) 26 _ _ [.slice ao L cap] rfl rfl (fun _ _ => by simp [go_sem]) (JM.out _ KD) ?_
  rintro r w5 ⟨va, K, vb, rfl, ra, rb, hK, k5⟩
  obtain ⟨sa, na, ca, rfl, -⟩ := ra.open
  obtain ⟨sb, nb, cb, rfl, -⟩ := rb.open
  have KD5 := KD.trans k5
  have hS5 := And.intro (k5.cellN hS.1) (And.intro (k5.cellN hS.2.1) (k5.cellN hS.2.2))

  refine .inl ⟨_, rfl, hS5, ?_⟩
  simp only [Act.put, List.setIfInBounds_toArray, List.set_cons_succ, List.set_cons_zero]
  refine takeH 2 (some 23) (.agg #[.slice sa na ca, .int .u64 (K : Nat), .slice sb nb cb]) rfl rfl (by kernel_rfl) (by kernel_rfl) (by kernel_rfl) (fun _ _ _ h => h) (.inl ⟨by rfl, fun w h => by simp [execOp, go_sem]⟩) hS5 ?_
  simp only [Act.put, List.setIfInBounds_toArray, List.set_cons_succ, List.set_cons_zero]
  refine takeH 3 (some 24) (.int .i64 0) rfl rfl (by kernel_rfl) (by kernel_rfl) (by kernel_rfl) (fun _ _ _ h => h) (.inl ⟨by rfl, fun w h => by simp [execOp, go_sem]⟩) hS5 ?_
  simp only [Act.put, List.setIfInBounds_toArray, List.set_cons_succ, List.set_cons_zero]
  refine callG 4 (some 25) (by kernel_rfl) rfl rfl (by rfl) 25 _ _ [.agg #[.slice sa na ca, .int .u64 (K : Nat), .slice sb nb cb], .int .i64 0] rfl rfl (fun _ _ => by simp [go_sem]) (uStepM sa sb na ca K nb cb _) ?_
  rintro r w6 ⟨rfl, k6⟩
  have KD6 := KD5.trans k6
  have hS6 := And.intro (k6.cellN hS5.1) (And.intro (k6.cellN hS5.2.1) (k6.cellN hS5.2.2))

  refine .inl ⟨_, rfl, hS6, ?_⟩
  simp only [Act.put, List.setIfInBounds_toArray, List.set_cons_succ, List.set_cons_zero]
  refine callG 8 (some 29) (by kernel_rfl) rfl rfl (by rfl) 27 _ _ [.slice bo M dap, .int .i64 (L : Int)] rfl rfl (fun _ _ => by simp [go_sem]) (JN.out _ KD6) ?_
  rintro r w7 ⟨vo, rfl, ro, k7⟩
  obtain ⟨so, no, sc, rfl, -⟩ := ro.open
  have KD7 := KD6.trans k7
  have hS7 := And.intro (k7.cellN hS6.1) (And.intro (k7.cellN hS6.2.1) (k7.cellN hS6.2.2))

  refine .inl ⟨_, rfl, hS7, ?_⟩
  simp only [Act.put, List.setIfInBounds_toArray, List.set_cons_succ, List.set_cons_zero]
  refine takeH 9 (some 30) (.slice so no sc) rfl rfl (by kernel_rfl) (by kernel_rfl) (by kernel_rfl) (fun _ _ _ h => h) (.inl ⟨by rfl, fun w h => by simp [execOp, go_sem]⟩) hS7 ?_
  simp only [Act.put, List.setIfInBounds_toArray, List.set_cons_succ, List.set_cons_zero]
  refine takeH 10 (some 31) (.int .i64 0) rfl rfl (by kernel_rfl) (by kernel_rfl) (by kernel_rfl) (fun _ _ _ h => h) (.inl ⟨by rfl, fun w h => by simp [execOp, go_sem]⟩) hS7 ?_
  simp only [Act.put, List.setIfInBounds_toArray, List.set_cons_succ, List.set_cons_zero]
  refine callG 11 (some 32) (by kernel_rfl) rfl rfl (by rfl) 23 _ _ [.slice so no sc, .int .i64 0] rfl rfl (fun _ _ => by simp [go_sem]) (uStepN so no sc _) ?_
  rintro r w8 ⟨rfl, rfl⟩
  refine .inl ⟨_, rfl, hS7, ?_⟩
  simp only [Act.put, List.setIfInBounds_toArray, List.set_cons_succ, List.set_cons_zero]
  refine callG 13 (some 34) (by kernel_rfl) rfl rfl (by rfl) 24 _ _ [.agg #[.slice sa na ca, .int .u64 (K : Nat), .slice sb nb cb], .slice so no sc, .int .u64 (e : Int)] rfl rfl (fun _ _ => by simp [go_sem]) (JX.out _ sa sb so na nb ca cb no sc K hK (ra.grew (k6.trans k7)) (rb.grew (k6.trans k7)) ro) ?_
  rintro r w9 ⟨vx, rfl, rx, k9⟩
  obtain ⟨xo, xn, xc, rfl, -⟩ := rx.open
  have KD9 := KD7.trans k9
  have hS9 := And.intro (k9.cellN hS7.1) (And.intro (k9.cellN hS7.2.1) (k9.cellN hS7.2.2))

  refine .inl ⟨_, rfl, hS9, ?_⟩
  simp only [Act.put, List.setIfInBounds_toArray, List.set_cons_succ, List.set_cons_zero]
  refine takeH 14 (some 35) (.slice xo xn xc) rfl rfl (by kernel_rfl) (by kernel_rfl) (by kernel_rfl) (fun _ _ _ h => h) (.inl ⟨by rfl, fun w h => by simp [execOp, go_sem]⟩) hS9 ?_
  simp only [Act.put, List.setIfInBounds_toArray, List.set_cons_succ, List.set_cons_zero]
  refine takeH 15 (some 36) (.int .i64 0) rfl rfl (by kernel_rfl) (by kernel_rfl) (by kernel_rfl) (fun _ _ _ h => h) (.inl ⟨by rfl, fun w h => by simp [execOp, go_sem]⟩) hS9 ?_
  simp only [Act.put, List.setIfInBounds_toArray, List.set_cons_succ, List.set_cons_zero]
  refine callG 16 (some 37) (by kernel_rfl) rfl rfl (by rfl) 23 _ _ [.slice xo xn xc, .int .i64 0] rfl rfl (fun _ _ => by simp [go_sem]) (uStepN xo xn xc _) ?_
  rintro r w10 ⟨rfl, rfl⟩
  refine .inl ⟨_, rfl, hS9, ?_⟩
  simp only [Act.put, List.setIfInBounds_toArray, List.set_cons_succ, List.set_cons_zero]
  refine takeH 17 (some 6) (.slice xo xn xc) rfl rfl (by kernel_rfl) (by kernel_rfl) (by kernel_rfl) (fun _ _ _ h => h) (.inl ⟨by rfl, fun w h => by simp [execOp, go_sem]⟩) hS9 ?_
  simp only [Act.put, List.setIfInBounds_toArray, List.set_cons_succ, List.set_cons_zero]
  refine wpAnyH_done (by kernel_rfl) ?_ _
  have HK9 := toHid KD9
  have HRX := toHid rx
  have J9 := JB.out _ xo xn xc rx
  clear KD KD5 KD6 KD7 KD9 hS hS5 hS6 hS7 hS9 k5 k6 k7 k9 ra rb ro rx hK JM JN JX b03 b13 b23 hR hR1 HK3
  go_wp2_with fail
  refine J9.mono ?_
  rintro r w10 ⟨vy, rfl, ry, fy, ky⟩
  obtain ⟨yo, yn, yc, rfl, -⟩ := ry.open
  have HKY := toHid (HK9.out.trans ky)
  have HBO := toHid ((bxO.grew HK9.out).grew ky)
  have HRY := toHid ry
  have HFY := toHid (Fresh.after (w := w) fy HK9.out)
  have hcO := HBO.out.cell
  have hfO := HBO.out.free
  clear J9 ry fy ky JB
  go_wp2_with fail
  refine (uStepB yo yn yc w10).mono ?_
  rintro r w11 ⟨rfl, rfl⟩
  go_wp2_with fail
  go_end0
  have hne : ∀ x, (Value.slice yo yn yc).ownBlock = some x → ¬ x = bO := fun x hx e => by have h1 := HFY.out x hx; have h2 := bxO.lt; omega
  refine .inl ⟨HE.out, rfl, _, HBO.out.set _, ?_, HFY.out, HKY.out.any.trans (kept_box _ _ _)⟩
  rw [HAL.out]
  exact HRY.out.kept (kept_box _ _ _) hne

set_option maxRecDepth 20000 in
set_option maxHeartbeats 2000000 in
/-- Apply. -/
theorem uApply : PApp := by
  intro ao L cap ns e bo M dap ms w he hu hd hL hv hdm hM
  have hmf : ∀ (fn : Fn) (first cap : Array Value) (w : World), (Instr.makeFunc fn first cap).run Tryz.prog w = .ok (.func fn first cap) w := fun _ _ _ _ => rfl
  have hef : ∀ args w, (callFunc 19 args).run Tryz.prog w = .ok (.enter 19 args) w := fun _ _ => by simp [go_sem]
  have hbx := boxes4 w (.slice ao L cap) (.int .u64 (e : Nat)) (.slice bo M dap) (.slice none 0 0) 23 24 25 25
  obtain ⟨W, hW⟩ : ∃ W, W = (((w.alloc (.cells #[.slice ao L cap] 23)).alloc (.cells #[.int .u64 (e : Nat)] 24)).alloc (.cells #[.slice bo M dap] 25)).alloc (.cells #[.slice none 0 0] 25) := ⟨_, rfl⟩
  rw [← hW] at hbx
  obtain ⟨k0, x1, x2, x3, x4, hs⟩ := hbx
  have kE := (Kept.refl Nought W).alloc (.cells #[.int .i64 0] 28)
  have xe : Box (W.alloc (.cells #[.int .i64 0] 28)) W.heap.size (.int .i64 0) 28 := Box.new W (.int .i64 0) 28
  have k1 := k0.trans kE
  have c1 := (x1.grew kE).cell
  have c2 := (x2.grew kE).cell
  have c3 := (x3.grew kE).cell
  have hu1 := hu.grew k1
  have hv1 := hv.grew k1
  have hEnd : Calls Tryz.prog 19 #[.pointer (some ⟨w.heap.size, 0, none⟩), .pointer (some ⟨w.heap.size + 1, 0, none⟩), .pointer (some ⟨w.heap.size + 1 + 1, 0, none⟩), .pointer (some ⟨w.heap.size + 1 + 1 + 1, 0, none⟩)] (W.alloc (.cells #[.int .i64 0] 28)) fun r w' => AppEnd (w.heap.size + 1 + 1 + 1) ns e ms (W.alloc (.cells #[.int .i64 0] 28)) r w' := by
    rcases pub_two ns e with hE | hE
    · by_cases hS : M = sizeN (val 18446744073709551616 ns)
      · by_cases hlt : bev ms < val 18446744073709551616 ns
        · exact uApp1D _ _ _ _ ao L cap ns e bo M dap ms _ he hu1 hd hL hv1 hdm hM c1 c2 c3 (x4.grew kE) hE hS hlt
        · exact uApp1C _ _ _ _ ao L cap ns e bo M dap ms _ he hu1 hd hL hv1 hdm hM c1 c2 c3 hE hS hlt
      · exact uApp1B _ _ _ _ ao L cap ns e bo M dap ms _ he hu1 hd hL hv1 hdm hM c1 c2 c3 hE hS
    · exact uApp1A _ _ _ _ ao L cap ns e bo M dap ms _ he hu1 hd hL hv1 hdm hM c1 c2 c3 hE
  have hAt := uAttempt 19 _ W (fun n W' => n = (appE ns e ms : Nat) ∧ ∃ v, Box W' (w.heap.size + 1 + 1 + 1) v 25 ∧ Row .u8 W' v (appL ns e ms) ∧ Hid (∀ x, v.ownBlock = some x → ¬ x = W.heap.size) ∧ Fresh W v ∧ Kept Nought w W') hef (hEnd.mono (by
    rintro r w' (⟨h0, rfl, v, hb, hr, hf, hk⟩ | ⟨h0, rfl, hk⟩)
    · exact ⟨xe.kept hk (by have := x4.lt; omega), .inl ⟨rfl, by rw [h0]; rfl, v, hb, hr, (fun x hx e => by have h1 := hf x hx; rw [World.size_alloc] at h1; omega), hf.after kE, k1.next hk (fun x hx e => by omega)⟩⟩
    · refine ⟨xe.grew hk, .inr ⟨_, rfl, rfl, .slice none 0 0, (x4.grew kE).grew hk, ?_, (fun b hb => by simp [Value.ownBlock] at hb), fun b hb => by simp [Value.ownBlock] at hb, k1.trans hk⟩⟩
      unfold appL
      rw [if_neg h0]
      exact Row.nil _ _))
  have HW := toHid hW
  have HS := toHid hs
  generalize appE ns e ms = E at *
  generalize appL ns e ms = RL at *
  clear hu hv hd hdm he hL hM k0 kE k1 x1 x2 x3 x4 xe hs hW c1 c2 c3 hef hEnd hu1 hv1
  go_enter Tryz.func8, Tryz.ntmps8
  go_wp2_with (rw [← HW.out])
  refine hAt.mono ?_
  rintro r w' ⟨n, w1, rfl, ⟨⟨rfl, v, hb, hr, hf0, hf, hk⟩, hbe⟩, rfl⟩
  obtain ⟨vo, vn, vc, rfl, -⟩ := hr.open
  have kb := kept_box w1 W.heap.size (.int .i64 (E : Nat))
  have hne : w.heap.size + 1 + 1 + 1 ≠ W.heap.size := by have := HS.out; omega
  have hb2 := hb.kept kb hne
  have hr2 := hr.kept kb (fun x hx e => hf0.out x hx e)
  have hk2 := hk.next kb (fun x hx e => by have := HS.out; omega)
  have hc2 := hb2.cell
  have hf2 := hb2.free
  have HB2 := toHid hb2
  have HR2 := toHid (hr2.kept (kept_box (w1.setCell ⟨W.heap.size, 0, none⟩ (.int .i64 (E : Nat))) (w.heap.size + 1 + 1 + 1) (.slice vo vn vc)) (fun x hx e => by have := hf x hx; have := HS.out; omega))
  have HK2 := toHid (hk2.next (kept_box (w1.setCell ⟨W.heap.size, 0, none⟩ (.int .i64 (E : Nat))) (w.heap.size + 1 + 1 + 1) (.slice vo vn vc)) (fun x hx e => by omega))
  have HF2 : Hid (∀ b, (Value.slice vo vn vc).ownBlock = some b → w.heap.size ≤ b) := fun b hx => by have := hf b hx; have := HS.out; omega
  clear hAt hb hr hf hk hbe kb hne hb2 hr2 hk2 hf0
  generalize w1.setCell ⟨W.heap.size, 0, none⟩ (.int .i64 (E : Nat)) = W2 at *
  go_wp2_with fail
  exact bodyPost_ret (v := .tuple #[.slice vo vn vc, .int .i64 (E : Nat)]) (by simp [results, Tryz.results8, go_sem, (HB2.out.set (.slice vo vn vc)).cell]) rfl ⟨_, rfl, HR2.out, HF2.out, HK2.out⟩

end Go.Proofs.YtldbfcifoijliaaGreatDoor

