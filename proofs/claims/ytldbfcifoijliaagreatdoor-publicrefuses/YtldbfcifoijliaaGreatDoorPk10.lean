/- Put together of: Lim3 Pro0 Pro2. -/
import Derived.Test.YtldbfcifoijliaaGreatDoorPk1
import Derived.Test.YtldbfcifoijliaaGreatDoorPk5
import Derived.Test.YtldbfcifoijliaaGreatDoorPk6
import Derived.Test.YtldbfcifoijliaaGreatDoorPk8
import Derived.Test.YtldbfcifoijliaaGreatDoorPk9
import Derived.Defers
import Derived.Recover
import Derived.BigRegion
import Derived.Deep.OwnRows
import Derived.StillTailTactics

/- Melted of: LimF LimG. -/

/- Package limbs: Select: what it answers and writes down, for any numbers. -/
namespace Go.Proofs.YtldbfcifoijliaaGreatDoor
open Go.RowKit

end Go.Proofs.YtldbfcifoijliaaGreatDoor

/- Package limbs: Left: what it answers and writes down, for any number. -/
namespace Go.Proofs.YtldbfcifoijliaaGreatDoor
open Go.RowKit

theorem shl_or (x c : Nat) (hc : c ≤ 1) : bits .or .u64 (((2 * x) % 18446744073709551616 : Nat) : Int) (c : Int) = (((2 * x) % 18446744073709551616 + c : Nat) : Int) := by
  rw [u64_or_nat _ _ (by omega) (by omega)]
  congr 1
  have h0 : c = 0 ∨ c = 1 := by omega
  rcases h0 with rfl | rfl
  · rw [Nat.or_zero, Nat.add_zero]
  · have e : (2 * x) % 18446744073709551616 = 2 ^ 1 * (x % 9223372036854775808) := by omega
    rw [e, ← Nat.two_pow_add_eq_or_of_lt (by omega : 1 < 2 ^ 1)]

theorem left_step {X k c z c' t : Nat} {os : List Nat} (hl : os.length = k) (h : val 18446744073709551616 os + 18446744073709551616 ^ k * c = 2 * (X % 18446744073709551616 ^ k) + t) (hz : z + 18446744073709551616 * c' = 2 * dig 18446744073709551616 X k + c) :
    val 18446744073709551616 (os ++ [z]) + 18446744073709551616 ^ (k + 1) * c' = 2 * (X % 18446744073709551616 ^ (k + 1)) + t := by
  rw [val_snoc, hl, mod_succ, Nat.pow_succ, Nat.mul_assoc]
  have e : 18446744073709551616 ^ k * (z + 18446744073709551616 * c') = 18446744073709551616 ^ k * (2 * dig 18446744073709551616 X k + c) := by rw [hz]
  rw [Nat.mul_add, Nat.mul_add, Nat.mul_left_comm (18446744073709551616 ^ k) 2] at e
  omega

theorem left_end {n X c t : Nat} {os : List Nat} (hl : os.length = n) (hd : Digs 18446744073709551616 os) (hX : X < 18446744073709551616 ^ n) (h : val 18446744073709551616 os + 18446744073709551616 ^ n * c = 2 * (X % 18446744073709551616 ^ n) + t) :
    os = digs 18446744073709551616 (2 * X + t) n ∧ c = (2 * X + t) / 18446744073709551616 ^ n := by
  have hv := val_lt (by omega) hd
  rw [hl] at hv
  rw [Nat.mod_eq_of_lt hX] at h
  have hp : 0 < 18446744073709551616 ^ n := Nat.pow_pos (by omega)
  rw [← h]
  refine ⟨digs_val (by omega) hd hl ?_, ?_⟩
  · rw [Nat.add_mul_mod_self_left, Nat.mod_eq_of_lt hv]
  · rw [Nat.add_mul_div_left _ _ hp, Nat.div_eq_of_lt hv, Nat.zero_add]

theorem digs_val_self {xs : List Nat} (hd : Digs 18446744073709551616 xs) : digs 18446744073709551616 (val 18446744073709551616 xs) xs.length = xs :=
  (digs_val (by omega) hd rfl (Nat.mod_eq_of_lt (val_lt (by omega) hd)).symm).symm

set_option maxRecDepth 20000 in
set_option maxHeartbeats 2000000 in
/-- Left. -/
theorem lLeft (o : Tr) (u : Value) (xs : List Nat) (bit : Nat) (hbit : bit < 18446744073709551616) (w : World) (ht : TrRoom w o 1) (hu : RowT w o u xs) (hdx : Digs 18446744073709551616 xs) (hL : xs.length ≤ 100000000) :
    Calls Tryz.prog 107 #[trPtr o, u, .int .u64 (bit : Nat)] w fun e w' => ∃ v', e = .returned (.tuple #[v', .int .u64 ((2 * val 18446744073709551616 xs + bit % 2) / 18446744073709551616 ^ xs.length : Nat)]) ∧
      OwnN .u64 24 w' w.heap.size v' xs.length (digs 18446744073709551616 (2 * val 18446744073709551616 xs + bit % 2) xs.length) ∧ ∃ o', Did w o [(1, (xs.length : Nat), 0)] w' o' := by
  obtain ⟨i0, hi0, hz0, hz1, hz2⟩ := info_parts Tryz.info24
  have hand := and_one_u64 (bit : Int) (by omega) (by omega)
  obtain ⟨bt, hbt⟩ : ∃ bt, bt = bit % 2 := ⟨_, rfl⟩
  rw [show (bit : Int) % 2 = (bt : Int) by omega] at hand
  rw [← hbt]
  have hb1 : bt ≤ 1 := by omega
  clear hbt
  have hself := toHid (digs_val_self hdx)
  have hX : Hid (val 18446744073709551616 xs < 18446744073709551616 ^ xs.length) := val_lt_le hdx (Nat.le_refl _)
  obtain ⟨ao, n, cap, rfl, hLx, _, _, _, _⟩ := hu.1.open
  have hnb : n ≤ 100000000 := by rw [← hLx.out]; exact hL
  rw [hLx.out] at hX hself ⊢
  have HU : Hid (RowT w o (.slice ao n cap) xs) := hu
  have HT : Hid (TrRoom w o 1) := ht
  have hS := tSpanDid o n w ht.1
  obtain ⟨tp, htp⟩ : ∃ tp, tp = trPtr o := ⟨_, rfl⟩
  rw [← htp] at hS ⊢
  clear hu ht hLx hdx htp hL
  generalize val 18446744073709551616 xs = X at *
  obtain ⟨C, hC⟩ : ∃ C, C = (2 * X + bt) / 18446744073709551616 ^ n := ⟨_, rfl⟩
  rw [← hC]
  have HC := toHid hC
  clear hC
  go_enter Tryz.func107, Tryz.ntmps107
  go_wp2_with fail
  refine hS.mono ?_
  rintro e w4 ⟨rfl, o2, d2⟩
  have d4 := toHid d2
  have hr1 := HU.out.did d2
  obtain ⟨a1, n1, c1, e1, hN1, _, _, _, hn1⟩ := hr1.1.open
  simp only [Value.slice.injEq] at e1
  obtain ⟨rfl, rfl, rfl⟩ := e1
  have hw4 : Hid (w.heap.size ≤ w4.heap.size) := d2.size
  rw [← hself.out] at hn1
  clear hS d2 hr1 hN1
  go_wp2_with (at_make; refine wpList_make_full _ rfl _ _ 23 rfl w4.heap.size 24 i0 _ 1 Tryz.underlying23 hi0 hz0 hz1 _ _ _ _ n rfl rfl rfl rfl (by rw [hz2]; omega) (by unfold maxLen; omega) (Nat.le_refl _) ?_; intro w5 ho5 hg5)
  rw [zeros_map] at ho5
  have k5 := grown_kept hg5
  clear hg5
  go_loopw [10, 22] (fun c i wr => ∃ (k c' : Nat) (os : List Nat), k ≤ n ∧ c' ≤ 1 ∧ i = .int .i64 (k : Int) ∧ c = .int .u64 (c' : Int) ∧ Hid (os.length = k) ∧ Digs 18446744073709551616 os ∧ OwnN .u64 24 wr w4.heap.size (.slice (some ⟨w4.heap.size, 0, none⟩) n n) n (os ++ List.replicate (n - k) 0) ∧ Kept Nought w4 wr ∧
      Hid (val 18446744073709551616 os + 18446744073709551616 ^ k * c' = 2 * (X % 18446744073709551616 ^ k) + bt)) (fun _ i _ => n - (intOf i).toNat)
  case atStart => exact ⟨0, bt, [], Nat.zero_le _, hb1, rfl, rfl, rfl, Digs.nil _, by rw [List.nil_append, Nat.sub_zero]; exact ho5, k5, by unfold Hid; simp [val, Nat.mod_one]⟩
  case round =>
    obtain ⟨k, c, os, hk, hc, rfl, rfl, HL, hod, ho, hkp, HV2⟩ := hrel
    by_cases hkn : k < n
    · have hk0 : (0 : Int) ≤ (k : Int) := Int.natCast_nonneg _
      have hk1 : (k : Int) < (n : Int) := by omega
      obtain ⟨b1, off1, rfl, hc1⟩ := digs_at ((hn1 k hkn).grew hkp) hkn
      have hc0 := fill_cell ho HL.out hkn
      have hf := World.ownsRow.frozenAt ho k
      have hst := fun u => (World.ownsRow.stored ho k u).1
      have hx : dig 18446744073709551616 X k < 18446744073709551616 := Nat.mod_lt _ (by omega)
      have HS : Hid (∀ z c', z + 18446744073709551616 * c' = 2 * dig 18446744073709551616 X k + c → val 18446744073709551616 (os ++ [z]) + 18446744073709551616 ^ (k + 1) * c' = 2 * (X % 18446744073709551616 ^ (k + 1)) + bt) := fun z c' h => left_step HL.out HV2.out h
      have HST : Hid (∀ u : Nat, OwnN .u64 24 (wr.setCell ⟨w4.heap.size, k, none⟩ (.int .u64 (u : Int))) w4.heap.size (.slice (some ⟨w4.heap.size, 0, none⟩) n n) n ((os ++ [u]) ++ List.replicate (n - (k + 1)) 0)) := fun u => by
        have := hst (.int .u64 (u : Int))
        unfold OwnN
        rw [← set_snoc os n k u HL.out hkn, List.map_set]
        exact this
      clear hn1 HV2 hst ho5 k5
      generalize dig 18446744073709551616 X k = x at *
      obtain ⟨z, hz⟩ : ∃ z : Nat, z = (2 * x) % 18446744073709551616 + c := ⟨_, rfl⟩
      have HOR : Hid (bits .or .u64 (IntKind.u64.wrap ((x : Int) * 2)) (c : Int) = (z : Int)) := by
        unfold Hid
        rw [IntKind.wrap_u64, show ((x : Int) * 2) % 18446744073709551616 = (((2 * x) % 18446744073709551616 : Nat) : Int) by omega, shl_or x c hc, hz]
      have HZ := toHid hz
      clear hz
      go_wp2_with fail
      go_region
      all_goals
        go_wp2_with fail
        rw [HOR.out]
        have hz := HZ.out
        go_roundw
        case rel => exact ⟨k + 1, x / 9223372036854775808, os ++ [z], by omega, by omega, by go_num, rfl, by unfold Hid; rw [List.length_append, HL.out]; rfl, hod.append (Digs.one (by omega)), HST.out _, (hkp.setCell _ (fun h => by simp at h) _).drew, HS.out _ _ (by omega)⟩
        case measure => simp [intOf]; omega
    · have hk1 : ¬ (k : Int) < (n : Int) := by omega
      have e : k = n := by omega
      subst e
      rw [Nat.sub_self, List.replicate_zero, List.append_nil] at ho
      obtain ⟨e1, e2⟩ := left_end HL.out hod hX.out HV2.out
      have E1 := toHid e1
      have E2 := toHid (HC.out.trans e2.symm)
      clear e1 e2 hn1 HV2 ho5 k5
      go_wp2_with fail
      go_ret2
      rw [← E1.out, E2.out]
      exact ⟨_, rfl, own_base ho (fun b hb => Nat.le_trans hw4.out (ho.lt b hb).1), o2, d4.out.grew hkp⟩

end Go.Proofs.YtldbfcifoijliaaGreatDoor


/- Package product: what refuses and attempts; boxes. No trace in it. -/

/- Package product: attempt, which answers the error with which what it does was refused; refuse, refuseLong. -/
namespace Go.Proofs.YtldbfcifoijliaaGreatDoor
open Go.RowKit

/-- The panic that refuse raises. -/
abbrev refusal (n : Int) : PanicEntry := { v := .iface 28 (.int .i64 n), recovered := false }

set_option maxHeartbeats 400000 in
/-- The deferred closure, where nothing was refused. -/
theorem pCatchIdle (p : Addr) (w : World) :
    CallsD Tryz.prog 125 #[.pointer (some p)] .returning w fun e u' w' => e = .returned (.tuple #[]) ∧ u' = .returning ∧ w' = w := by
  refine callsD_of_wpS Tryz.func125 rfl fun c₀ cs hu => ?_
  apply wpS_seq
  apply wpS_region
  simp [wpOpsS, go_sem, recoverD, hu, Tryz.ntmps125, Exit.thenS]
  apply wpS_seq
  apply wpS_seq
  apply wpS_region
  simp [wpOpsS, go_sem, Exit.thenS]
  refine wpS_cond (t := true) (by simp [Act.eval, Array.replicate]) ?_
  simp only [if_true]
  refine wpS_of_wp (wp_ret ?_)
  cases c₀
  simp_all [bodyPostS, results, Tryz.results125, Exit.thenS]

set_option maxHeartbeats 400000 in
/-- The deferred closure, where something was refused. -/
theorem pCatch (p : Addr) (x n : Int) (older : List PanicEntry) (w : World) (hc : w.cell? p = some (.int .i64 x)) (hz : w.frozen? p = false) :
    CallsD Tryz.prog 125 #[.pointer (some p)] (.panicking (refusal n :: older)) w fun e u' w' =>
      e = .returned (.tuple #[]) ∧ u' = .panicking ({ refusal n with recovered := true } :: older) ∧ w' = w.setCell p (.int .i64 n) := by
  refine callsD_of_wpS Tryz.func125 rfl fun c₀ cs hu => ?_
  apply wpS_seq
  apply wpS_region
  simp [wpOpsS, go_sem, recoverD, hu, Tryz.ntmps125, Exit.thenS]
  apply wpS_seq
  apply wpS_seq
  apply wpS_region
  simp [wpOpsS, go_sem, Exit.thenS]
  refine wpS_cond (t := false) (by simp [Act.eval, Array.replicate]) ?_
  simp only [Bool.false_eq_true, if_false]
  refine wpS_of_wp (wp_skip ?_)
  simp only [Exit.thenS]
  refine wpS_of_wp ?_
  have hta : ∀ w : World, (Instr.typeAssert (.iface 28 (.int .i64 n)) 20 28 true).run Tryz.prog w = .ok (.tuple #[.int .i64 n, .bool true]) w := fun w => by kernel_rfl
  have hnot : ∀ (x : Bool) (w : World), (Op.unary .not (.bool x)).run Tryz.prog w = .ok (.bool (!x)) w := fun _ _ => rfl
  have e : (#[Value.pointer (some p)] ++ ((((Array.replicate 15 undef).setIfInBounds 3 (Value.iface 28 (Value.int IntKind.i64 n))).setIfInBounds 0 (Value.iface 28 (Value.int IntKind.i64 n))).setIfInBounds 4 (Value.iface 28 (Value.int IntKind.i64 n))).setIfInBounds 5 (Value.bool false) : Array Value) = #[.pointer (some p), .iface 28 (.int .i64 n), undef, undef, .iface 28 (.int .i64 n), .iface 28 (.int .i64 n), .bool false, undef, undef, undef, undef, undef, undef, undef, undef, undef] := rfl
  rw [e]
  clear e
  go_wp2
  simp [bodyPostS, results, Tryz.results125]

set_option maxHeartbeats 400000 in
/-- attempt: what the closure does, and 0, or the number with which it was refused. -/
theorem pAttempt (f : Nat) (cap : Array Value) (w : World) (Q : Int → World → Prop) (he : ∀ args w, (callFunc f args).run Tryz.prog w = .ok (.enter f args) w)
    (h : Calls Tryz.prog f cap (w.alloc (.cells #[.int .i64 0] 28)) fun e w' => w'.heap[w.heap.size]? = some (.cells #[.int .i64 0] 28 (0, 0)) ∧
      ((e = .returned (.tuple #[]) ∧ Q 0 w') ∨ ∃ n, e = .panicked [refusal n] ∧ Q n w')) :
    Calls Tryz.prog 113 #[.func (.func f) #[] cap] w fun e w' => ∃ n w1, e = .returned (.int .i64 n) ∧ (Q n w1 ∧ w1.heap[w.heap.size]? = some (.cells #[.int .i64 0] 28 (0, 0))) ∧ w' = w1.setCell ⟨w.heap.size, 0, none⟩ (.int .i64 n) := by
  have hmf : ∀ (fn : Fn) (first cap : Array Value) (w : World), (Instr.makeFunc fn first cap).run Tryz.prog w = .ok (.func fn first cap) w := fun _ _ _ _ => rfl
  go_enter_defers Tryz.func113, Tryz.ntmps113
  go_wp2_with fail
  refine h.mono ?_
  rintro e w1 ⟨hb, (⟨rfl, hq⟩ | ⟨n, rfl, hq⟩)⟩
  · have hc : w1.cell? ⟨w.heap.size, 0, none⟩ = some (.int .i64 0) := by simp [World.cell?, hb]
    have hz : w1.frozen? ⟨w.heap.size, 0, none⟩ = false := by simp [World.frozen?, hb]
    clear h
    go_wp2_with fail
    refine leaves_cons (f := 125) (args := #[.pointer (some ⟨w.heap.size, 0, none⟩)]) (by simp) (by simp [go_sem]) ?_
    refine (pCatchIdle ⟨w.heap.size, 0, none⟩ _).mono ?_
    rintro e u' w'' ⟨rfl, rfl, rfl⟩
    have hc2 : (w1.setCell ⟨w.heap.size, 0, none⟩ (.int .i64 0)).cell? ⟨w.heap.size, 0, none⟩ = some (.int .i64 0) := World.cell?_setCell_same' _ _ _ (by rw [hc]; rfl)
    simp [Leaves, settle, results, Tryz.results113, go_sem, hc2]
    exact ⟨_, ⟨hq, hb⟩, rfl⟩
  · have hc : w1.cell? ⟨w.heap.size, 0, none⟩ = some (.int .i64 0) := by simp [World.cell?, hb]
    have hz : w1.frozen? ⟨w.heap.size, 0, none⟩ = false := by simp [World.frozen?, hb]
    clear h
    refine leaves_cons (f := 125) (args := #[.pointer (some ⟨w.heap.size, 0, none⟩)]) (by simp) (by simp [go_sem]) ?_
    refine (pCatch ⟨w.heap.size, 0, none⟩ 0 n [] _ hc hz).mono ?_
    rintro e u' w'' ⟨rfl, rfl, rfl⟩
    have hc2 : (w1.setCell ⟨w.heap.size, 0, none⟩ (.int .i64 n)).cell? ⟨w.heap.size, 0, none⟩ = some (.int .i64 n) := World.cell?_setCell_same' _ _ _ (by rw [hc]; rfl)
    simp [Leaves, settle, results, Tryz.results113, go_sem, hc2]
    exact ⟨_, ⟨hq, hb⟩, rfl⟩

set_option maxHeartbeats 400000 in
/-- refuse, where it is not so. -/
theorem pRefuseNo (n : Int) (w : World) : Calls Tryz.prog 126 #[.bool false, .int .i64 n] w fun e w' => e = .returned (.tuple #[]) ∧ w' = w := by
  go_enter Tryz.func126, Tryz.ntmps126
  go_wp2
  go_end0
  exact ⟨rfl, rfl⟩

set_option maxHeartbeats 400000 in
/-- refuse, where it is so. -/
theorem pRefuseYes (n : Int) (w : World) : Calls Tryz.prog 126 #[.bool true, .int .i64 n] w fun e w' => e = .panicked [refusal n] ∧ w' = w := by
  go_enter Tryz.func126, Tryz.ntmps126
  go_wp2
  exact ⟨rfl, rfl, rfl⟩

set_option maxHeartbeats 400000 in
/-- refuseLong. -/
theorem pLong (ao bo : Option Addr) (L M cap dap : Nat) (w : World) :
    Calls Tryz.prog 115 #[.slice ao L cap, .slice bo M dap] w fun e w' => ((L ≤ 300 ∧ M ≤ 300 ∧ e = .returned (.tuple #[])) ∨ (¬ (L ≤ 300 ∧ M ≤ 300) ∧ e = .panicked [refusal 2])) ∧ w' = w := by
  have hN := pRefuseNo 2 w
  have hY := pRefuseYes 2 w
  by_cases h : L ≤ 300 ∧ M ≤ 300
  · have g : ¬ max (L : Int) (M : Int) > 300 := by omega
    go_enter Tryz.func115, Tryz.ntmps115
    go_wp2_with fail
    refine hN.mono ?_
    rintro e w' ⟨rfl, rfl⟩
    go_wp2
    go_end0
    exact ⟨.inl ⟨h.1, h.2, rfl⟩, rfl⟩
  · have g : max (L : Int) (M : Int) > 300 := by omega
    go_enter Tryz.func115, Tryz.ntmps115
    go_wp2_with fail
    refine hY.mono ?_
    rintro e w' ⟨rfl, rfl⟩
    exact ⟨rfl, .inr ⟨h, rfl⟩, rfl⟩

end Go.Proofs.YtldbfcifoijliaaGreatDoor

/- A variable of its own in memory: what it holds, and what of it stays. -/
namespace Go.Proofs.YtldbfcifoijliaaGreatDoor
open Go.RowKit

/-- Block b is one variable of type t that holds v. -/
def Box (w : World) (b : Nat) (v : Value) (t : TypeId) : Prop := w.heap[b]? = some (.cells #[v] t (0, 0))

theorem Box.cell {w : World} {b : Nat} {v : Value} {t : TypeId} (h : Box w b v t) : w.cell? ⟨b, 0, none⟩ = some v := by
  unfold Box at h
  simp [World.cell?, h]

theorem Box.free {w : World} {b : Nat} {v : Value} {t : TypeId} (h : Box w b v t) : w.frozen? ⟨b, 0, none⟩ = false := by
  unfold Box at h
  simp [World.frozen?, h]

theorem Box.lt {w : World} {b : Nat} {v : Value} {t : TypeId} (h : Box w b v t) : b < w.heap.size := lt_of_block h

theorem Box.new (w : World) (v : Value) (t : TypeId) : Box (w.alloc (.cells #[v] t)) w.heap.size v t := heap_alloc_new w _

theorem Box.kept {S : Nat → Prop} {w w' : World} {b : Nat} {v : Value} {t : TypeId} (h : Box w b v t) (k : Kept S w w') (hs : ¬ S b) : Box w' b v t := (k.block b h.lt hs).trans h

theorem Box.grew {w w' : World} {b : Nat} {v : Value} {t : TypeId} (h : Box w b v t) (k : Kept Nought w w') : Box w' b v t := h.kept k (fun f => f)

theorem Box.alloc {w : World} {b : Nat} {v : Value} {t : TypeId} (h : Box w b v t) (o : Obj) : Box (w.alloc o) b v t := heapAt_alloc h

theorem Box.drew {w : World} {b : Nat} {v : Value} {t : TypeId} (h : Box w b v t) : Box w.drew b v t := h

theorem Box.set {w : World} {b : Nat} {v : Value} {t : TypeId} (h : Box w b v t) (u : Value) : Box (w.setCell ⟨b, 0, none⟩ u) b u t := by
  have := heap_setCell_same w b 0 #[v] t u h
  simpa [Box] using this

theorem Box.other {w : World} {b : Nat} {v : Value} {t : TypeId} (h : Box w b v t) (a : Addr) (hne : b ≠ a.block) (u : Value) : Box (w.setCell a u) b v t := heapAt_set h hne u

theorem kept_box (w : World) (b : Nat) (u : Value) : Kept (fun x => x = b) w (w.setCell ⟨b, 0, none⟩ u) := (Kept.refl (fun x => x = b) w).setCell ⟨b, 0, none⟩ (fun _ => rfl) u

theorem boxes1 (w : World) (v1 : Value) (t1 : TypeId) : Kept Nought w (w.alloc (.cells #[v1] t1)) ∧ Box (w.alloc (.cells #[v1] t1)) w.heap.size v1 t1 ∧ (w.alloc (.cells #[v1] t1)).heap.size = w.heap.size + 1 := by
  exact ⟨(Kept.refl Nought w).alloc _, Box.new w _ _, by simp⟩

theorem boxes2 (w : World) (v1 v2 : Value) (t1 t2 : TypeId) : Kept Nought w ((w.alloc (.cells #[v1] t1)).alloc (.cells #[v2] t2)) ∧ Box ((w.alloc (.cells #[v1] t1)).alloc (.cells #[v2] t2)) w.heap.size v1 t1 ∧ Box ((w.alloc (.cells #[v1] t1)).alloc (.cells #[v2] t2)) (w.heap.size + 1) v2 t2 ∧ ((w.alloc (.cells #[v1] t1)).alloc (.cells #[v2] t2)).heap.size = w.heap.size + 1 + 1 := by
  obtain ⟨k0, b1, hs⟩ := boxes1 w v1 t1
  exact ⟨k0.alloc _, b1.alloc _, by rw [← hs]; exact Box.new _ _ _, by rw [← hs]; simp⟩

theorem boxes3 (w : World) (v1 v2 v3 : Value) (t1 t2 t3 : TypeId) : Kept Nought w (((w.alloc (.cells #[v1] t1)).alloc (.cells #[v2] t2)).alloc (.cells #[v3] t3)) ∧ Box (((w.alloc (.cells #[v1] t1)).alloc (.cells #[v2] t2)).alloc (.cells #[v3] t3)) w.heap.size v1 t1 ∧ Box (((w.alloc (.cells #[v1] t1)).alloc (.cells #[v2] t2)).alloc (.cells #[v3] t3)) (w.heap.size + 1) v2 t2 ∧ Box (((w.alloc (.cells #[v1] t1)).alloc (.cells #[v2] t2)).alloc (.cells #[v3] t3)) (w.heap.size + 1 + 1) v3 t3 ∧ (((w.alloc (.cells #[v1] t1)).alloc (.cells #[v2] t2)).alloc (.cells #[v3] t3)).heap.size = w.heap.size + 1 + 1 + 1 := by
  obtain ⟨k0, b1, b2, hs⟩ := boxes2 w v1 v2 t1 t2
  exact ⟨k0.alloc _, b1.alloc _, b2.alloc _, by rw [← hs]; exact Box.new _ _ _, by rw [← hs]; simp⟩

theorem boxes4 (w : World) (v1 v2 v3 v4 : Value) (t1 t2 t3 t4 : TypeId) : Kept Nought w ((((w.alloc (.cells #[v1] t1)).alloc (.cells #[v2] t2)).alloc (.cells #[v3] t3)).alloc (.cells #[v4] t4)) ∧ Box ((((w.alloc (.cells #[v1] t1)).alloc (.cells #[v2] t2)).alloc (.cells #[v3] t3)).alloc (.cells #[v4] t4)) w.heap.size v1 t1 ∧ Box ((((w.alloc (.cells #[v1] t1)).alloc (.cells #[v2] t2)).alloc (.cells #[v3] t3)).alloc (.cells #[v4] t4)) (w.heap.size + 1) v2 t2 ∧ Box ((((w.alloc (.cells #[v1] t1)).alloc (.cells #[v2] t2)).alloc (.cells #[v3] t3)).alloc (.cells #[v4] t4)) (w.heap.size + 1 + 1) v3 t3 ∧ Box ((((w.alloc (.cells #[v1] t1)).alloc (.cells #[v2] t2)).alloc (.cells #[v3] t3)).alloc (.cells #[v4] t4)) (w.heap.size + 1 + 1 + 1) v4 t4 ∧ ((((w.alloc (.cells #[v1] t1)).alloc (.cells #[v2] t2)).alloc (.cells #[v3] t3)).alloc (.cells #[v4] t4)).heap.size = w.heap.size + 1 + 1 + 1 + 1 := by
  obtain ⟨k0, b1, b2, b3, hs⟩ := boxes3 w v1 v2 v3 t1 t2 t3
  exact ⟨k0.alloc _, b1.alloc _, b2.alloc _, b3.alloc _, by rw [← hs]; exact Box.new _ _ _, by rw [← hs]; simp⟩

end Go.Proofs.YtldbfcifoijliaaGreatDoor


/- Melted of: Att Box PrC PrD PrE. -/
namespace Go.Proofs.YtldbfcifoijliaaGreatDoor
open Go.RowKit

theorem Box.did {w w' : World} {o o' : Tr} {m : List Ev} {b : Nat} {v : Value} {t : TypeId} (h : Box w b v t) (d : Did w o m w' o') (ht : TrIn w o) (h1 : t ≠ 152) (h2 : t ≠ 148) : Box w' b v t := h.kept d.kept (cells_apart h ht h1 h2)

theorem Box.apart {w : World} {o : Tr} {b : Nat} {v : Value} {t : TypeId} (h : Box w b v t) (ht : TrIn w o) (h1 : t ≠ 152) (h2 : t ≠ 148) : ¬ trFoot o b := cells_apart h ht h1 h2

end Go.Proofs.YtldbfcifoijliaaGreatDoor

/- Package product: Mul. -/
namespace Go.Proofs.YtldbfcifoijliaaGreatDoor
open Go.RowKit

theorem trPtr_shape (o : Tr) : ∃ po, trPtr o = .pointer po := by
  cases o with
  | none => exact ⟨_, rfl⟩
  | some x => exact ⟨_, rfl⟩

set_option maxRecDepth 20000 in
set_option maxHeartbeats 2000000 in
/-- What Mul attempts. -/
theorem pMul1 (o : Tr) (ao bo : Option Addr) (L M cap dap : Nat) (xs ys : List Nat) (bT bA bB bO : Nat) (w : World) (ht : TrRoom w o 300) (hu : RowT w o (.slice ao L cap) xs) (hv : RowT w o (.slice bo M dap) ys) (hdx : Digs 18446744073709551616 xs) (hdy : Digs 18446744073709551616 ys)
    (hT : Box w bT (trPtr o) 105) (hA : Box w bA (.slice ao L cap) 23) (hB : Box w bB (.slice bo M dap) 23) (hO : Box w bO (.slice none 0 0) 23) :
    Calls Tryz.prog 114 #[.pointer (some ⟨bA, 0, none⟩), .pointer (some ⟨bB, 0, none⟩), .pointer (some ⟨bT, 0, none⟩), .pointer (some ⟨bO, 0, none⟩)] w fun e w' =>
      ((L ≤ 300 ∧ M ≤ 300) ∧ e = .returned (.tuple #[]) ∧ ∃ v' w1 o', v' = .slice (some ⟨w.heap.size, 0, none⟩) (L + M) (L + M) ∧ OwnN .u64 24 w1 w.heap.size v' (L + M) (digs 18446744073709551616 (val 18446744073709551616 xs * val 18446744073709551616 ys) (L + M)) ∧ Did w o (List.replicate L (1, (M : Nat), 0)) w1 o' ∧ Kept (fun b => b = bO) w1 w' ∧ Box w' bO v' 23) ∨
      (¬ (L ≤ 300 ∧ M ≤ 300) ∧ e = .panicked [refusal 2] ∧ w' = w) := by
  obtain ⟨_, _, _, e1, hLx, _, _, _, _⟩ := hu.1.open
  cases e1
  obtain ⟨_, _, _, e1, hLy, _, _, _, _⟩ := hv.1.open
  cases e1
  have eL := hLx.out
  have eM := hLy.out
  have hP := fun W => pLong ao bo L M cap dap W
  have hR := fun W (k : Kept Nought w W) (l1 : L ≤ 300) (l2 : M ≤ 300) => pRows o _ _ xs ys W ((ht.less (by omega)).grew k) (hu.grew k) (hv.grew k) hdx hdy (by omega) (by omega)
  rw [eL, eM] at hR
  obtain ⟨po, hpo⟩ := trPtr_shape o
  rw [hpo] at hR hT
  have cT := hT.cell
  have cA := hA.cell
  have cB := hB.cell
  have HO := toHid hO
  have HT := toHid ht.1
  clear hu hv hdx hdy hLx hLy eL eM hpo hT hA hB hO ht
  go_enter Tryz.func114, Tryz.ntmps114
  go_wp2_with fail
  refine (hP _).mono ?_
  rintro e w1 ⟨⟨l1, l2, rfl⟩ | ⟨l1, rfl⟩, rfl⟩
  · go_wp2_with fail
    refine (hR _ (Kept.refl _ _) l1 l2).mono ?_
    rintro e w2 ⟨v', rfl, rfl, ho, o', hd⟩
    have hO2 := HO.out.did hd HT.out (by decide) (by decide)
    have cO := hO2.cell
    have fO := hO2.free
    have HD := toHid hd
    have HOW := toHid ho
    have HO2 := toHid hO2
    clear hP hR cT cA cB hd ho hO2
    go_wp2_with fail
    go_end0
    exact .inl ⟨⟨l1, l2⟩, rfl, _, _, o', rfl, HOW.out, HD.out, kept_box _ _ _, HO2.out.set _⟩
  · exact ⟨rfl, .inr ⟨l1, rfl, rfl⟩⟩

/-- What Mul answers. -/
def mulAns (X Y L M : Nat) : List Nat := if L ≤ 300 ∧ M ≤ 300 then digs 18446744073709551616 (X * Y) (L + M) else []

def mulEvs (L M : Nat) : List Ev := if L ≤ 300 ∧ M ≤ 300 then List.replicate L (1, ((M : Nat) : Int), 0) else []

set_option maxRecDepth 20000 in
set_option maxHeartbeats 2000000 in
/-- Mul, and that its number is the call's own. -/
theorem pMulO (o : Tr) (ao bo : Option Addr) (L M cap dap : Nat) (xs ys : List Nat) (w : World) (ht : TrRoom w o 300) (hu : RowT w o (.slice ao L cap) xs) (hv : RowT w o (.slice bo M dap) ys) (hdx : Digs 18446744073709551616 xs) (hdy : Digs 18446744073709551616 ys) :
    Calls Tryz.prog 101 #[trPtr o, .slice ao L cap, .slice bo M dap] w fun e w' => ∃ v', e = .returned v' ∧
      Row .u64 w' v' (mulAns (val 18446744073709551616 xs) (val 18446744073709551616 ys) L M) ∧ (∀ b, v'.ownBlock = some b → w.heap.size ≤ b) ∧ (L ≤ 300 ∧ M ≤ 300 → ∃ g, w.heap.size ≤ g ∧ v' = .slice (some ⟨g, 0, none⟩) (L + M) (L + M) ∧ OwnN .u64 24 w' g v' (L + M) (digs 18446744073709551616 (val 18446744073709551616 xs * val 18446744073709551616 ys) (L + M))) ∧ ∃ o', Did w o (mulEvs L M) w' o' := by
  have hmf : ∀ (fn : Fn) (first cap : Array Value) (w : World), (Instr.makeFunc fn first cap).run Tryz.prog w = .ok (.func fn first cap) w := fun _ _ _ _ => rfl
  obtain ⟨po, hpo⟩ := trPtr_shape o
  have hbx := boxes4 w (.pointer po) (.slice ao L cap) (.slice bo M dap) (.slice none 0 0) 105 23 23 23
  have he : ∀ args w, (callFunc 114 args).run Tryz.prog w = .ok (.enter 114 args) w := fun _ _ => by simp [go_sem]
  rw [hpo]
  go_enter Tryz.func101, Tryz.ntmps101
  go_wp2_with fail
  generalize (((w.alloc (.cells #[.pointer po] 105)).alloc (.cells #[.slice ao L cap] 23)).alloc (.cells #[.slice bo M dap] 23)).alloc (.cells #[.slice none 0 0] 23) = W at *
  obtain ⟨k0, x1, x2, x3, x4, hs⟩ := hbx
  have k1 := k0.alloc (.cells #[.int .i64 0] 28)
  have xe := Box.new W (.int .i64 0) 28
  have h1 := pMul1 o ao bo L M cap dap xs ys _ _ _ _ _ (ht.grew k1) (hu.grew k1) (hv.grew k1) hdx hdy (by rw [hpo]; exact x1.alloc _) (x2.alloc _) (x3.alloc _) (x4.alloc (.cells #[.int .i64 0] 28))
  refine (pAttempt 114 _ W (fun n W' => (n = 0 ∧ (L ≤ 300 ∧ M ≤ 300) ∧ ∃ v' o', v' = .slice (some ⟨W.heap.size + 1, 0, none⟩) (L + M) (L + M) ∧ OwnN .u64 24 W' (W.heap.size + 1) v' (L + M) (digs 18446744073709551616 (val 18446744073709551616 xs * val 18446744073709551616 ys) (L + M)) ∧ Did w o (List.replicate L (1, (M : Nat), 0)) W' o' ∧ Box W' (w.heap.size + 1 + 1 + 1) v' 23) ∨ (n = 2 ∧ ¬ (L ≤ 300 ∧ M ≤ 300) ∧ Kept Nought w W' ∧ Box W' (w.heap.size + 1 + 1 + 1) (.slice none 0 0) 23)) he (h1.mono ?_)).mono ?_
  · rintro e w' (⟨hl, rfl, v', w1, o', hsh, ho, hd, hk, hb⟩ | ⟨hl, rfl, rfl⟩)
    · rw [show (W.alloc (.cells #[.int .i64 0] 28)).heap.size = W.heap.size + 1 by simp] at ho hsh
      have hti := (hd.room (k := 0) ((ht.grew k1).less (by simp; omega))).1
      have hxO := (x4.alloc (.cells #[.int .i64 0] 28)).did hd (ht.grew k1).1 (by decide) (by decide)
      have hxE := (xe.did hd (ht.grew k1).1 (by decide) (by decide)).kept hk (by omega)
      refine ⟨hxE, .inl ⟨rfl, .inl ⟨rfl, hl, v', o', hsh, hk.own ho (fun b hb' e => ?_), (Did.after k1 hd).wroteNew hk (by omega) (hxO.apart hti (by decide) (by decide)), hb⟩⟩⟩
      have := (ho.lt b hb').1
      omega
    · exact ⟨xe, .inr ⟨2, rfl, .inr ⟨rfl, hl, k1, x4.alloc _⟩⟩⟩
  · rintro e w' ⟨n, w1, rfl, ⟨hq, hbe⟩, rfl⟩
    have hbe' : Box w1 W.heap.size (.int .i64 0) 28 := hbe
    rcases hq with ⟨rfl, hl, v', o', hsh, ho, hd, hb⟩ | ⟨rfl, hl, hk, hb⟩
    · have hti := (hd.room (k := 0) (ht.less (by simp; omega))).1
      have hd2 := hd.wroteNew (kept_box w1 W.heap.size (.int .i64 0)) (by omega) (hbe'.apart hti (by decide) (by decide))
      have ho2 := (kept_box w1 W.heap.size (.int .i64 0)).own ho (fun b hb' e => by have := (ho.lt b hb').1; omega)
      have hbx2 := hb.other ⟨W.heap.size, 0, none⟩ (by show _ ≠ W.heap.size; omega) (.int .i64 0)
      have hb2 := hbx2.cell
      have hf2 := hbx2.free
      have hb3 := (hbx2.set v').cell
      have ho3 := (kept_box _ (w.heap.size + 1 + 1 + 1) v').own ho2 (fun b hb' e => by have := (ho.lt b hb').1; omega)
      have hti2 := (hd2.room (k := 0) (ht.less (by simp; omega))).1
      have hd3 := hd2.wroteNew (kept_box _ (w.heap.size + 1 + 1 + 1) v') (by omega) (hbx2.apart hti2 (by decide) (by decide))
      have hbase : Hid (∀ b, v'.ownBlock = some b → w.heap.size ≤ b) := fun b hb' => by have := (ho.lt b hb').1; omega
      obtain ⟨xo, xc, rfl⟩ := own_slice ho
      have HSH := toHid hsh
      clear hsh
      have HO := toHid ho3
      have HD := toHid hd3
      clear h1 ho hd hb ho2 hd2 ho3 hd3 hti hti2 hbx2 hbe hbe' hu hv ht
      generalize w1.setCell ⟨W.heap.size, 0, none⟩ (.int .i64 0) = W2 at *
      go_wp2_with fail
      refine bodyPost_ret (v := .slice xo (L + M) xc) (by simp [results, Tryz.results101, go_sem, hb3]) rfl ?_
      unfold mulAns mulEvs
      rw [if_pos hl, if_pos hl]
      exact ⟨_, rfl, Row.of_own (base := W.heap.size + 1) (e := 24) (by rw [digs_length]; exact HO.out), hbase.out, (fun _ => ⟨_, by omega, HSH.out, HO.out⟩), o', HD.out⟩
    · have k2 := hk.next (kept_box w1 W.heap.size (.int .i64 2)) (fun x hx e => by omega)
      have hbx2 := hb.other ⟨W.heap.size, 0, none⟩ (by show _ ≠ W.heap.size; omega) (.int .i64 2)
      have hb2 := hbx2.cell
      have hf2 := hbx2.free
      have hb3 := (hbx2.set (.slice none 0 0)).cell
      have HD := toHid (Did.of_kept (k2.next (kept_box _ (w.heap.size + 1 + 1 + 1) (.slice none 0 0)) (fun x hx e => by omega)) ht.1)
      clear h1 hb hu hv ht hk k2 hbx2 hbe hbe'
      generalize w1.setCell ⟨W.heap.size, 0, none⟩ (.int .i64 2) = W2 at *
      go_wp2_with fail
      refine bodyPost_ret (v := .slice none 0 0) (by simp [results, Tryz.results101, go_sem, hb3]) rfl ?_
      unfold mulAns mulEvs
      rw [if_neg hl, if_neg hl]
      exact ⟨_, rfl, Row.nil _ _, (fun b hb => by cases hb), (fun h => absurd h hl), o, HD.out⟩

end Go.Proofs.YtldbfcifoijliaaGreatDoor

/- Package product: extended, MulWord. -/
namespace Go.Proofs.YtldbfcifoijliaaGreatDoor
open Go.RowKit

theorem own_row' {w : World} {base n : Nat} {v : Value} {zs : List Nat} (h : OwnN .u64 24 w base v n zs) (hl : zs.length = n) : Row .u64 w v zs :=
  Row.of_own (base := base) (e := 24) (by rw [hl]; exact h)

end Go.Proofs.YtldbfcifoijliaaGreatDoor

/- Package product: MulWord. -/
namespace Go.Proofs.YtldbfcifoijliaaGreatDoor
open Go.RowKit

end Go.Proofs.YtldbfcifoijliaaGreatDoor

