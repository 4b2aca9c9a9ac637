/- Package power: attempt, refuse, step; a modulus and numbers in Montgomery's form, in memory; Mul, Enter and Leave on them. -/
import Derived.Test.YtoieghgaahfciaaGreatPowN
import Derived.Test.YtoieghgaahfciaaGreatMon5
namespace Go.Proofs.YtoieghgaahfciaaGreat
open Go.RowKit

set_option maxHeartbeats 400000 in
/-- The deferred closure, where nothing was refused. -/
theorem wCatchIdle (p : Addr) (w : World) :
    CallsD Tryz.prog 68 #[.pointer (some p)] .returning w fun e u' w' => e = .returned (.tuple #[]) ∧ u' = .returning ∧ w' = w := by
  refine callsD_of_wpS Tryz.func68 rfl fun c₀ cs hu => ?_
  apply wpS_seq
  apply wpS_region
  simp [wpOpsS, go_sem, recoverD, hu, Tryz.ntmps68, Exit.thenS]
  apply wpS_seq
  apply wpS_seq
  apply wpS_region
  simp [wpOpsS, go_sem, Exit.thenS]
  refine wpS_cond (t := true) (by simp [Act.eval, Array.replicate]) ?_
  simp only [if_true]
  refine wpS_of_wp (wp_ret ?_)
  cases c₀
  simp_all [bodyPostS, results, Tryz.results68, Exit.thenS]

set_option maxHeartbeats 400000 in
/-- The deferred closure, where something was refused. -/
theorem wCatch (p : Addr) (x n : Int) (older : List PanicEntry) (w : World) (hc : w.cell? p = some (.int .i64 x)) (hz : w.frozen? p = false) :
    CallsD Tryz.prog 68 #[.pointer (some p)] (.panicking (refusal n :: older)) w fun e u' w' =>
      e = .returned (.tuple #[]) ∧ u' = .panicking ({ refusal n with recovered := true } :: older) ∧ w' = w.setCell p (.int .i64 n) := by
  refine callsD_of_wpS Tryz.func68 rfl fun c₀ cs hu => ?_
  apply wpS_seq
  apply wpS_region
  simp [wpOpsS, go_sem, recoverD, hu, Tryz.ntmps68, Exit.thenS]
  apply wpS_seq
  apply wpS_seq
  apply wpS_region
  simp [wpOpsS, go_sem, Exit.thenS]
  refine wpS_cond (t := false) (by simp [Act.eval, Array.replicate]) ?_
  simp only [Bool.false_eq_true, if_false]
  refine wpS_of_wp (wp_skip ?_)
  simp only [Exit.thenS]
  refine wpS_of_wp ?_
  have hta : ∀ w : World, (Instr.typeAssert (.iface 29 (.int .i64 n)) 20 29 true).run Tryz.prog w = .ok (.tuple #[.int .i64 n, .bool true]) w := fun w => by kernel_rfl
  have hnot : ∀ (x : Bool) (w : World), (Op.unary .not (.bool x)).run Tryz.prog w = .ok (.bool (!x)) w := fun _ _ => rfl
  have e : (#[Value.pointer (some p)] ++ ((((Array.replicate 15 undef).setIfInBounds 3 (Value.iface 29 (Value.int IntKind.i64 n))).setIfInBounds 0 (Value.iface 29 (Value.int IntKind.i64 n))).setIfInBounds 4 (Value.iface 29 (Value.int IntKind.i64 n))).setIfInBounds 5 (Value.bool false) : Array Value) = #[.pointer (some p), .iface 29 (.int .i64 n), undef, undef, .iface 29 (.int .i64 n), .iface 29 (.int .i64 n), .bool false, undef, undef, undef, undef, undef, undef, undef, undef, undef] := rfl
  rw [e]
  clear e
  go_wp2
  simp [bodyPostS, results, Tryz.results68]

set_option maxHeartbeats 400000 in
/-- attempt: what the closure does, and 0, or the number with which it was refused. -/
theorem wAttempt (f : Nat) (cap : Array Value) (w : World) (Q : Int → World → Prop) (he : ∀ args w, (callFunc f args).run Tryz.prog w = .ok (.enter f args) w)
    (h : Calls Tryz.prog f cap (w.alloc (.cells #[.int .i64 0] 29)) fun e w' => w'.heap[w.heap.size]? = some (.cells #[.int .i64 0] 29 (0, 0)) ∧
      ((e = .returned (.tuple #[]) ∧ Q 0 w') ∨ ∃ n, e = .panicked [refusal n] ∧ Q n w')) :
    Calls Tryz.prog 48 #[.func (.func f) #[] cap] w fun e w' => ∃ n w1, e = .returned (.int .i64 n) ∧ (Q n w1 ∧ w1.heap[w.heap.size]? = some (.cells #[.int .i64 0] 29 (0, 0))) ∧ w' = w1.setCell ⟨w.heap.size, 0, none⟩ (.int .i64 n) := by
  have hmf : ∀ (fn : Fn) (first cap : Array Value) (w : World), (Instr.makeFunc fn first cap).run Tryz.prog w = .ok (.func fn first cap) w := fun _ _ _ _ => rfl
  go_enter_defers Tryz.func48, Tryz.ntmps48
  go_wp2_with fail
  refine h.mono ?_
  rintro e w1 ⟨hb, (⟨rfl, hq⟩ | ⟨n, rfl, hq⟩)⟩
  · have hc : w1.cell? ⟨w.heap.size, 0, none⟩ = some (.int .i64 0) := by simp [World.cell?, hb]
    have hz : w1.frozen? ⟨w.heap.size, 0, none⟩ = false := by simp [World.frozen?, hb]
    clear h
    go_wp2_with fail
    refine leaves_cons (f := 68) (args := #[.pointer (some ⟨w.heap.size, 0, none⟩)]) (by simp) (by simp [go_sem]) ?_
    refine (wCatchIdle ⟨w.heap.size, 0, none⟩ _).mono ?_
    rintro e u' w'' ⟨rfl, rfl, rfl⟩
    have hc2 : (w1.setCell ⟨w.heap.size, 0, none⟩ (.int .i64 0)).cell? ⟨w.heap.size, 0, none⟩ = some (.int .i64 0) := World.cell?_setCell_same' _ _ _ (by rw [hc]; rfl)
    simp [Leaves, settle, results, Tryz.results48, go_sem, hc2]
    exact ⟨_, ⟨hq, hb⟩, rfl⟩
  · have hc : w1.cell? ⟨w.heap.size, 0, none⟩ = some (.int .i64 0) := by simp [World.cell?, hb]
    have hz : w1.frozen? ⟨w.heap.size, 0, none⟩ = false := by simp [World.frozen?, hb]
    clear h
    refine leaves_cons (f := 68) (args := #[.pointer (some ⟨w.heap.size, 0, none⟩)]) (by simp) (by simp [go_sem]) ?_
    refine (wCatch ⟨w.heap.size, 0, none⟩ 0 n [] _ hc hz).mono ?_
    rintro e u' w'' ⟨rfl, rfl, rfl⟩
    have hc2 : (w1.setCell ⟨w.heap.size, 0, none⟩ (.int .i64 n)).cell? ⟨w.heap.size, 0, none⟩ = some (.int .i64 n) := World.cell?_setCell_same' _ _ _ (by rw [hc]; rfl)
    simp [Leaves, settle, results, Tryz.results48, go_sem, hc2]
    exact ⟨_, ⟨hq, hb⟩, rfl⟩

set_option maxHeartbeats 400000 in
/-- refuse, of no error. -/
theorem wRefuseNo (w : World) : Calls Tryz.prog 52 #[.int .i64 0] w fun e w' => e = .returned (.tuple #[]) ∧ w' = w := by
  go_enter Tryz.func52, Tryz.ntmps52
  go_wp2
  go_end0
  exact ⟨rfl, rfl⟩

set_option maxHeartbeats 400000 in
/-- refuse, of an error. -/
theorem wRefuseYes (n : Int) (hn : n ≠ 0) (w : World) : Calls Tryz.prog 52 #[.int .i64 n] w fun e w' => e = .panicked [refusal n] ∧ w' = w := by
  go_enter Tryz.func52, Tryz.ntmps52
  go_wp2
  exact ⟨rfl, rfl, rfl⟩

set_option maxHeartbeats 400000 in
/-- step, of no error. -/
theorem wStep (ao : Option Addr) (n cap : Nat) (w : World) : Calls Tryz.prog 56 #[.slice ao n cap, .int .i64 0] w fun e w' => e = .returned (.slice ao n cap) ∧ w' = w := by
  have hR := wRefuseNo w
  go_enter Tryz.func56, Tryz.ntmps56
  go_wp2_with fail
  refine hR.mono ?_
  rintro e w' ⟨rfl, rfl⟩
  go_wp2
  go_ret
  exact ⟨rfl, rfl⟩

/-- A modulus that is one, apart from the trace. -/
structure Mod8 (w : World) (o : Tr) (ao bo : Option Addr) (n l K mcap rcap : Nat) (ms rs : List Nat) : Prop where
  hm : RowT w o (.slice ao n mcap) ms
  hr : RowT w o (.slice bo l rcap) rs
  hmd : Digs 18446744073709551616 ms
  hrd : Digs 18446744073709551616 rs
  hK : K < 18446744073709551616
  ok : okMod ms K rs

theorem Mod8.did {w w' : World} {o o' : Tr} {m : List Ev} {ao bo : Option Addr} {n l K mcap rcap : Nat} {ms rs : List Nat} (h : Mod8 w o ao bo n l K mcap rcap ms rs) (d : Did w o m w' o') : Mod8 w' o' ao bo n l K mcap rcap ms rs := ⟨h.hm.did d, h.hr.did d, h.hmd, h.hrd, h.hK, h.ok⟩

theorem Mod8.grew {w w' : World} {o : Tr} {ao bo : Option Addr} {n l K mcap rcap : Nat} {ms rs : List Nat} (h : Mod8 w o ao bo n l K mcap rcap ms rs) (k : Kept Nought w w') : Mod8 w' o ao bo n l K mcap rcap ms rs := ⟨h.hm.grew k, h.hr.grew k, h.hmd, h.hrd, h.hK, h.ok⟩

/-- What is known of its numbers. -/
theorem Mod8.facts {w : World} {o : Tr} {ao bo : Option Addr} {n l K mcap rcap : Nat} {ms rs : List Nat} (h : Mod8 w o ao bo n l K mcap rcap ms rs) : (0 < n ∧ n ≤ 130) ∧ l = n ∧ val 18446744073709551616 ms % 2 = 1 ∧ 2 ≤ val 18446744073709551616 ms ∧ val 18446744073709551616 ms < 18446744073709551616 ^ n := by
  obtain ⟨_, _, _, e1, h1, _⟩ := h.hm.1.open
  cases e1
  obtain ⟨_, _, _, e1, h2, _⟩ := h.hr.1.open
  cases e1
  obtain ⟨_, f2, f3, f4, f5, f6, _⟩ := h.ok.facts h1.out h2.out h.hmd h.hrd h.hK
  have m := montE_ok h.ok.1
  exact ⟨⟨f2, f3⟩, f4, f5, by omega, f6⟩

/-- A number in Montgomery's form, in a block of words. -/
def MonAt (w : World) (v : Value) (n V P : Nat) : Prop := Row .u64 w v (digs 18446744073709551616 (mon n V P) n) ∧ U64s w v

theorem MonAt.did {w w' : World} {o o' : Tr} {m : List Ev} {v : Value} {n V P : Nat} (h : MonAt w v n V P) (d : Did w o m w' o') (ht : TrIn w o) : MonAt w' v n V P := ⟨((h.2.rowT h.1 ht).did d).1, h.2.did d ht⟩

theorem MonAt.grew {w w' : World} {v : Value} {n V P : Nat} (h : MonAt w v n V P) (k : Kept Nought w w') : MonAt w' v n V P := ⟨h.1.grew k, h.2.grew k⟩

theorem MonAt.kept {S : Nat → Prop} {w w' : World} {v : Value} {n V P : Nat} (h : MonAt w v n V P) (k : Kept S w w') (hs : ∀ b, v.ownBlock = some b → ¬ S b) : MonAt w' v n V P := ⟨h.1.kept k hs, h.2.kept k hs⟩

theorem MonAt.shape {w : World} {v : Value} {n V P : Nat} (h : MonAt w v n V P) : ∃ xo xc, v = .slice xo n xc := by
  obtain ⟨xo, xn, xc, rfl, hl, _⟩ := h.1.open
  have := hl.out
  rw [digs_length] at this
  subst this
  exact ⟨_, _, rfl⟩

theorem mon_val {n V P : Nat} (hV : 0 < V) (hn : V < 18446744073709551616 ^ n) : val 18446744073709551616 (digs 18446744073709551616 (mon n V P) n) = mon n V P := by
  rw [val_digs, Nat.mod_eq_of_lt (Nat.lt_trans (mon_lt hV) hn)]

/-- What a product, an entry, a leave write down. -/
def mulEv8 (n : Nat) : List Ev := List.replicate 2 (1, (n : Int), 0) ++ timesEvs n

def entEv8 (n : Nat) : List Ev := List.replicate 1 (1, (n : Int), 0) ++ timesEvs n

def leaEv8 (n : Nat) : List Ev := List.replicate 1 (1, (n : Int), 0) ++ List.replicate (n + 2) (1, (n : Int), 0)

theorem ev8_len {n : Nat} (h : n ≤ 130) : (mulEv8 n).length ≤ 2000 ∧ (entEv8 n).length ≤ 2000 ∧ (leaEv8 n).length ≤ 2000 := by
  unfold mulEv8 entEv8 leaEv8 timesEvs
  simp
  omega

/-- The product of two such numbers. -/
theorem mul8 (o : Tr) (ao bo xo yo : Option Addr) (n l K mcap rcap xc yc P Q : Nat) (ms rs : List Nat) (w : World) (ht : TrRoom w o 2000) (hM : Mod8 w o ao bo n l K mcap rcap ms rs) (hx : MonAt w (.slice xo n xc) n (val 18446744073709551616 ms) P) (hy : MonAt w (.slice yo n yc) n (val 18446744073709551616 ms) Q) :
    Calls Tryz.prog 57 #[trPtr o, .agg #[.slice ao n mcap, .int .u64 (K : Nat), .slice bo l rcap], .slice xo n xc, .slice yo n yc] w fun e w' => ∃ zo zc, e = .returned (.tuple #[.slice zo n zc, .int .i64 0]) ∧ MonAt w' (.slice zo n zc) n (val 18446744073709551616 ms) (P * Q) ∧ Fresh w (.slice zo n zc) ∧ ∃ o', Did w o (mulEv8 n) w' o' := by
  obtain ⟨⟨f0, f1⟩, f2, f3, f4, f5⟩ := hM.facts
  have hV : 0 < val 18446744073709551616 ms := by omega
  have ex := mon_val (P := P) hV f5
  have ey := mon_val (P := Q) hV f5
  refine (mMul o ao bo xo yo n l K mcap rcap n n xc yc 0 ms rs _ _ w ht hM.hm hM.hr (hx.2.rowT hx.1 ht.1) (hy.2.rowT hy.1 ht.1) hM.hmd hM.hrd (digs_digs (by omega) _ _) (digs_digs (by omega) _ _) hM.hK (by omega) ⟨fun _ => ⟨hM.ok, ⟨rfl, by rw [ex]; exact mon_lt hV⟩, rfl, by rw [ey]; exact mon_lt hV⟩, fun _ => rfl⟩ (by omega)).mono ?_
  rintro e w' ⟨v', rfl, ⟨Y, hR, hG⟩, ⟨hF, hU⟩, o', d⟩
  rw [if_pos f1] at d
  rw [if_pos rfl] at hR
  have hG' := hG rfl
  rw [ex, ey] at hG'
  rw [mon_mul f3 hG'.1 hG'.2] at hR
  have hA : MonAt w' v' n (val 18446744073709551616 ms) (P * Q) := ⟨hR, hU⟩
  obtain ⟨zo, zc, rfl⟩ := hA.shape
  exact ⟨zo, zc, rfl, hA, hF, o', d⟩

/-- A number goes in. -/
theorem ent8 (o : Tr) (ao bo xo : Option Addr) (n l K mcap rcap xc : Nat) (ms rs xs : List Nat) (w : World) (ht : TrRoom w o 2000) (hM : Mod8 w o ao bo n l K mcap rcap ms rs) (hx : RowT w o (.slice xo n xc) xs) (hdx : Digs 18446744073709551616 xs) (hlt : val 18446744073709551616 xs < val 18446744073709551616 ms) :
    Calls Tryz.prog 50 #[trPtr o, .agg #[.slice ao n mcap, .int .u64 (K : Nat), .slice bo l rcap], .slice xo n xc] w fun e w' => ∃ zo zc, e = .returned (.tuple #[.slice zo n zc, .int .i64 0]) ∧ MonAt w' (.slice zo n zc) n (val 18446744073709551616 ms) (val 18446744073709551616 xs) ∧ Fresh w (.slice zo n zc) ∧ ∃ o', Did w o (entEv8 n) w' o' := by
  obtain ⟨⟨f0, f1⟩, f2, f3, f4, f5⟩ := hM.facts
  refine (mEnter o ao bo xo n l K mcap rcap n xc 0 ms rs xs w ht hM.hm hM.hr hx hM.hmd hM.hrd hdx hM.hK (by omega) ⟨fun _ => ⟨hM.ok, rfl, hlt⟩, fun _ => rfl⟩ (by omega)).mono ?_
  rintro e w' ⟨v', rfl, ⟨Y, hR, hG⟩, ⟨hF, hU⟩, o', d⟩
  rw [if_pos f1] at d
  rw [if_pos rfl] at hR
  have hG' : Y = mon n (val 18446744073709551616 ms) (val 18446744073709551616 xs) := hG rfl
  rw [hG'] at hR
  have hA : MonAt w' v' n (val 18446744073709551616 ms) (val 18446744073709551616 xs) := ⟨hR, hU⟩
  obtain ⟨zo, zc, rfl⟩ := hA.shape
  exact ⟨zo, zc, rfl, hA, hF, o', d⟩

/-- A number comes out. -/
theorem lea8 (o : Tr) (ao bo xo : Option Addr) (n l K mcap rcap xc P : Nat) (ms rs : List Nat) (w : World) (ht : TrRoom w o 2000) (hM : Mod8 w o ao bo n l K mcap rcap ms rs) (hx : MonAt w (.slice xo n xc) n (val 18446744073709551616 ms) P) :
    Calls Tryz.prog 59 #[trPtr o, .agg #[.slice ao n mcap, .int .u64 (K : Nat), .slice bo l rcap], .slice xo n xc] w fun e w' => ∃ zo zc, e = .returned (.tuple #[.slice zo n zc, .int .i64 0]) ∧ (Row .u64 w' (.slice zo n zc) (digs 18446744073709551616 (P % val 18446744073709551616 ms) n) ∧ U64s w' (.slice zo n zc)) ∧ Fresh w (.slice zo n zc) ∧ ∃ o', Did w o (leaEv8 n) w' o' := by
  obtain ⟨⟨f0, f1⟩, f2, f3, f4, f5⟩ := hM.facts
  have hV : 0 < val 18446744073709551616 ms := by omega
  have ex := mon_val (P := P) hV f5
  refine (mLeave o ao bo xo n l K mcap rcap n xc 0 ms rs _ w ht hM.hm hM.hr (hx.2.rowT hx.1 ht.1) hM.hmd hM.hrd (digs_digs (by omega) _ _) hM.hK (by omega) ⟨fun _ => ⟨hM.ok, rfl, by rw [ex]; exact mon_lt hV⟩, fun _ => rfl⟩ (by omega)).mono ?_
  rintro e w' ⟨v', rfl, ⟨Y, hR, hG⟩, ⟨hF, hU⟩, o', d⟩
  rw [if_pos f1] at d
  rw [if_pos rfl] at hR
  have hG' := hG rfl
  rw [ex] at hG'
  rw [mon_leave f3 hG'.1 hG'.2] at hR
  obtain ⟨zo, zn, zc, rfl, hl, _⟩ := hR.open
  have hln := hl.out
  rw [digs_length] at hln
  subst hln
  exact ⟨zo, zc, rfl, ⟨hR, hU⟩, hF, o', d⟩

end Go.Proofs.YtoieghgaahfciaaGreat
