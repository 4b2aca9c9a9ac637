/- Put together of: Mir1 Prm3 Str1. -/
import Derived.Test.YtcjaafmlflonhaaGreatDoorPk16
import Derived.Test.YtcjaafmlflonhaaGreatDoorPk17

/- Package miller: attempt, refuse, step, equal, refuseNumber. -/
namespace Go.Proofs.YtcjaafmlflonhaaGreatDoor
open Go.RowKit

set_option maxHeartbeats 400000 in
/-- The deferred closure, where nothing was refused. -/
theorem yCatchIdle (p : Addr) (w : World) :
    CallsD Tryz.prog 104 #[.pointer (some p)] .returning w fun e u' w' => e = .returned (.tuple #[]) ∧ u' = .returning ∧ w' = w := by
  refine callsD_of_wpS Tryz.func104 rfl fun c₀ cs hu => ?_
  apply wpS_seq
  apply wpS_region
  simp [wpOpsS, go_sem, recoverD, hu, Tryz.ntmps104, Exit.thenS]
  apply wpS_seq
  apply wpS_seq
  apply wpS_region
  simp [wpOpsS, go_sem, Exit.thenS]
  refine wpS_cond (t := true) (by simp [Act.eval, Array.replicate]) ?_
  simp only [if_true]
  refine wpS_of_wp (wp_ret ?_)
  cases c₀
  simp_all [bodyPostS, results, Tryz.results104, Exit.thenS]

set_option maxHeartbeats 400000 in
/-- The deferred closure, where something was refused. -/
theorem yCatch (p : Addr) (x n : Int) (older : List PanicEntry) (w : World) (hc : w.cell? p = some (.int .i64 x)) (hz : w.frozen? p = false) :
    CallsD Tryz.prog 104 #[.pointer (some p)] (.panicking (refusal n :: older)) w fun e u' w' =>
      e = .returned (.tuple #[]) ∧ u' = .panicking ({ refusal n with recovered := true } :: older) ∧ w' = w.setCell p (.int .i64 n) := by
  refine callsD_of_wpS Tryz.func104 rfl fun c₀ cs hu => ?_
  apply wpS_seq
  apply wpS_region
  simp [wpOpsS, go_sem, recoverD, hu, Tryz.ntmps104, Exit.thenS]
  apply wpS_seq
  apply wpS_seq
  apply wpS_region
  simp [wpOpsS, go_sem, Exit.thenS]
  refine wpS_cond (t := false) (by simp [Act.eval, Array.replicate]) ?_
  simp only [Bool.false_eq_true, if_false]
  refine wpS_of_wp (wp_skip ?_)
  simp only [Exit.thenS]
  refine wpS_of_wp ?_
  have hta : ∀ w : World, (Instr.typeAssert (.iface 32 (.int .i64 n)) 20 32 true).run Tryz.prog w = .ok (.tuple #[.int .i64 n, .bool true]) w := fun w => by kernel_rfl
  have hnot : ∀ (x : Bool) (w : World), (Op.unary .not (.bool x)).run Tryz.prog w = .ok (.bool (!x)) w := fun _ _ => rfl
  have e : (#[Value.pointer (some p)] ++ ((((Array.replicate 15 undef).setIfInBounds 3 (Value.iface 32 (Value.int IntKind.i64 n))).setIfInBounds 0 (Value.iface 32 (Value.int IntKind.i64 n))).setIfInBounds 4 (Value.iface 32 (Value.int IntKind.i64 n))).setIfInBounds 5 (Value.bool false) : Array Value) = #[.pointer (some p), .iface 32 (.int .i64 n), undef, undef, .iface 32 (.int .i64 n), .iface 32 (.int .i64 n), .bool false, undef, undef, undef, undef, undef, undef, undef, undef, undef] := rfl
  rw [e]
  clear e
  go_wp2
  simp [bodyPostS, results, Tryz.results104]

set_option maxHeartbeats 400000 in
/-- attempt: what the closure does, and 0, or the number with which it was refused. -/
theorem yAttempt (f : Nat) (cap : Array Value) (w : World) (Q : Int → World → Prop) (he : ∀ args w, (callFunc f args).run Tryz.prog w = .ok (.enter f args) w)
    (h : Calls Tryz.prog f cap (w.alloc (.cells #[.int .i64 0] 32)) fun e w' => w'.heap[w.heap.size]? = some (.cells #[.int .i64 0] 32 (0, 0)) ∧
      ((e = .returned (.tuple #[]) ∧ Q 0 w') ∨ ∃ n, e = .panicked [refusal n] ∧ Q n w')) :
    Calls Tryz.prog 69 #[.func (.func f) #[] cap] w fun e w' => ∃ n w1, e = .returned (.int .i64 n) ∧ (Q n w1 ∧ w1.heap[w.heap.size]? = some (.cells #[.int .i64 0] 32 (0, 0))) ∧ w' = w1.setCell ⟨w.heap.size, 0, none⟩ (.int .i64 n) := by
  have hmf : ∀ (fn : Fn) (first cap : Array Value) (w : World), (Instr.makeFunc fn first cap).run Tryz.prog w = .ok (.func fn first cap) w := fun _ _ _ _ => rfl
  go_enter_defers Tryz.func69, Tryz.ntmps69
  go_wp2_with fail
  refine h.mono ?_
  rintro e w1 ⟨hb, (⟨rfl, hq⟩ | ⟨n, rfl, hq⟩)⟩
  · have hc : w1.cell? ⟨w.heap.size, 0, none⟩ = some (.int .i64 0) := by simp [World.cell?, hb]
    have hz : w1.frozen? ⟨w.heap.size, 0, none⟩ = false := by simp [World.frozen?, hb]
    clear h
    go_wp2_with fail
    refine leaves_cons (f := 104) (args := #[.pointer (some ⟨w.heap.size, 0, none⟩)]) (by simp) (by simp [go_sem]) ?_
    refine (yCatchIdle ⟨w.heap.size, 0, none⟩ _).mono ?_
    rintro e u' w'' ⟨rfl, rfl, rfl⟩
    have hc2 : (w1.setCell ⟨w.heap.size, 0, none⟩ (.int .i64 0)).cell? ⟨w.heap.size, 0, none⟩ = some (.int .i64 0) := World.cell?_setCell_same' _ _ _ (by rw [hc]; rfl)
    simp [Leaves, settle, results, Tryz.results69, go_sem, hc2]
    exact ⟨_, ⟨hq, hb⟩, rfl⟩
  · have hc : w1.cell? ⟨w.heap.size, 0, none⟩ = some (.int .i64 0) := by simp [World.cell?, hb]
    have hz : w1.frozen? ⟨w.heap.size, 0, none⟩ = false := by simp [World.frozen?, hb]
    clear h
    refine leaves_cons (f := 104) (args := #[.pointer (some ⟨w.heap.size, 0, none⟩)]) (by simp) (by simp [go_sem]) ?_
    refine (yCatch ⟨w.heap.size, 0, none⟩ 0 n [] _ hc hz).mono ?_
    rintro e u' w'' ⟨rfl, rfl, rfl⟩
    have hc2 : (w1.setCell ⟨w.heap.size, 0, none⟩ (.int .i64 n)).cell? ⟨w.heap.size, 0, none⟩ = some (.int .i64 n) := World.cell?_setCell_same' _ _ _ (by rw [hc]; rfl)
    simp [Leaves, settle, results, Tryz.results69, go_sem, hc2]
    exact ⟨_, ⟨hq, hb⟩, rfl⟩

set_option maxHeartbeats 400000 in
/-- refuse, where it is not so. -/
theorem yRefuseNo (n : Int) (w : World) : Calls Tryz.prog 72 #[.bool false, .int .i64 n] w fun e w' => e = .returned (.tuple #[]) ∧ w' = w := by
  go_enter Tryz.func72, Tryz.ntmps72
  go_wp2
  go_end0
  exact ⟨rfl, rfl⟩

set_option maxHeartbeats 400000 in
/-- refuse, where it is so. -/
theorem yRefuseYes (n : Int) (w : World) : Calls Tryz.prog 72 #[.bool true, .int .i64 n] w fun e w' => e = .panicked [refusal n] ∧ w' = w := by
  go_enter Tryz.func72, Tryz.ntmps72
  go_wp2
  exact ⟨rfl, rfl, rfl⟩

set_option maxHeartbeats 400000 in
/-- step, of no error. -/
theorem yStep (ao : Option Addr) (n cap : Nat) (w : World) : Calls Tryz.prog 110 #[.slice ao n cap, .int .i64 0] w fun e w' => e = .returned (.slice ao n cap) ∧ w' = w := by
  have hR := yRefuseNo 0 w
  go_enter Tryz.func110, Tryz.ntmps110
  go_wp2_with fail
  refine hR.mono ?_
  rintro e w' ⟨rfl, rfl⟩
  go_wp2
  go_ret
  exact ⟨rfl, rfl⟩

set_option maxHeartbeats 400000 in
/-- equal. -/
theorem yEqual (u v : Value) (xs ys : List Nat) (R : Bool) (hR : R = decide (val 18446744073709551616 xs = val 18446744073709551616 ys)) (w : World) (hu : Row .u64 w u xs) (hv : Row .u64 w v ys) (hdx : Digs 18446744073709551616 xs) (hdy : Digs 18446744073709551616 ys) (hL : xs.length ≤ 100000000) (hM : ys.length ≤ 100000000) :
    Calls Tryz.prog 114 #[u, v] w fun e w' => e = .returned (.bool R) ∧ Kept Nought w w' := by
  have hE := lEqual none u v xs ys w (TrRoom.none w 1 (by omega)) (RowT.none hu) (RowT.none hv) hdx hdy hL hM
  rw [← hR] at hE
  obtain ⟨ao, L, cap, rfl, _⟩ := hu.open
  obtain ⟨bo, M, dap, rfl, _⟩ := hv.open
  clear hu hv hdx hdy hL hM hR
  cases R with
  | true =>
    go_enter Tryz.func114, Tryz.ntmps114
    go_wp2_with fail
    refine hE.mono ?_
    rintro e w' ⟨rfl, o', d⟩
    have k := d.none.2
    clear hE d
    go_wp2_with fail
    go_ret
    exact ⟨rfl, k⟩
  | false =>
    go_enter Tryz.func114, Tryz.ntmps114
    go_wp2_with fail
    refine hE.mono ?_
    rintro e w' ⟨rfl, o', d⟩
    have k := d.none.2
    clear hE d
    go_wp2_with fail
    go_ret
    exact ⟨rfl, k⟩

theorem odd_bits (X : Nat) : (8320 < blen X ↔ 130 < wordsN X) ∧ (blen X < 3 ↔ X ≤ 3) := by
  have h1 := needs_words X
  have h2 := blen_le X 2
  constructor
  · omega
  · have : (2 : Nat) ^ 2 = 4 := by decide
    omega

set_option maxRecDepth 20000 in
set_option maxHeartbeats 1000000 in
/-- refuseNumber. -/
theorem yRefuseNumber (ao : Option Addr) (L cap : Nat) (xs : List Nat) (E : Nat) (hE : E = oddE (val 18446744073709551616 xs)) (w : World) (h : Row .u64 w (.slice ao L cap) xs) (hd : Digs 18446744073709551616 xs) (hl : L ≤ 1000000) :
    Calls Tryz.prog 71 #[.slice ao L cap] w fun e w' => ((E = 0 ∧ e = .returned (.tuple #[])) ∨ (E ≠ 0 ∧ e = .panicked [refusal (E : Nat)])) ∧ w' = w := by
  obtain ⟨_, _, _, e1, hLx, _, _, _, hnum⟩ := h.open
  cases e1
  have hB := nBits _ xs w h hd (by rw [hLx.out]; omega)
  obtain ⟨V, hV⟩ : ∃ V, V = val 18446744073709551616 xs := ⟨_, rfl⟩
  rw [← hV] at hB hE
  have HX := toHid (dig_val (by omega) hd 0)
  rw [← hV] at HX
  have HLT : Hid (V < 18446744073709551616 ^ L) := by have := val_lt (by omega) hd; rw [hLx.out, ← hV] at this; exact this
  have HDB : Hid (xs.getD 0 0 < 18446744073709551616) := hd.getD (by omega) _
  obtain ⟨hb1, hb2⟩ := odd_bits V
  obtain ⟨b, hb⟩ : ∃ b, b = blen V := ⟨_, rfl⟩
  rw [← hb] at hB hb1 hb2
  unfold oddE at hE
  clear hV h hd hb
  have hN2 := yRefuseNo 2 w
  have hN1 := yRefuseNo 1 w
  by_cases h1 : 130 < wordsN V
  · have hY := yRefuseYes 2 w
    rw [if_pos h1] at hE
    subst hE
    have g1 : (b : Int) > 8320 := by have := hb1.2 h1; omega
    have g1' : (8320 : Int) < (b : Int) := g1
    clear hnum hN1 hN2 hb1 hb2 h1
    go_enter Tryz.func71, Tryz.ntmps71
    go_wp2_with fail
    refine hB.mono ?_
    rintro e w' ⟨rfl, rfl⟩
    go_wp2_with fail
    refine hY.mono ?_
    rintro e w' ⟨rfl, rfl⟩
    exact ⟨rfl, .inr ⟨by omega, rfl⟩, rfl⟩
  · rw [if_neg h1] at hE
    have g1 : ¬ (b : Int) > 8320 := by have := mt hb1.1 h1; omega
    have g1' : ¬ (8320 : Int) < (b : Int) := g1
    have q1 : decide ((8320 : Int) < (b : Int)) = false := decide_eq_false g1'
    by_cases h2 : V ≤ 3
    · have hY := yRefuseYes 1 w
      rw [if_pos (.inl h2)] at hE
      subst hE
      have g2 : (b : Int) < 3 := by have := hb2.2 h2; omega
      clear hnum hN1 hb1 hb2 h1
      go_enter Tryz.func71, Tryz.ntmps71
      go_wp2_with fail
      refine hB.mono ?_
      rintro e w' ⟨rfl, rfl⟩
      go_wp2_with fail
      refine hN2.mono ?_
      rintro e w' ⟨rfl, rfl⟩
      go_wp2_with fail
      refine hY.mono ?_
      rintro e w' ⟨rfl, rfl⟩
      exact ⟨rfl, .inr ⟨by omega, rfl⟩, rfl⟩
    · have g2 : ¬ (b : Int) < 3 := by have := mt hb2.1 h2; omega
      have hL0 : 0 < L := by
        rcases Nat.eq_zero_or_pos L with h0 | h0
        · have := HLT.out
          rw [h0, Nat.pow_zero] at this
          omega
        · exact h0
      obtain ⟨b2, off2, rfl, hc2⟩ := hnum 0 hL0
      have hx0 := HDB.out
      have hdg : V % 18446744073709551616 = xs.getD 0 0 := by
        have := HX.out
        unfold dig at this
        rwa [Nat.pow_zero, Nat.div_one] at this
      have hpar : (xs.getD 0 0) % 2 = V % 2 := by omega
      have hand := and_one_u64 (xs.getD 0 0 : Nat) (by omega) (by omega)
      generalize xs.getD 0 0 = x at *
      rw [Nat.add_zero] at hc2
      clear hnum hdg HX hb1 hb2 h1
      by_cases h3 : V % 2 = 0
      · have hY := yRefuseYes 1 w
        rw [if_pos (.inr h3)] at hE
        subst hE
        have hz : bits .and .u64 (x : Int) 1 = 0 := by rw [hand]; omega
        clear hand hpar
        go_enter Tryz.func71, Tryz.ntmps71
        go_wp2_with fail
        refine hB.mono ?_
        rintro e w' ⟨rfl, rfl⟩
        go_wp2_with fail
        refine hN2.mono ?_
        rintro e w' ⟨rfl, rfl⟩
        go_wp2_with fail
        refine hY.mono ?_
        rintro e w' ⟨rfl, rfl⟩
        exact ⟨rfl, .inr ⟨by omega, rfl⟩, rfl⟩
      · rw [if_neg (by omega)] at hE
        subst hE
        have hz : bits .and .u64 (x : Int) 1 = 1 := by rw [hand]; omega
        clear hand hpar
        go_enter Tryz.func71, Tryz.ntmps71
        go_wp2_with fail
        refine hB.mono ?_
        rintro e w' ⟨rfl, rfl⟩
        go_wp2_with fail
        refine hN2.mono ?_
        rintro e w' ⟨rfl, rfl⟩
        go_wp2_with fail
        rw [show decide ((b : Int) < 3) = false from decide_eq_false (by omega)]
        refine hN1.mono ?_
        rintro e w' ⟨rfl, rfl⟩
        go_wp2_with fail
        go_end0
        exact ⟨.inl ⟨trivial, rfl⟩, rfl⟩

end Go.Proofs.YtcjaafmlflonhaaGreatDoor


/- The plain side of layer 17 (package sconceref16): Strong. -/
namespace Go.Proofs.YtcjaafmlflonhaaGreatDoor
open Go.RowKit

/-- M has just s noughts at its low end, as bits. -/
def IsTz (M s : Nat) : Prop := M / 2 ^ s % 2 = 1 ∧ ∀ j, j < s → M / 2 ^ j % 2 = 0

theorem IsTz.uniq {M s t : Nat} (h : IsTz M s) (g : IsTz M t) : s = t := by
  rcases Nat.lt_trichotomy s t with h1 | h1 | h1
  · have := g.2 s h1
    have := h.1
    omega
  · exact h1
  · have := h.2 t h1
    have := g.1
    omega

theorem tz_ex : ∀ (n M : Nat), 0 < M → M < 2 ^ n → ∃ s, IsTz M s ∧ s < n
  | 0, M, h, g => by simp at g; omega
  | n + 1, M, h, g => by
    by_cases h1 : M % 2 = 1
    · exact ⟨0, ⟨by simpa using h1, fun j hj => by omega⟩, by omega⟩
    · have hd : 0 < M / 2 := by omega
      obtain ⟨s, ⟨hs, hs2⟩, hn⟩ := tz_ex n (M / 2) hd (by rw [Nat.pow_succ] at g; omega)
      refine ⟨s + 1, ⟨?_, fun j hj => ?_⟩, by omega⟩
      · rw [Nat.pow_succ, Nat.mul_comm, ← Nat.div_div_eq_div_mul]
        exact hs
      · cases j with
        | zero => simp; omega
        | succ j =>
          rw [Nat.pow_succ, Nat.mul_comm, ← Nat.div_div_eq_div_mul]
          exact hs2 j (by omega)

/-- Whether N passes the strong test with the base A. -/
def strongP (N A : Nat) : Prop := ∃ s, IsTz (N - 1) s ∧ (A ^ ((N - 1) / 2 ^ s) % N = 1 ∨ ∃ i, i < s ∧ (A ^ ((N - 1) / 2 ^ s)) ^ 2 ^ i % N = N - 1)

/-- What Strong answers beside it. -/
def strE (N A : Nat) : Nat := if oddE N ≠ 0 then oddE N else if A < 2 ∨ N - 1 ≤ A then 1 else 0

theorem oddE_ok {X : Nat} (h : oddE X = 0) : 3 < X ∧ X % 2 = 1 ∧ ∃ n, n ≤ 130 ∧ X < 18446744073709551616 ^ n := by
  unfold oddE at h
  split at h
  · omega
  · rename_i h1
    split at h
    · omega
    · exact ⟨by omega, by omega, wordsN X, by omega, (wordsN_le X _).1 (Nat.le_refl _)⟩

theorem sq_pow (X B i : Nat) : (B ^ 2 ^ i % X) * (B ^ 2 ^ i % X) % X = B ^ 2 ^ (i + 1) % X := by
  rw [← Nat.mul_mod, ← Nat.pow_add]
  congr 2
  rw [Nat.pow_succ]
  omega

set_option maxRecDepth 20000 in
set_option maxHeartbeats 2000000 in
/-- Strong. -/
theorem r16Strong (ao bo : Option Addr) (L M cap dap : Nat) (xs ys : List Nat) (E : Nat) (R : Bool) (hE : E = strE (val 18446744073709551616 xs) (val 18446744073709551616 ys)) (hR : R = true ↔ E = 0 ∧ strongP (val 18446744073709551616 xs) (val 18446744073709551616 ys)) (w : World)
    (hu : Row .u64 w (.slice ao L cap) xs) (hv : Row .u64 w (.slice bo M dap) ys) (hdx : Digs 18446744073709551616 xs) (hdy : Digs 18446744073709551616 ys) (hLb : L ≤ 1000000) (hMb : M ≤ 1000000) :
    Calls Tryz.prog 55 #[.slice ao L cap, .slice bo M dap] w fun e w' => e = .returned (.tuple #[.bool R, .int .i64 (E : Int)]) ∧ Kept Nought w w' := by
  obtain ⟨_, _, _, e1, hL, _, _, _, _⟩ := hu.open
  cases e1
  obtain ⟨_, _, _, e1, hM, _, _, _, _⟩ := hv.open
  cases e1
  have hO := r16odd ao L cap xs _ rfl w hu hdx hLb
  have JX : Hid (∀ W, Kept Nought w W → Calls Tryz.prog 11 #[.slice ao L cap] W fun r w' => ∃ v', r = .returned v' ∧ IsBig w' v' (val 18446744073709551616 xs) ∧ (∀ b, v'.ownBlock = some b → W.heap.size ≤ b) ∧ Kept Nought W w') := fun W k => rOf _ xs W (hu.grew k) hdx (by rw [hL.out]; omega)
  have JY : Hid (∀ W, Kept Nought w W → Calls Tryz.prog 11 #[.slice bo M dap] W fun r w' => ∃ v', r = .returned v' ∧ IsBig w' v' (val 18446744073709551616 ys) ∧ (∀ b, v'.ownBlock = some b → W.heap.size ≤ b) ∧ Kept Nought W w') := fun W k => rOf _ ys W (hv.grew k) hdy (by rw [hM.out]; omega)
  have HE := toHid hE
  have HR := toHid hR
  clear hu hv hdx hdy hLb hMb hL hM hE hR
  generalize val 18446744073709551616 xs = X at *
  generalize val 18446744073709551616 ys = A at *
  have HF : Hid (E ≠ 0 → R = false) := fun h => by
    cases h2 : R with
    | false => rfl
    | true => exact absurd (HR.out.1 h2).1 h
  obtain ⟨O, hOe⟩ : ∃ O, O = oddE X := ⟨_, rfl⟩
  rw [← hOe] at hO
  have HO := toHid hOe
  clear hOe
  go_enter Tryz.func55, Tryz.ntmps55
  go_wp2_with fail
  refine hO.mono ?_
  rintro e w1 ⟨rfl, k1⟩
  clear hO
  by_cases hO0 : O = 0
  · subst hO0
    obtain ⟨hX3, hX2, nw, hnw, hXb⟩ := oddE_ok HO.out.symm
    have hdl : dlen X ≤ 260 := by
      have : dlen X ≤ 2 * nw := (dlen_le _ _).2 (by rw [Nat.pow_mul]; exact hXb)
      omega
    have hE2 : Hid (E = if A < 2 ∨ X - 1 ≤ A then 1 else 0) := by
      unfold Hid
      rw [HE.out, strE, ← HO.out]
      simp
    obtain ⟨s, hs, hsb⟩ := tz_ex (64 * nw) (X - 1) (by omega) (by rw [Nat.pow_mul]; exact Nat.lt_of_le_of_lt (Nat.sub_le _ _) hXb)
    have HSZ := toHid hs
    have hsm : s ≤ 10000 := by omega
    clear hXb hsb hnw hs
    have h1 := JX.out _ k1
    go_wp2_with fail
    refine h1.mono ?_
    rintro e w2 ⟨v2, rfl, hb2, _, k2⟩
    have K2 := k1.trans k2
    have h2 := JY.out _ K2
    clear h1 k1 k2
    go_wp2_with fail
    refine h2.mono ?_
    rintro e w3 ⟨v3, rfl, hb3, _, k3⟩
    have K3 := K2.trans k3
    have bX := hb2.grew k3
    have h3 := rSmall 1 (by omega) w3
    clear h2 hb2 k3 K2
    go_wp2_with fail
    refine h3.mono ?_
    rintro e w4 ⟨v4, rfl, hb4, _, k4⟩
    have K4 := K3.trans k4
    have bX4 := bX.grew k4
    have bA4 := hb3.grew k4
    have h4 := rSub v2 v4 X 1 w4 bX4 hb4 (by omega)
    clear h3 bX hb3 hb4 k4 K3
    go_wp2_with fail
    refine h4.mono ?_
    rintro e w5 ⟨v5, rfl, hb5, _, k5⟩
    have K5 := K4.trans k5
    have bX5 := bX4.grew k5
    have bA5 := bA4.grew k5
    have h5 := rSmall 2 (by omega) w5
    clear h4 bX4 bA4 k5 K4
    go_wp2_with fail
    refine h5.mono ?_
    rintro e w6 ⟨v6, rfl, hb6, _, k6⟩
    have K6 := K5.trans k6
    have bX6 := bX5.grew k6
    have bA6 := bA5.grew k6
    have bL6 := hb5.grew k6
    have h6 := rCmp v3 v6 A 2 w6 bA6 hb6
    clear h5 bX5 bA5 hb5 hb6 k6 K5
    by_cases hA2 : A < 2
    · have HT : Hid (E = 1) := by unfold Hid; rw [hE2.out, if_pos (.inl hA2)]
      have HRf : Hid (R = false) := HF.out (by rw [HT.out]; omega)
      rw [cmpN_lt hA2] at h6
      go_wp2_with fail
      refine h6.mono ?_
      rintro e w7 ⟨rfl, m7, rfl⟩
      go_wp2_with fail
      go_ret2
      exact ⟨by rw [HT.out, HRf.out]; rfl, K6.drewN m7⟩
    have hc6 := cmpN_nn (show 2 ≤ A by omega)
    generalize cmpN A 2 = c6 at *
    go_wp2_with fail
    refine h6.mono ?_
    rintro e w7' ⟨rfl, m7, rfl⟩
    have kd := (Kept.refl Nought w6).drewN m7
    obtain ⟨w7, hw7⟩ : ∃ w7, w7 = w6.drewN m7 := ⟨_, rfl⟩
    rw [← hw7] at kd ⊢
    have K7 := K6.trans kd
    have bX7 := bX6.grew kd
    have bA7 := bA6.grew kd
    have bL7 := bL6.grew kd
    have h7 := rCmp v3 v5 A (X - 1) w7 bA7 bL7
    clear h6 bX6 bA6 bL6 kd K6 hw7
    by_cases hAX : X - 1 ≤ A
    · have HT : Hid (E = 1) := by unfold Hid; rw [hE2.out, if_pos (.inr hAX)]
      have HRf : Hid (R = false) := HF.out (by rw [HT.out]; omega)
      have hc7 := cmpN_nn hAX
      have hc7' : 0 ≤ cmpN A (X - 1) := by omega
      generalize cmpN A (X - 1) = c7 at *
      go_wp2_with fail
      refine h7.mono ?_
      rintro e w8 ⟨rfl, m8, rfl⟩
      go_wp2_with fail
      go_ret2
      exact ⟨by rw [HT.out, HRf.out]; rfl, K7.drewN m8⟩
    rw [cmpN_lt (show A < X - 1 by omega)] at h7
    have HE0 : Hid (E = 0) := by unfold Hid; rw [hE2.out, if_neg (by omega)]
    go_wp2_with fail
    refine h7.mono ?_
    rintro e w8' ⟨rfl, m8, rfl⟩
    have kd := (Kept.refl Nought w7).drewN m8
    obtain ⟨w8, hw8⟩ : ∃ w8, w8 = w7.drewN m8 := ⟨_, rfl⟩
    rw [← hw8] at kd ⊢
    have K8 := K7.trans kd
    have HX8 := toHid (bX7.grew kd)
    have HA8 := toHid (bA7.grew kd)
    have HL8 := toHid (bL7.grew kd)
    have HK8 := toHid K8
    clear h7 bX7 bA7 bL7 kd K7 hw8 K8
    go_wp2_with fail
    go_loopw [10] (fun sv wr => wr = w8 ∧ ∃ t : Nat, t ≤ s ∧ sv = .int .i64 (t : Int)) (fun sv _ => s - (intOf sv).toNat)
    case atStart => exact ⟨rfl, 0, Nat.zero_le _, rfl⟩
    case round =>
      obtain ⟨rfl, t, ht, rfl⟩ := hrel
      have hB := rBit v5 (X - 1) (t : Int) wr HL8.out (by omega)
      rw [bitN_nat] at hB
      by_cases hts : t < s
      · rw [HSZ.out.2 t hts] at hB
        go_wp2_with fail
        refine hB.mono ?_
        rintro e w9 ⟨rfl, rfl⟩
        go_wp2_with fail
        go_roundw
        case rel => exact ⟨trivial, t + 1, by omega, by go_num⟩
        case measure => simp [intOf]; omega
      · obtain rfl : t = s := by omega
        rw [HSZ.out.1] at hB
        go_wp2_with fail
        refine hB.mono ?_
        rintro e w9 ⟨rfl, rfl⟩
        have h9 := rShr v5 (X - 1) t w9 HL8.out (by omega)
        clear hB
        go_wp2_with fail
        refine h9.mono ?_
        rintro e w10 ⟨v10, rfl, hb10, _, k10⟩
        have hA10 := HA8.out.grew k10
        have hX10 := HX8.out.grew k10
        have hL10 := HL8.out.grew k10
        have K10 := HK8.out.trans k10
        obtain ⟨D, hD⟩ : ∃ D, D = (X - 1) / 2 ^ t := ⟨_, rfl⟩
        rw [← hD] at hb10
        have HDD := toHid hD
        have h10 := rExpMod v3 v10 v2 A D X w10 hA10 hb10 hX10 (by omega) (by have := dlen_mono (show A ≤ X by omega); omega) (by omega)
        clear h9 k10 hb10 hA10 hD
        go_wp2_with fail
        refine h10.mono ?_
        rintro e w11 ⟨v11, rfl, hb11, _, k11⟩
        have HX11 := toHid (hX10.grew k11)
        have HL11 := toHid (hL10.grew k11)
        have HK11 := toHid (K10.trans k11)
        have h11 := rSmall 1 (by omega) w11
        clear h10 k11 hX10 hL10 K10
        go_wp2_with fail
        refine h11.mono ?_
        rintro e w12 ⟨v12, rfl, hb12, _, k12⟩
        have hb11' := hb11.grew k12
        have h12 := rCmp v11 v12 _ 1 w12 hb11' hb12
        have K12 := HK11.out.trans k12
        clear h11 hb11 hb12
        by_cases h1 : A ^ D % X = 1
        · have HT : Hid (R = true) := HR.out.2 ⟨HE0.out, t, HSZ.out, .inl (by rw [← HDD.out]; exact h1)⟩
          rw [cmpN_eq h1] at h12
          go_wp2_with fail
          refine h12.mono ?_
          rintro e w13 ⟨rfl, m13, rfl⟩
          go_wp2_with fail
          go_ret2
          exact ⟨by rw [HE0.out, HT.out]; rfl, K12.drewN m13⟩
        · have hc12 := cmpNne h1
          have HN1 := toHid h1
          generalize cmpN (A ^ D % X) 1 = c12 at *
          go_wp2_with fail
          refine h12.mono ?_
          rintro e w13' ⟨rfl, m13, rfl⟩
          have kd := k12.trans ((Kept.refl Nought w12).drewN m13)
          obtain ⟨w13, hw13⟩ : ∃ w13, w13 = w12.drewN m13 := ⟨_, rfl⟩
          have hb13 := hb11'.grew ((Kept.refl Nought w12).drewN m13)
          rw [← hw13] at kd hb13 ⊢
          have HX13 := toHid (HX11.out.grew kd)
          have HL13 := toHid (HL11.out.grew kd)
          have HK13 := toHid (HK11.out.trans kd)
          have HB13 := toHid hb13
          clear h12 kd hw13 hb11' K12 k12 hb13 HX11 HL11 HK11
          go_wp2_with fail
          rw [show (c12 == 0) = false by simpa using hc12]
          go_loopw [11, 12] (fun xv iv wr => ∃ i : Nat, i ≤ t ∧ iv = .int .i64 (i : Int) ∧ Hid (IsBig wr xv ((A ^ D) ^ 2 ^ i % X)) ∧ Hid (∀ j, j < i → (A ^ D) ^ 2 ^ j % X ≠ X - 1) ∧ Hid (Kept Nought w13 wr)) (fun _ iv _ => t - (intOf iv).toNat)
          case atStart => exact ⟨0, Nat.zero_le _, rfl, by unfold Hid; rw [Nat.pow_zero, Nat.pow_one]; exact HB13.out, fun j hj => by omega, Kept.refl _ _⟩
          case round =>
            obtain ⟨i, hi, rfl, hxi, hall, hki⟩ := hrel
            by_cases hit : i < t
            · have g1 : (i : Int) < (t : Int) := by omega
              have h14 := rCmp u11 v5 _ (X - 1) wr hxi.out (HL13.out.grew hki.out)
              by_cases heq : (A ^ D) ^ 2 ^ i % X = X - 1
              · have HT : Hid (R = true) := HR.out.2 ⟨HE0.out, t, HSZ.out, .inr ⟨i, hit, by rw [← HDD.out]; exact heq⟩⟩
                rw [cmpN_eq heq] at h14
                go_wp2_with fail
                refine h14.mono ?_
                rintro e w15 ⟨rfl, m15, rfl⟩
                go_wp2_with fail
                go_ret2
                exact ⟨by rw [HE0.out, HT.out]; rfl, (HK13.out.trans hki.out).drewN m15⟩
              · have hc14 := cmpNne heq
                have HA : Hid (∀ j, j < i + 1 → (A ^ D) ^ 2 ^ j % X ≠ X - 1) := fun j hj => by
                  by_cases e : j = i
                  · subst e; exact heq
                  · exact hall.out j (by omega)
                have HSQ := toHid (sq_pow X (A ^ D) i)
                have hlt : (A ^ D) ^ 2 ^ i % X < X := Nat.mod_lt _ (by omega)
                generalize (A ^ D) ^ 2 ^ i % X = Y at *
                have hdm : dlen (Y * Y) ≤ 10000000 := by
                  have h1 : dlen (Y * Y) ≤ dlen (X * X) := dlen_mono (Nat.mul_le_mul (by omega) (by omega))
                  have h2 : X * X < 4294967296 ^ (dlen X + dlen X) := by
                    rw [Nat.pow_add]
                    exact Nat.mul_lt_mul'' ((dlen_le _ _).1 (Nat.le_refl _)) ((dlen_le _ _).1 (Nat.le_refl _))
                  have h3 := (dlen_le _ _).2 h2
                  omega
                have hdy : dlen Y ≤ 260 := by have := dlen_mono (show Y ≤ X by omega); omega
                generalize cmpN Y (X - 1) = c14 at *
                go_wp2_with fail
                refine h14.mono ?_
                rintro e w15' ⟨rfl, m15, rfl⟩
                have kd := (Kept.refl Nought wr).drewN m15
                obtain ⟨w15, hw15⟩ : ∃ w15, w15 = wr.drewN m15 := ⟨_, rfl⟩
                rw [← hw15] at kd ⊢
                have h15 := rMulMod u11 u11 v2 Y Y X w15 (hxi.out.grew kd) (hxi.out.grew kd) (HX13.out.grew (hki.out.trans kd)) (by omega) (by omega) (by omega) hdm
                clear h14 hw15
                go_wp2_with fail
                refine h15.mono ?_
                rintro e w16 ⟨v16, rfl, hb16, _, k16⟩
                have HB16 := toHid hb16
                have HK16 := toHid (hki.out.trans (kd.trans k16))
                clear h15 hb16 kd k16
                go_wp2_with fail
                go_roundw
                case rel => exact ⟨i + 1, by omega, by go_num, by unfold Hid; rw [← HSQ.out]; exact HB16.out, HA, HK16⟩
                case measure => simp [intOf]; omega
            · have g1 : ¬ (i : Int) < (t : Int) := by omega
              obtain rfl : i = t := by omega
              have HT : Hid (R = false) := by
                unfold Hid
                cases h2 : R with
                | false => rfl
                | true =>
                  obtain ⟨_, s2, hs2, hor⟩ := HR.out.1 h2
                  obtain rfl := hs2.uniq HSZ.out
                  rw [← HDD.out] at hor
                  rcases hor with h | ⟨j, hj, h⟩
                  · exact absurd h HN1.out
                  · exact absurd h (hall.out j hj)
              go_wp2_with fail
              go_ret2
              exact ⟨by rw [HE0.out, HT.out]; rfl, HK13.out.trans hki.out⟩
  · have HT : Hid (E = O) := by
      unfold Hid
      rw [HE.out, strE, ← HO.out, if_pos hO0]
    have HRf : Hid (R = false) := HF.out (by rw [HT.out]; exact hO0)
    have g0 : ¬ (O : Int) = 0 := by omega
    go_wp2_with fail
    go_ret2
    exact ⟨by rw [HT.out, HRf.out]; rfl, k1⟩

end Go.Proofs.YtcjaafmlflonhaaGreatDoor


/- The strong test of layer 17, as it is reckoned. -/
namespace Go.Proofs.YtcjaafmlflonhaaGreatDoor
open Go.RowKit

/-- How many noughts a number has at its low end, as bits. -/
def tzN : Nat → Nat → Nat
  | 0, _ => 0
  | f + 1, M => if M % 2 = 1 then 0 else tzN f (M / 2) + 1

theorem tzN_is : ∀ (f M : Nat), 0 < M → M < 2 ^ f → IsTz M (tzN f M)
  | 0, M, h, g => by simp at g; omega
  | f + 1, M, h, g => by
    unfold tzN
    by_cases h1 : M % 2 = 1
    · rw [if_pos h1]
      exact ⟨by simpa using h1, fun j hj => by omega⟩
    · rw [if_neg h1]
      obtain ⟨hs, hs2⟩ := tzN_is f (M / 2) (by omega) (by rw [Nat.pow_succ] at g; omega)
      refine ⟨?_, fun j hj => ?_⟩
      · rw [Nat.pow_succ, Nat.mul_comm, ← Nat.div_div_eq_div_mul]
        exact hs
      · cases j with
        | zero => simp; omega
        | succ j =>
          rw [Nat.pow_succ, Nat.mul_comm, ← Nat.div_div_eq_div_mul]
          exact hs2 j (by omega)

/-- The strong test, as it is reckoned. -/
def strongB (N A : Nat) : Bool := decide (0 < N - 1) && (decide (A ^ ((N - 1) / 2 ^ tzN (N - 1) (N - 1)) % N = 1) || (List.range (tzN (N - 1) (N - 1))).any fun i => decide ((A ^ ((N - 1) / 2 ^ tzN (N - 1) (N - 1))) ^ 2 ^ i % N = N - 1))

theorem strongB_iff (N A : Nat) : strongB N A = true ↔ strongP N A := by
  unfold strongB strongP
  rw [Bool.and_eq_true, decide_eq_true_iff, Bool.or_eq_true, decide_eq_true_iff, List.any_eq_true]
  constructor
  · rintro ⟨h0, h⟩
    refine ⟨_, tzN_is (N - 1) (N - 1) h0 Nat.lt_two_pow_self, ?_⟩
    rcases h with h | ⟨i, hi, h⟩
    · exact .inl h
    · exact .inr ⟨i, List.mem_range.1 hi, of_decide_eq_true h⟩
  · rintro ⟨s, hs, h⟩
    have h0 : 0 < N - 1 := by
      rcases Nat.eq_zero_or_pos (N - 1) with e | e
      · have := hs.1
        rw [e] at this
        simp at this
      · exact e
    obtain rfl := hs.uniq (tzN_is (N - 1) (N - 1) h0 Nat.lt_two_pow_self)
    refine ⟨h0, ?_⟩
    rcases h with h | ⟨i, hi, h⟩
    · exact .inl h
    · exact .inr ⟨i, List.mem_range.2 hi, decide_eq_true h⟩

end Go.Proofs.YtcjaafmlflonhaaGreatDoor

