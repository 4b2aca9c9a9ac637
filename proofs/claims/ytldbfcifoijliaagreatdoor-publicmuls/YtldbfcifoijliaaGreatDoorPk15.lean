/- Put together of: Mon3. -/
import Derived.Test.YtldbfcifoijliaaGreatDoorPk5
import Derived.Test.YtldbfcifoijliaaGreatDoorPk10
import Derived.Test.YtldbfcifoijliaaGreatDoorPk13
import Derived.Test.YtldbfcifoijliaaGreatDoorPk14

/- Melted of: MonE MonF MonG. -/

/- Package mont: attempt, refuse, needs, refuseNumber. -/
namespace Go.Proofs.YtldbfcifoijliaaGreatDoor
open Go.RowKit

set_option maxHeartbeats 400000 in
/-- The deferred closure, where nothing was refused. -/
theorem mCatchIdle (p : Addr) (w : World) :
    CallsD Tryz.prog 67 #[.pointer (some p)] .returning w fun e u' w' => e = .returned (.tuple #[]) ∧ u' = .returning ∧ w' = w := by
  refine callsD_of_wpS Tryz.func67 rfl fun c₀ cs hu => ?_
  apply wpS_seq
  apply wpS_region
  simp [wpOpsS, go_sem, recoverD, hu, Tryz.ntmps67, Exit.thenS]
  apply wpS_seq
  apply wpS_seq
  apply wpS_region
  simp [wpOpsS, go_sem, Exit.thenS]
  refine wpS_cond (t := true) (by simp [Act.eval, Array.replicate]) ?_
  simp only [if_true]
  refine wpS_of_wp (wp_ret ?_)
  cases c₀
  simp_all [bodyPostS, results, Tryz.results67, Exit.thenS]

set_option maxHeartbeats 400000 in
/-- The deferred closure, where something was refused. -/
theorem mCatch (p : Addr) (x n : Int) (older : List PanicEntry) (w : World) (hc : w.cell? p = some (.int .i64 x)) (hz : w.frozen? p = false) :
    CallsD Tryz.prog 67 #[.pointer (some p)] (.panicking (refusal n :: older)) w fun e u' w' =>
      e = .returned (.tuple #[]) ∧ u' = .panicking ({ refusal n with recovered := true } :: older) ∧ w' = w.setCell p (.int .i64 n) := by
  refine callsD_of_wpS Tryz.func67 rfl fun c₀ cs hu => ?_
  apply wpS_seq
  apply wpS_region
  simp [wpOpsS, go_sem, recoverD, hu, Tryz.ntmps67, Exit.thenS]
  apply wpS_seq
  apply wpS_seq
  apply wpS_region
  simp [wpOpsS, go_sem, Exit.thenS]
  refine wpS_cond (t := false) (by simp [Act.eval, Array.replicate]) ?_
  simp only [Bool.false_eq_true, if_false]
  refine wpS_of_wp (wp_skip ?_)
  simp only [Exit.thenS]
  refine wpS_of_wp ?_
  have hta : ∀ w : World, (Instr.typeAssert (.iface 28 (.int .i64 n)) 20 28 true).run Tryz.prog w = .ok (.tuple #[.int .i64 n, .bool true]) w := fun w => by kernel_rfl
  have hnot : ∀ (x : Bool) (w : World), (Op.unary .not (.bool x)).run Tryz.prog w = .ok (.bool (!x)) w := fun _ _ => rfl
  have e : (#[Value.pointer (some p)] ++ ((((Array.replicate 15 undef).setIfInBounds 3 (Value.iface 28 (Value.int IntKind.i64 n))).setIfInBounds 0 (Value.iface 28 (Value.int IntKind.i64 n))).setIfInBounds 4 (Value.iface 28 (Value.int IntKind.i64 n))).setIfInBounds 5 (Value.bool false) : Array Value) = #[.pointer (some p), .iface 28 (.int .i64 n), undef, undef, .iface 28 (.int .i64 n), .iface 28 (.int .i64 n), .bool false, undef, undef, undef, undef, undef, undef, undef, undef, undef] := rfl
  rw [e]
  clear e
  go_wp2
  simp [bodyPostS, results, Tryz.results67]

set_option maxHeartbeats 400000 in
/-- attempt: what the closure does, and 0, or the number with which it was refused. -/
theorem mAttempt (f : Nat) (cap : Array Value) (w : World) (Q : Int → World → Prop) (he : ∀ args w, (callFunc f args).run Tryz.prog w = .ok (.enter f args) w)
    (h : Calls Tryz.prog f cap (w.alloc (.cells #[.int .i64 0] 28)) fun e w' => w'.heap[w.heap.size]? = some (.cells #[.int .i64 0] 28 (0, 0)) ∧
      ((e = .returned (.tuple #[]) ∧ Q 0 w') ∨ ∃ n, e = .panicked [refusal n] ∧ Q n w')) :
    Calls Tryz.prog 47 #[.func (.func f) #[] cap] w fun e w' => ∃ n w1, e = .returned (.int .i64 n) ∧ (Q n w1 ∧ w1.heap[w.heap.size]? = some (.cells #[.int .i64 0] 28 (0, 0))) ∧ w' = w1.setCell ⟨w.heap.size, 0, none⟩ (.int .i64 n) := by
  have hmf : ∀ (fn : Fn) (first cap : Array Value) (w : World), (Instr.makeFunc fn first cap).run Tryz.prog w = .ok (.func fn first cap) w := fun _ _ _ _ => rfl
  go_enter_defers Tryz.func47, Tryz.ntmps47
  go_wp2_with fail
  refine h.mono ?_
  rintro e w1 ⟨hb, (⟨rfl, hq⟩ | ⟨n, rfl, hq⟩)⟩
  · have hc : w1.cell? ⟨w.heap.size, 0, none⟩ = some (.int .i64 0) := by simp [World.cell?, hb]
    have hz : w1.frozen? ⟨w.heap.size, 0, none⟩ = false := by simp [World.frozen?, hb]
    clear h
    go_wp2_with fail
    refine leaves_cons (f := 67) (args := #[.pointer (some ⟨w.heap.size, 0, none⟩)]) (by simp) (by simp [go_sem]) ?_
    refine (mCatchIdle ⟨w.heap.size, 0, none⟩ _).mono ?_
    rintro e u' w'' ⟨rfl, rfl, rfl⟩
    have hc2 : (w1.setCell ⟨w.heap.size, 0, none⟩ (.int .i64 0)).cell? ⟨w.heap.size, 0, none⟩ = some (.int .i64 0) := World.cell?_setCell_same' _ _ _ (by rw [hc]; rfl)
    simp [Leaves, settle, results, Tryz.results47, go_sem, hc2]
    exact ⟨_, ⟨hq, hb⟩, rfl⟩
  · have hc : w1.cell? ⟨w.heap.size, 0, none⟩ = some (.int .i64 0) := by simp [World.cell?, hb]
    have hz : w1.frozen? ⟨w.heap.size, 0, none⟩ = false := by simp [World.frozen?, hb]
    clear h
    refine leaves_cons (f := 67) (args := #[.pointer (some ⟨w.heap.size, 0, none⟩)]) (by simp) (by simp [go_sem]) ?_
    refine (mCatch ⟨w.heap.size, 0, none⟩ 0 n [] _ hc hz).mono ?_
    rintro e u' w'' ⟨rfl, rfl, rfl⟩
    have hc2 : (w1.setCell ⟨w.heap.size, 0, none⟩ (.int .i64 n)).cell? ⟨w.heap.size, 0, none⟩ = some (.int .i64 n) := World.cell?_setCell_same' _ _ _ (by rw [hc]; rfl)
    simp [Leaves, settle, results, Tryz.results47, go_sem, hc2]
    exact ⟨_, ⟨hq, hb⟩, rfl⟩

set_option maxHeartbeats 400000 in
/-- refuse, where it is not so. -/
theorem mRefuseNo (n : Int) (w : World) : Calls Tryz.prog 68 #[.bool false, .int .i64 n] w fun e w' => e = .returned (.tuple #[]) ∧ w' = w := by
  go_enter Tryz.func68, Tryz.ntmps68
  go_wp2
  go_end0
  exact ⟨rfl, rfl⟩

set_option maxHeartbeats 400000 in
/-- refuse, where it is so. -/
theorem mRefuseYes (n : Int) (w : World) : Calls Tryz.prog 68 #[.bool true, .int .i64 n] w fun e w' => e = .panicked [refusal n] ∧ w' = w := by
  go_enter Tryz.func68, Tryz.ntmps68
  go_wp2
  exact ⟨rfl, rfl, rfl⟩

theorem needs_words (V : Nat) : (blen V + 63) / 64 = wordsN V := by
  unfold blen wordsN
  by_cases h : V = 0
  · rw [if_pos h, if_pos h]
  · rw [if_neg h, if_neg h]
    omega

set_option maxHeartbeats 400000 in
/-- needs. -/
theorem mNeeds (v : Value) (xs : List Nat) (R : Nat) (hR : R = wordsN (val 18446744073709551616 xs)) (w : World) (h : Row .u64 w v xs) (hd : Digs 18446744073709551616 xs) (hl : xs.length ≤ 100000000) :
    Calls Tryz.prog 49 #[v] w fun e w' => e = .returned (.int .i64 (R : Nat)) ∧ w' = w := by
  have hB := nBits v xs w h hd hl
  have hn := needs_words (val 18446744073709551616 xs)
  rw [← hR] at hn
  have hb : blen (val 18446744073709551616 xs) ≤ 100000000 * 64 := by
    have h1 := (wordsN_le (val 18446744073709551616 xs) xs.length).2 (val_lt (by omega) hd)
    rw [← hR] at h1
    omega
  obtain ⟨b, hbb⟩ : ∃ b, b = blen (val 18446744073709551616 xs) := ⟨_, rfl⟩
  rw [← hbb] at hB hn hb
  have HN := toHid hn
  clear hR h hd hl hbb hn
  go_enter Tryz.func49, Tryz.ntmps49
  go_wp2_with fail
  refine hB.mono ?_
  rintro e w' ⟨rfl, rfl⟩
  go_wp2_with fail
  go_ret
  refine ⟨?_, rfl⟩
  have hn := HN.out
  show Ending.returned (Value.int .i64 (((b : Int) + 64 - 1) / 64)) = _
  rw [show ((b : Int) + 64 - 1) / 64 = (R : Int) by omega]

/-- What a number is refused with. -/
def rfn (L V : Nat) : Nat := if 130 < L then 2 else if V < 2 then 1 else if V % 2 = 0 then 60 else 0

set_option maxRecDepth 20000 in
set_option maxHeartbeats 1000000 in
/-- refuseNumber. -/
theorem mRefuseNumber (ao : Option Addr) (L cap : Nat) (xs : List Nat) (w : World) (h : Row .u64 w (.slice ao L cap) xs) (hd : Digs 18446744073709551616 xs) (hl : L ≤ 100000000) :
    Calls Tryz.prog 50 #[.slice ao L cap] w fun e w' => ((rfn L (val 18446744073709551616 xs) = 0 ∧ e = .returned (.tuple #[])) ∨ (rfn L (val 18446744073709551616 xs) ≠ 0 ∧ e = .panicked [refusal (rfn L (val 18446744073709551616 xs) : Nat)])) ∧ w' = w := by
  obtain ⟨_, _, _, e1, hLx, _, _, _, hnum⟩ := h.open
  cases e1
  have hB := nBits _ xs w h hd (by rw [hLx.out]; exact hl)
  obtain ⟨V, hV⟩ : ∃ V, V = val 18446744073709551616 xs := ⟨_, rfl⟩
  rw [← hV] at hB ⊢
  have HX := toHid (dig_val (by omega) hd 0)
  rw [← hV] at HX
  have HLT : Hid (V < 18446744073709551616 ^ L) := by have := val_lt (by omega) hd; rw [hLx.out, ← hV] at this; exact this
  have HDB : Hid (xs.getD 0 0 < 18446744073709551616) := hd.getD (by omega) _
  have hbl : blen V < 2 ↔ V < 2 := by
    unfold blen
    by_cases h0 : V = 0
    · simp [h0]
    · rw [if_neg h0]
      have := Nat.log2_lt (n := V) (k := 1) h0
      omega
  obtain ⟨b, hb⟩ : ∃ b, b = blen V := ⟨_, rfl⟩
  rw [← hb] at hB hbl
  clear hV h hd hb
  unfold rfn
  have hN2 := mRefuseNo 2 w
  have hN1 := mRefuseNo 1 w
  have hN6 := mRefuseNo 60 w
  by_cases h1 : 130 < L
  · have hY := mRefuseYes 2 w
    rw [if_pos h1]
    have g1 : (L : Int) > 130 := by omega
    clear hnum hB hN1 hN2 hN6
    go_enter Tryz.func50, Tryz.ntmps50
    go_wp2_with fail
    refine hY.mono ?_
    rintro e w' ⟨rfl, rfl⟩
    exact ⟨rfl, .inr ⟨by omega, rfl⟩, rfl⟩
  · rw [if_neg h1]
    have g1 : ¬ (L : Int) > 130 := by omega
    by_cases h2 : V < 2
    · have hY := mRefuseYes 1 w
      rw [if_pos h2]
      have g2 : (b : Int) < 2 := by have := hbl.2 h2; omega
      clear hnum hN1 hN6
      go_enter Tryz.func50, Tryz.ntmps50
      go_wp2_with fail
      refine hN2.mono ?_
      rintro e w' ⟨rfl, rfl⟩
      go_wp2_with fail
      refine hB.mono ?_
      rintro e w' ⟨rfl, rfl⟩
      go_wp2_with fail
      refine hY.mono ?_
      rintro e w' ⟨rfl, rfl⟩
      exact ⟨rfl, .inr ⟨by omega, rfl⟩, rfl⟩
    · rw [if_neg h2]
      have g2 : ¬ (b : Int) < 2 := by have := mt hbl.1 h2; omega
      have hL0 : 0 < L := by
        rcases Nat.eq_zero_or_pos L with h0 | h0
        · have := HLT.out
          rw [h0, Nat.pow_zero] at this
          omega
        · exact h0
      obtain ⟨b2, off2, rfl, hc2⟩ := hnum 0 hL0
      have hx0 := HDB.out
      have hdg : V % 18446744073709551616 = xs.getD 0 0 := by
        have := HX.out
        unfold dig at this
        rwa [Nat.pow_zero, Nat.div_one] at this
      have hpar : (xs.getD 0 0) % 2 = V % 2 := by omega
      have hand := and_one_u64 (xs.getD 0 0 : Nat) (by omega) (by omega)
      generalize xs.getD 0 0 = x at *
      rw [Nat.add_zero] at hc2
      clear hnum hdg HX hbl
      by_cases h3 : V % 2 = 0
      · have hY := mRefuseYes 60 w
        rw [if_pos h3]
        have hz : bits .and .u64 (x : Int) 1 = 0 := by rw [hand]; omega
        clear hand hpar
        go_enter Tryz.func50, Tryz.ntmps50
        go_wp2_with fail
        refine hN2.mono ?_
        rintro e w' ⟨rfl, rfl⟩
        go_wp2_with fail
        refine hB.mono ?_
        rintro e w' ⟨rfl, rfl⟩
        go_wp2_with fail
        rw [show decide ((b : Int) < 2) = false from decide_eq_false (by omega)]
        refine hN1.mono ?_
        rintro e w' ⟨rfl, rfl⟩
        go_wp2_with fail
        refine hY.mono ?_
        rintro e w' ⟨rfl, rfl⟩
        exact ⟨rfl, .inr ⟨by omega, rfl⟩, rfl⟩
      · rw [if_neg h3]
        have hz : bits .and .u64 (x : Int) 1 = 1 := by rw [hand]; omega
        clear hand hpar
        go_enter Tryz.func50, Tryz.ntmps50
        go_wp2_with fail
        refine hN2.mono ?_
        rintro e w' ⟨rfl, rfl⟩
        go_wp2_with fail
        refine hB.mono ?_
        rintro e w' ⟨rfl, rfl⟩
        go_wp2_with fail
        rw [show decide ((b : Int) < 2) = false from decide_eq_false (by omega)]
        refine hN1.mono ?_
        rintro e w' ⟨rfl, rfl⟩
        go_wp2_with fail
        refine hN6.mono ?_
        rintro e w' ⟨rfl, rfl⟩
        go_wp2_with fail
        go_end0
        exact ⟨.inl ⟨trivial, rfl⟩, rfl⟩

end Go.Proofs.YtldbfcifoijliaaGreatDoor

/- Package mont: isPrepared. -/
namespace Go.Proofs.YtldbfcifoijliaaGreatDoor
open Go.RowKit

theorem want_list (N : Nat) : (List.replicate (N + 1) 0).set N 1 = List.replicate N 0 ++ [1] := by
  rw [List.replicate_succ', List.set_append_right _ _ (by simp)]
  simp

theorem want_val (N : Nat) : val 18446744073709551616 (List.replicate N 0 ++ [1]) = 18446744073709551616 ^ N := by
  rw [val_snoc, val_zeros _ (fun d hd => (List.mem_replicate.1 hd).2), List.length_replicate]
  omega

theorem want_digs (N : Nat) : Digs 18446744073709551616 (List.replicate N 0 ++ [1]) := fun d hd => by
  rw [List.mem_append, List.mem_replicate, List.mem_singleton] at hd
  omega

/-- What isPrepared says. -/
def prepN (V K R n : Nat) : Nat := if (V * K + 1) % 18446744073709551616 = 0 ∧ R = 18446744073709551616 ^ (2 * n) % V then 1 else 0

theorem and_bits (a b : Bool) : bits .and .u64 ((oneN a : Nat) : Int) ((oneN b : Nat) : Int) = ((oneN (a && b) : Nat) : Int) := by
  cases a <;> cases b <;> decide

theorem zer_bits (x : Nat) : zer (x : Int) = ((oneN (decide (x = 0)) : Nat) : Int) := by
  unfold zer oneN
  by_cases h : x = 0
  · rw [if_pos (by omega), decide_eq_true h, if_pos rfl]
    rfl
  · rw [if_neg (by omega), decide_eq_false h, if_neg (by decide)]
    rfl

/-- The three tests come to what isPrepared says. -/
theorem prep_bits {V K R n Q A c : Nat} (hn : 0 < n) (hV : V < 18446744073709551616 ^ n) (hV1 : 18446744073709551616 ^ (n - 1) < V) (hodd : V % 2 = 1) (hv : A + 18446744073709551616 ^ (n + (n + 1)) * c = R + V * Q) (hQ : Q < 18446744073709551616 ^ (n + 1)) (hlow : (V * K + 1) % 18446744073709551616 = 0 → 0 < n → A % 18446744073709551616 ^ (n + 1) = 0) :
    oneN (decide ((V * K + 1) % 18446744073709551616 = 0) && decide (R < V) && decide (A = 18446744073709551616 ^ (2 * n))) = prepN V K R n := by
  unfold prepN oneN
  have hV0 : 0 < V := by omega
  by_cases h1 : (V * K + 1) % 18446744073709551616 = 0
  · by_cases h2 : R < V
    · have hco : Nat.Coprime V (18446744073709551616 ^ (n + 1)) := by rw [B64]; exact odd_coprime hodd
      obtain ⟨n', rfl⟩ : ∃ n', n = n' + 1 := ⟨n - 1, by omega⟩
      have hW : 18446744073709551616 ^ (2 * (n' + 1)) % 18446744073709551616 ^ (n' + 1 + 1) = 0 := by
        rw [show 2 * (n' + 1) = (n' + 1 + 1) + n' by omega, Nat.pow_add]
        exact Nat.mul_mod_right _ _
      have hWV : 18446744073709551616 ^ (2 * (n' + 1)) / V < 18446744073709551616 ^ (n' + 1 + 1) := by
        rw [Nat.div_lt_iff_lt_mul hV0]
        rw [Nat.add_sub_cancel] at hV1
        have h3 : 18446744073709551616 ^ (n' + 1 + 1) * 18446744073709551616 ^ n' < 18446744073709551616 ^ (n' + 1 + 1) * V := Nat.mul_lt_mul_of_pos_left hV1 (Nat.pow_pos (by omega))
        rw [← Nat.pow_add, show n' + 1 + 1 + n' = 2 * (n' + 1) by omega] at h3
        exact h3
      have hE : V * 18446744073709551616 ^ (n' + 1 + 1) ≤ 18446744073709551616 ^ (n' + 1 + (n' + 1 + 1)) := by
        rw [Nat.pow_add _ (n' + 1) (n' + 1 + 1)]
        exact Nat.mul_le_mul_right _ (Nat.le_of_lt hV)
      have key := prep_num h2 hQ hE hv (hlow h1 hn) hco hW hWV
      by_cases h3 : A = 18446744073709551616 ^ (2 * (n' + 1))
      · rw [decide_eq_true h1, decide_eq_true h2, decide_eq_true h3, if_pos (by decide), if_pos ⟨h1, key.1 h3⟩]
      · rw [decide_eq_true h1, decide_eq_true h2, decide_eq_false h3, if_neg (by decide), if_neg (fun h => h3 (key.2 h.2))]
    · rw [decide_eq_true h1, decide_eq_false h2, if_neg (by simp), if_neg]
      rintro ⟨_, h3⟩
      apply h2
      rw [h3]
      exact Nat.mod_lt _ hV0
  · rw [decide_eq_false h1, if_neg (by simp), if_neg (fun h => h1 h.1)]

set_option maxRecDepth 20000 in
set_option maxHeartbeats 2000000 in
/-- isPrepared. -/
theorem mPrepared (ao bo : Option Addr) (n K mcap rcap : Nat) (ms rs : List Nat) (P : Nat) (w : World) (hm : Row .u64 w (.slice ao n mcap) ms) (hr : Row .u64 w (.slice bo n rcap) rs) (hmd : Digs 18446744073709551616 ms) (hrd : Digs 18446744073709551616 rs) (hn : 0 < n) (hn1 : n ≤ 130)
    (hV1 : 18446744073709551616 ^ (n - 1) < val 18446744073709551616 ms) (hodd : val 18446744073709551616 ms % 2 = 1) (hP : P = prepN (val 18446744073709551616 ms) K (val 18446744073709551616 rs) n) :
    Calls Tryz.prog 112 #[.agg #[.slice ao n mcap, .int .u64 (K : Nat), .slice bo n rcap]] w fun e w' => e = .returned (.int .u64 (P : Nat)) ∧ Kept Nought w w' := by
  obtain ⟨i0, hi0, hz0, hz1, hz2⟩ := info_parts Tryz.info24
  obtain ⟨_, _, _, e1, hLm, _, _, _, hnum⟩ := hm.open
  cases e1
  obtain ⟨_, _, _, e1, hLr, _, _, _, _⟩ := hr.open
  cases e1
  obtain ⟨bm, off, rfl, hc0⟩ := hnum 0 hn
  rw [Nat.add_zero] at hc0
  have hV : val 18446744073709551616 ms < 18446744073709551616 ^ n := by rw [← hLm.out]; exact val_lt (by omega) hmd
  have hRl : val 18446744073709551616 rs < 18446744073709551616 ^ n := by rw [← hLr.out]; exact val_lt (by omega) hrd
  obtain ⟨W0, hW0⟩ : ∃ W0, W0 = w.alloc (.cells #[.slice (some ⟨bm, off, none⟩) n mcap, .int .u64 (K : Nat), .slice bo n rcap] 52) := ⟨_, rfl⟩
  have k0 : Kept Nought w W0 := by rw [hW0]; exact (Kept.refl Nought w).alloc _
  have hx0 : W0.heap[w.heap.size]? = some (.cells #[.slice (some ⟨bm, off, none⟩) n mcap, .int .u64 (K : Nat), .slice bo n rcap] 52 (0, 0)) := by rw [hW0]; exact heap_alloc_new _ _
  obtain ⟨N, hN⟩ : ∃ N, N = 2 * n + 1 := ⟨_, rfl⟩
  have hF := mFit (.slice bo n rcap) rs N W0 (hr.grew k0) hrd (by omega)
  have hA := fun W (k : Kept Nought W0 W) (ho : OwnN .u64 24 W W0.heap.size (.slice (some ⟨W0.heap.size, 0, none⟩) N N) N (digs 18446744073709551616 (val 18446744073709551616 rs) N)) => mAddRows W0 none none [] W0.heap.size W0.heap.size N N n (n + 1) K mcap n rcap _ bo _ ms W (Did.of_kept k trivial) (TrRoom.none _ _ (by simp; omega)) (Nat.le_refl _) ho (digs_length _ _ _) (digs_digs (by omega) _ _) (by omega) (by omega) (RowT.none (hm.grew k0)) hmd w.heap.size _ _ ((k.block _ (lt_of_block hx0) (fun f => f)).trans hx0) (by decide) (by decide) (by have := lt_of_block hx0; omega)
  rw [val_digs, Nat.mod_eq_of_lt (Nat.lt_of_lt_of_le hRl (Nat.pow_le_pow_right (by omega) (by omega)))] at hA
  have HF := toHid hF
  have HA := toHid hA
  have HM := toHid (hm.grew k0)
  have HR := toHid (hr.grew k0)
  have HX := toHid hx0
  have HK0 := toHid k0
  have HMD := toHid hmd
  have HRD := toHid hrd
  have HW0 := toHid hW0
  have hc0' := k0.cellN hc0
  obtain ⟨p0, p1, p2⟩ := cells3 hx0
  have gN : (2 : Int) * (n : Int) + 1 = (N : Int) := by omega
  have gn1 : ((n + 1 : Nat) : Int) = (n : Int) + 1 := by omega
  have HN := toHid hN
  have hNb : N ≤ 300 := by omega
  have HVV := toHid hV
  clear hW0 hx0 k0 hm hr hA hF hnum hc0 hmd hrd hN hV hRl
  go_enter Tryz.func112, Tryz.ntmps112
  go_wp2_with (rw [← HW0.out])
  refine HF.out.mono ?_
  rintro e w1 ⟨rfl, ho1, k1⟩
  have hA1 := HA.out w1 k1 ho1
  rw [gn1, show trPtr none = .pointer none from rfl] at hA1
  have q0 := k1.cellN p0
  have q1 := k1.cellN p1
  have q2 := k1.cellN p2
  clear HF HA p0 p1 p2 ho1
  go_wp2_with fail
  refine hA1.mono ?_
  rintro e w2 ⟨c, rfl, ⟨hc, zs', Q, o1, ho2, hl2, hd2, he2, hQ2, hlow2, D2⟩, hb2⟩
  have k2 := D2.none.2
  have HE := toHid he2
  have HQ := toHid hQ2
  have HLow := toHid hlow2
  have HO2 := toHid ho2
  have HL2 := toHid hl2
  have HD2 := toHid hd2
  have hn2 : 2 * n < N := by have := HN.out; omega
  clear hA1 q0 q1 q2 he2 hQ2 hlow2 ho2 D2 hb2 hl2 hd2 k1
  have HK2 := toHid k2
  clear k2
  go_wp2_with (at_make; refine wpList_make_full _ rfl _ _ 23 rfl w2.heap.size 24 i0 _ 1 Tryz.underlying23 hi0 hz0 hz1 _ _ _ _ N rfl rfl (by first | exact gN | rfl) (by first | exact gN | rfl) (by rw [hz2]; omega) (by unfold maxLen; omega) (Nat.le_refl _) ?_; intro w3 ho3 hg3; rw [zeros_map] at ho3; have k3 := grown_kept hg3; have hc3 := World.ownsRow.cellAt ho3 (2 * n) (by omega); have hf3 := World.ownsRow.frozenAt ho3 (2 * n); rw [List.getElem?_map, List.getElem?_replicate, if_pos hn2] at hc3; clear hg3)
  have ho4 : OwnN .u64 24 (w3.setCell ⟨w2.heap.size, 2 * n, none⟩ (.int .u64 1)) w2.heap.size (.slice (some ⟨w2.heap.size, 0, none⟩) N N) N (List.replicate (2 * n) 0 ++ [1]) := by
    have := (World.ownsRow.stored ho3 (2 * n) (.int .u64 1)).1
    unfold OwnN
    rw [← want_list, List.map_set, ← HN.out]
    exact this
  have k4 : Kept Nought w2 (w3.setCell ⟨w2.heap.size, 2 * n, none⟩ (.int .u64 1)) := kept_new k3 ((Kept.refl (fun b => b = w2.heap.size) w3).setCell ⟨w2.heap.size, 2 * n, none⟩ (fun _ => rfl) _) (Nat.le_refl _)
  generalize w3.setCell ⟨w2.heap.size, 2 * n, none⟩ (.int .u64 1) = w4 at *
  have K4 := HK2.out.trans k4
  have hx4 := (K4.block _ (lt_of_block HX.out) (fun f => f)).trans HX.out
  obtain ⟨r0, r1, r2⟩ := cells3 hx4
  have r3 := K4.cellN hc0'
  have hwant : Row .u64 w4 (.slice (some ⟨w2.heap.size, 0, none⟩) N N) (List.replicate (2 * n) 0 ++ [1]) := own_row' ho4 (by rw [List.length_append, List.length_replicate, HN.out]; rfl)
  have hsq : Row .u64 w4 (.slice (some ⟨W0.heap.size, 0, none⟩) N N) zs' := own_row' (k4.own HO2.out (fun _ _ f => f)) HL2.out
  have hx : ms.getD 0 0 < 18446744073709551616 := HMD.out.getD (by omega) _
  have hdg : val 18446744073709551616 ms % 18446744073709551616 = ms.getD 0 0 := by
    have := dig_val (by omega) HMD.out 0
    unfold dig at this
    rwa [Nat.pow_zero, Nat.div_one] at this
  have hlx : ms.length ≤ 100000000 := by rw [hLm.out]; omega
  have hlr : rs.length ≤ 100000000 := by rw [hLr.out]; omega
  have hlz : zs'.length ≤ 100000000 := by rw [HL2.out]; omega
  have hL := fun W (k : Kept Nought w4 W) => lLess none _ _ rs ms W (TrRoom.none _ _ (by omega)) (RowT.none (HR.out.grew (K4.trans k))) (RowT.none (HM.out.grew (K4.trans k))) HRD.out HMD.out hlr hlx
  have hE := fun W (k : Kept Nought w4 W) => lEqual none _ _ zs' _ W (TrRoom.none _ _ (by omega)) (RowT.none (hsq.grew k)) (RowT.none (hwant.grew k)) HD2.out (want_digs (2 * n)) hlz (by simp; omega)
  rw [want_val] at hE
  have hbits := prep_bits (V := val 18446744073709551616 ms) (K := K) (R := val 18446744073709551616 rs) (n := n) (Q := Q) (A := val 18446744073709551616 zs') (c := c) hn HVV.out hV1 hodd (by rw [show n + (n + 1) = N by have := HN.out; omega]; exact HE.out) HQ.out HLow.out
  rw [← hP] at hbits
  obtain ⟨y, hy⟩ : ∃ y, y = K * ms.getD 0 0 % 18446744073709551616 := ⟨_, rfl⟩
  obtain ⟨z, hz⟩ : ∃ z, z = (y + 1) % 18446744073709551616 := ⟨_, rfl⟩
  have hzz : decide (z = 0) = decide ((val 18446744073709551616 ms * K + 1) % 18446744073709551616 = 0) := by
    have : z = (val 18446744073709551616 ms * K + 1) % 18446744073709551616 := by
      rw [hz, hy, ← hdg, Nat.add_mod, Nat.mod_mod, ← Nat.add_mod, Nat.mul_comm (val 18446744073709551616 ms), Nat.add_mod, Nat.mul_mod, Nat.mod_mod, ← Nat.mul_mod, ← Nat.add_mod]
    rw [this]
  rw [← hzz] at hbits
  have gy : IntKind.u64.wrap ((K : Int) * ((ms.getD 0 0 : Nat) : Int)) = (y : Int) := by rw [IntKind.wrap_u64, hy]; omega
  have gz : IntKind.u64.wrap ((y : Int) + 1) = (z : Int) := by rw [IntKind.wrap_u64, hz]; omega
  have hzb : z < 18446744073709551616 := by rw [hz]; exact Nat.mod_lt _ (by omega)
  obtain ⟨b0, hb0⟩ : ∃ b, b = oneN (decide (z = 0)) := ⟨_, rfl⟩
  obtain ⟨b1, hb1⟩ : ∃ b, b = oneN (decide (val 18446744073709551616 rs < val 18446744073709551616 ms)) := ⟨_, rfl⟩
  obtain ⟨b2, hb2⟩ : ∃ b, b = oneN (decide (val 18446744073709551616 zs' = 18446744073709551616 ^ (2 * n))) := ⟨_, rfl⟩
  obtain ⟨b3, hb3⟩ : ∃ b, b = oneN (decide (z = 0) && decide (val 18446744073709551616 rs < val 18446744073709551616 ms)) := ⟨_, rfl⟩
  have g1 : bits .and .u64 (b0 : Int) (b1 : Int) = (b3 : Int) := by rw [hb0, hb1, hb3]; exact and_bits _ _
  have g2 : bits .and .u64 (b3 : Int) (b2 : Int) = (P : Int) := by rw [hb3, hb2, ← hbits]; exact and_bits _ _
  have hZ : Hid (∀ W, Calls Tryz.prog 123 #[.int .u64 (z : Int)] W fun e w' => e = .returned (.int .u64 (b0 : Int)) ∧ w' = W) := fun W => by
    have := wZero (z : Int) (by omega) (by omega) W
    rw [zer_bits, ← hb0] at this
    exact this
  have JL : Hid (∀ W, Kept Nought w4 W → Calls Tryz.prog 110 #[.pointer none, .slice bo n rcap, .slice (some ⟨bm, off, none⟩) n mcap] W fun e w' => e = .returned (.int .u64 (b1 : Int)) ∧ Kept Nought w4 w') := fun W k => by
    refine (hL W k).mono ?_
    rintro e w' ⟨rfl, o', d⟩
    exact ⟨by rw [hb1], k.trans d.none.2⟩
  have JE : Hid (∀ W, Kept Nought w4 W → Calls Tryz.prog 124 #[.pointer none, .slice (some ⟨W0.heap.size, 0, none⟩) N N, .slice (some ⟨w2.heap.size, 0, none⟩) N N] W fun e w' => e = .returned (.int .u64 (b2 : Int)) ∧ Kept Nought w4 w') := fun W k => by
    refine (hE W k).mono ?_
    rintro e w' ⟨rfl, o', d⟩
    exact ⟨by rw [hb2], k.trans d.none.2⟩
  have KF := toHid (HK0.out.trans K4)
  clear hL hE hbits hzz hdg hb0 hb1 hb2 hb3 hy hz hwant hsq hx4 ho4 k4 ho3 hc3 hf3 k3 K4 hc0' hP hV1 hodd HE HLow HQ HVV
  generalize ms.getD 0 0 = x at *
  go_region_held3 (fun w' => w'.cell? ⟨w.heap.size, 0, none⟩ = some (.slice (some ⟨bm, off, none⟩) n mcap) ∧ w'.cell? ⟨w.heap.size, 1, none⟩ = some (.int .u64 (K : Int)) ∧ w'.cell? ⟨w.heap.size, 2, none⟩ = some (.slice bo n rcap) ∧ w'.cell? ⟨bm, off, none⟩ = some (.int .u64 (x : Int)))
    (((try dsimp only); (repeat' apply And.intro) <;> first | (go_keep; done) | assumption))
    (first
    | (go_at_call 123; refine (hZ.out _).mono ?_; rintro e w5 ⟨rfl, rfl⟩)
    | (go_at_call 110; refine (JL.out _ ?_).mono ?_; (exact (Kept.refl _ _).drew); rintro e w6 ⟨rfl, k6⟩; have s0 := k6.cellN r0; have s1 := k6.cellN r1; have s2 := k6.cellN r2; have s3 := k6.cellN r3)
    | (go_at_call 124; refine (JE.out _ ?_).mono ?_; (exact k6); rintro e w7 ⟨rfl, k7⟩; have t0 := k7.cellN r0; have t1 := k7.cellN r1; have t2 := k7.cellN r2; have t3 := k7.cellN r3))
  all_goals
    go_wp2_with fail
    go_ret
    exact ⟨rfl, KF.out.trans k7⟩

end Go.Proofs.YtldbfcifoijliaaGreatDoor

/- Package mont: Check. -/
namespace Go.Proofs.YtldbfcifoijliaaGreatDoor
open Go.RowKit

/-- What Check tests is what a modulus should be. -/
theorem chk_iff {ms rs : List Nat} {K n l : Nat} (hn : ms.length = n) (hl : rs.length = l) (hmd : Digs 18446744073709551616 ms) (hrd : Digs 18446744073709551616 rs) (hK : K < 18446744073709551616) :
    okMod ms K rs ↔ (rfn n (val 18446744073709551616 ms) = 0 ∧ wordsN (val 18446744073709551616 ms) = n ∧ l = n ∧ prepN (val 18446744073709551616 ms) K (val 18446744073709551616 rs) n = 1) := by
  have hVn : val 18446744073709551616 ms < 18446744073709551616 ^ n := by rw [← hn]; exact val_lt (by omega) hmd
  have hB2 : 18446744073709551616 ^ (2 * n) = 2 ^ (128 * n) := by rw [B64]; congr 1; omega
  obtain ⟨V, hV⟩ : ∃ V, V = val 18446744073709551616 ms := ⟨_, rfl⟩
  unfold okMod rfn prepN
  rw [← hV] at hVn ⊢
  constructor
  · rintro ⟨h1, h2, h3, h4⟩
    obtain ⟨m1, m2, m3⟩ := montE_ok h1
    unfold modM at h2
    unfold modR at h4
    rw [if_pos h1] at h2 h4
    have hw : wordsN V = n := by rw [← hn, ← h2, digs_length]
    rw [hw] at h4 m1
    refine ⟨?_, hw, by rw [← hl, ← h4, digs_length], ?_⟩
    · rw [if_neg (by omega), if_neg (by omega), if_neg (by omega)]
    · rw [if_pos]
      refine ⟨h3.2.1 h1, ?_⟩
      rw [← h4, val_digs, hB2, Nat.mod_eq_of_lt (Nat.lt_trans (Nat.mod_lt _ (by omega)) hVn)]
  · rintro ⟨h1, h2, h3, h4⟩
    have g1 : ¬ 130 < n := fun h => by rw [if_pos h] at h1; omega
    rw [if_neg g1] at h1
    have g2 : ¬ V < 2 := fun h => by rw [if_pos h] at h1; omega
    rw [if_neg g2] at h1
    have g3 : ¬ V % 2 = 0 := fun h => by rw [if_pos h] at h1; omega
    have hE : montE V = 0 := by
      unfold montE
      rw [h2, if_neg g1, if_neg g2, if_neg g3]
    by_cases h5 : (V * K + 1) % 18446744073709551616 = 0 ∧ val 18446744073709551616 rs = 18446744073709551616 ^ (2 * n) % V
    · refine ⟨hE, ?_, ⟨hK, fun _ => h5.1, fun h => absurd hE h⟩, ?_⟩
      · unfold modM
        rw [if_pos hE, h2]
        exact (digs_val (by omega) hmd hn (by rw [← hV, Nat.mod_eq_of_lt hVn])).symm
      · unfold modR
        rw [if_pos hE, h2, ← hB2]
        exact (digs_val (by omega) hrd (hl.trans h3) (by rw [h5.2, Nat.mod_eq_of_lt (Nat.lt_trans (Nat.mod_lt _ (by omega)) hVn)])).symm
    · rw [if_neg h5] at h4
      omega

/-- A number that needs n words is above 2^(64 (n - 1)), if it is odd and not 1. -/
theorem above_top {V n : Nat} (h : wordsN V = n) (hn : 0 < n) (h2 : 2 ≤ V) (ho : V % 2 = 1) : 18446744073709551616 ^ (n - 1) < V := by
  have h1 : ¬ wordsN V ≤ n - 1 := by omega
  rw [wordsN_le] at h1
  rcases Nat.lt_or_ge (18446744073709551616 ^ (n - 1)) V with h3 | h3
  · exact h3
  · exfalso
    have e : V = 18446744073709551616 ^ (n - 1) := by omega
    rcases Nat.eq_zero_or_pos (n - 1) with h4 | h4
    · rw [h4, Nat.pow_zero] at e; omega
    · obtain ⟨k, hk⟩ : ∃ k, n - 1 = k + 1 := ⟨n - 1 - 1, by omega⟩
      rw [hk, Nat.pow_succ] at e
      omega

set_option maxRecDepth 20000 in
set_option maxHeartbeats 2000000 in
/-- What Check attempts. -/
theorem mCheck1 (ao bo : Option Addr) (n l K mcap rcap b : Nat) (ms rs : List Nat) (w : World) (hm : Row .u64 w (.slice ao n mcap) ms) (hr : Row .u64 w (.slice bo l rcap) rs) (hmd : Digs 18446744073709551616 ms) (hrd : Digs 18446744073709551616 rs) (hK : K < 18446744073709551616) (hnb : n ≤ 1000000)
    (hb : w.heap[b]? = some (.cells #[.slice ao n mcap, .int .u64 (K : Nat), .slice bo l rcap] 52 (0, 0))) :
    Calls Tryz.prog 111 #[.pointer (some ⟨b, 0, none⟩)] w fun e w' => Kept Nought w w' ∧ ((okMod ms K rs ∧ e = .returned (.tuple #[])) ∨ (¬ okMod ms K rs ∧ ∃ c : Nat, c ≠ 0 ∧ e = .panicked [refusal (c : Nat)])) := by
  obtain ⟨_, _, _, e1, hLm, _, _, _, _⟩ := hm.open
  cases e1
  obtain ⟨_, _, _, e1, hLr, _, _, _, _⟩ := hr.open
  cases e1
  have HI := toHid (chk_iff (K := K) hLm.out hLr.out hmd hrd hK)
  have hRN := mRefuseNumber ao n mcap ms w hm hmd (by omega)
  obtain ⟨R, hR⟩ : ∃ R, R = wordsN (val 18446744073709551616 ms) := ⟨_, rfl⟩
  have hNe := mNeeds (.slice ao n mcap) ms R hR w hm hmd (by rw [hLm.out]; omega)
  obtain ⟨E, hE⟩ : ∃ E, E = rfn n (val 18446744073709551616 ms) := ⟨_, rfl⟩
  rw [← hE] at hRN
  have hNo := mRefuseNo 1 w
  have hYes := mRefuseYes 1 w
  obtain ⟨p0, p1, p2⟩ := cells3 hb
  have HM := toHid hm
  have HR := toHid hr
  have HMD := toHid hmd
  have HRD := toHid hrd
  have HRR := toHid hR
  have HE := toHid hE
  clear hb hm hr hmd hrd hR hE
  by_cases h1 : E = 0
  · subst h1
    by_cases h2 : R = n
    · by_cases h3 : l = n
      · subst h2 h3
        have hoddV : 2 ≤ val 18446744073709551616 ms ∧ val 18446744073709551616 ms % 2 = 1 ∧ l ≤ 130 := by
          have := HE.out
          unfold rfn at this
          by_cases g1 : 130 < l
          · rw [if_pos g1] at this; omega
          · rw [if_neg g1] at this
            by_cases g2 : val 18446744073709551616 ms < 2
            · rw [if_pos g2] at this; omega
            · rw [if_neg g2] at this
              by_cases g3 : val 18446744073709551616 ms % 2 = 0
              · rw [if_pos g3] at this; omega
              · omega
        have hl0 : 0 < l := by
          rcases Nat.eq_zero_or_pos l with h0 | h0
          · have hw := HRR.out
            have h5 := (wordsN_le (val 18446744073709551616 ms) 0).1 (by omega)
            rw [Nat.pow_zero] at h5
            omega
          · exact h0
        obtain ⟨P, hP⟩ : ∃ P, P = prepN (val 18446744073709551616 ms) K (val 18446744073709551616 rs) l := ⟨_, rfl⟩
        have hPr := mPrepared ao bo l K mcap rcap ms rs P w HM.out HR.out HMD.out HRD.out hl0 hoddV.2.2 (above_top HRR.out.symm hl0 hoddV.1 hoddV.2.1) hoddV.2.1 hP
        have hP01 : P = 0 ∨ P = 1 := by rw [hP]; unfold prepN; split <;> simp
        have hok : okMod ms K rs ↔ P = 1 := by
          rw [HI.out, ← hP]
          exact ⟨fun h => h.2.2.2, fun h => ⟨HE.out.symm, HRR.out.symm, rfl, h⟩⟩
        have HOK := toHid hok
        have hNo' := fun W => mRefuseNo 1 W
        have hYes' := fun W => mRefuseYes 1 W
        clear hP hok HI hoddV
        rcases hP01 with rfl | rfl
        · go_enter Tryz.func111, Tryz.ntmps111
          go_wp2_with fail
          refine hRN.mono ?_
          rintro e w1 ⟨⟨_, rfl⟩ | ⟨h, _⟩, rfl⟩
          · go_wp2_with fail
            refine hNe.mono ?_
            rintro e w2 ⟨rfl, rfl⟩
            go_wp2_with fail
            refine (hNo' _).mono ?_
            rintro e w3 ⟨rfl, rfl⟩
            go_wp2_with fail
            refine hPr.mono ?_
            rintro e w4 ⟨rfl, k4⟩
            go_wp2_with fail
            refine (hYes' _).mono ?_
            rintro e w5 ⟨rfl, rfl⟩
            exact ⟨rfl, k4, .inr ⟨fun h => by have := HOK.out.1 h; omega, 1, by omega, rfl⟩⟩
          · exact absurd rfl h
        · go_enter Tryz.func111, Tryz.ntmps111
          go_wp2_with fail
          refine hRN.mono ?_
          rintro e w1 ⟨⟨_, rfl⟩ | ⟨h, _⟩, rfl⟩
          · go_wp2_with fail
            refine hNe.mono ?_
            rintro e w2 ⟨rfl, rfl⟩
            go_wp2_with fail
            refine (hNo' _).mono ?_
            rintro e w3 ⟨rfl, rfl⟩
            go_wp2_with fail
            refine hPr.mono ?_
            rintro e w4 ⟨rfl, k4⟩
            go_wp2_with fail
            refine (hNo' _).mono ?_
            rintro e w5 ⟨rfl, rfl⟩
            go_wp2_with fail
            go_end0
            exact ⟨k4, .inl ⟨HOK.out.2 (by first | rfl | trivial), rfl⟩⟩
          · exact absurd rfl h
      · subst h2
        have h3' : ¬ (l : Int) = (R : Int) := by omega
        have HNE : Hid ((((l : Nat) : Int) != ((R : Nat) : Int)) = true) := bne_iff_ne.2 h3'
        have HNK : Hid (¬ okMod ms K rs) := fun h => h3 (HI.out.1 h).2.2.1
        clear HI
        go_enter Tryz.func111, Tryz.ntmps111
        go_wp2_with fail
        refine hRN.mono ?_
        rintro e w1 ⟨⟨_, rfl⟩ | ⟨h, _⟩, rfl⟩
        · go_wp2_with fail
          refine hNe.mono ?_
          rintro e w2 ⟨rfl, rfl⟩
          go_wp2_with fail
          rw [HNE.out]
          refine hYes.mono ?_
          rintro e w3 ⟨rfl, rfl⟩
          exact ⟨rfl, Kept.refl _ _, .inr ⟨HNK.out, 1, by omega, rfl⟩⟩
        · exact absurd rfl h
    · have h2' : ¬ (R : Int) = (n : Int) := by omega
      have HNK : Hid (¬ okMod ms K rs) := fun h => h2 (HRR.out.trans (HI.out.1 h).2.1)
      clear HI
      go_enter Tryz.func111, Tryz.ntmps111
      go_wp2_with fail
      refine hRN.mono ?_
      rintro e w1 ⟨⟨_, rfl⟩ | ⟨h, _⟩, rfl⟩
      · go_wp2_with fail
        refine hNe.mono ?_
        rintro e w2 ⟨rfl, rfl⟩
        go_wp2_with fail
        refine hYes.mono ?_
        rintro e w3 ⟨rfl, rfl⟩
        exact ⟨rfl, Kept.refl _ _, .inr ⟨HNK.out, 1, by omega, rfl⟩⟩
      · exact absurd rfl h
  · have HNK : Hid (¬ okMod ms K rs) := fun h => h1 (HE.out.trans (HI.out.1 h).1)
    clear HI
    go_enter Tryz.func111, Tryz.ntmps111
    go_wp2_with fail
    refine hRN.mono ?_
    rintro e w1 ⟨⟨h, _⟩ | ⟨h, rfl⟩, rfl⟩
    · exact absurd h h1
    · exact ⟨rfl, Kept.refl _ _, .inr ⟨HNK.out, E, h, rfl⟩⟩

set_option maxRecDepth 20000 in
set_option maxHeartbeats 2000000 in
/-- Check. -/
theorem mCheck (ao bo : Option Addr) (n l K mcap rcap : Nat) (ms rs : List Nat) (R : Bool) (hR : R = true ↔ okMod ms K rs) (w : World) (hm : Row .u64 w (.slice ao n mcap) ms) (hr : Row .u64 w (.slice bo l rcap) rs) (hmd : Digs 18446744073709551616 ms) (hrd : Digs 18446744073709551616 rs) (hK : K < 18446744073709551616) (hnb : n ≤ 1000000) :
    Calls Tryz.prog 100 #[.agg #[.slice ao n mcap, .int .u64 (K : Nat), .slice bo l rcap]] w fun e w' => e = .returned (.bool R) ∧ Kept Nought w w' := by
  have hmf : ∀ (fn : Fn) (first cap : Array Value) (w : World), (Instr.makeFunc fn first cap).run Tryz.prog w = .ok (.func fn first cap) w := fun _ _ _ _ => rfl
  obtain ⟨W, hW⟩ : ∃ W, W = w.alloc (.cells #[.slice ao n mcap, .int .u64 (K : Nat), .slice bo l rcap] 52) := ⟨_, rfl⟩
  have k0 : Kept Nought w W := by rw [hW]; exact (Kept.refl Nought w).alloc _
  have hx0 : W.heap[w.heap.size]? = some (.cells #[.slice ao n mcap, .int .u64 (K : Nat), .slice bo l rcap] 52 (0, 0)) := by rw [hW]; exact heap_alloc_new _ _
  have he : ∀ args w, (callFunc 111 args).run Tryz.prog w = .ok (.enter 111 args) w := fun _ _ => by simp [go_sem]
  have k1 := k0.alloc (.cells #[.int .i64 0] 28)
  have xe := Box.new W (.int .i64 0) 28
  have h1 := mCheck1 ao bo n l K mcap rcap w.heap.size ms rs _ (hm.grew k1) (hr.grew k1) hmd hrd hK hnb (heapAt_alloc hx0)
  have hAt := mAttempt 111 #[.pointer (some ⟨w.heap.size, 0, none⟩)] W (fun c W' => Kept Nought w W' ∧ (c = 0 ↔ okMod ms K rs)) he (h1.mono (by
    rintro e w' ⟨k, (⟨h2, rfl⟩ | ⟨h2, c, hc, rfl⟩)⟩
    · exact ⟨(k.block _ xe.lt (fun f => f)).trans xe, .inl ⟨rfl, k1.trans k, ⟨fun _ => h2, fun _ => rfl⟩⟩⟩
    · exact ⟨(k.block _ xe.lt (fun f => f)).trans xe, .inr ⟨_, rfl, k1.trans k, ⟨fun h => absurd (by omega) hc, fun h => absurd h h2⟩⟩⟩))
  have HR := toHid hR
  have HW := toHid hW
  have hwW : w.heap.size ≤ W.heap.size := k0.size
  clear h1 hm hr hmd hrd hR hW k0 k1 hx0 xe he
  go_enter Tryz.func100, Tryz.ntmps100
  go_wp2_with (rw [← HW.out])
  refine hAt.mono ?_
  rintro e w' ⟨c, w1, rfl, ⟨⟨k2, h2⟩, hbe⟩, rfl⟩
  have k3 := k2.next (kept_box w1 W.heap.size (.int .i64 c)) (fun x hx e => by omega)
  have HC : Hid (decide (c = 0) = R) := by
    unfold Hid
    have h3 := HR.out
    by_cases h4 : c = 0
    · rw [decide_eq_true h4]
      exact (h3.2 (h2.1 h4)).symm
    · rw [decide_eq_false h4]
      cases R
      · rfl
      · exact absurd (h2.2 (h3.1 rfl)) h4
  clear hAt h2 k2 hbe
  generalize w1.setCell ⟨W.heap.size, 0, none⟩ (.int .i64 c) = w2 at *
  go_wp2_with fail
  go_ret
  rw [← HC.out]
  exact ⟨rfl, k3⟩

end Go.Proofs.YtldbfcifoijliaaGreatDoor

