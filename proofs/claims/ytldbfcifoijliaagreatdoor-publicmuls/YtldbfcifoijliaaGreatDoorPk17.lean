/- Put together of: Kex1 Prm1 Prm2 Key1 Key2 Bev1 Key5 Held1 Kex2. -/
import Derived.Test.YtldbfcifoijliaaGreatDoorPk1
import Derived.Test.YtldbfcifoijliaaGreatDoorPk3
import Derived.Test.YtldbfcifoijliaaGreatDoorPk4
import Derived.Test.YtldbfcifoijliaaGreatDoorPk9
import Derived.Test.YtldbfcifoijliaaGreatDoorPk11
import Derived.Test.YtldbfcifoijliaaGreatDoorPk14
import Derived.Test.YtldbfcifoijliaaGreatDoorPk16
import Derived.Test.YtldbfcifoijliaaGreatDoorRows
import Derived.Deep.RegionHeld3

/- Package key: attempt, refuse, step, and the small functions. -/
namespace Go.Proofs.YtldbfcifoijliaaGreatDoor
open Go.RowKit

set_option maxHeartbeats 400000 in
/-- The deferred closure, where nothing was refused. -/
theorem kCatchIdle (p : Addr) (w : World) :
    CallsD Tryz.prog 60 #[.pointer (some p)] .returning w fun e u' w' => e = .returned (.tuple #[]) ∧ u' = .returning ∧ w' = w := by
  refine callsD_of_wpS Tryz.func60 rfl fun c₀ cs hu => ?_
  apply wpS_seq
  apply wpS_region
  simp [wpOpsS, go_sem, recoverD, hu, Tryz.ntmps60, Exit.thenS]
  apply wpS_seq
  apply wpS_seq
  apply wpS_region
  simp [wpOpsS, go_sem, Exit.thenS]
  refine wpS_cond (t := true) (by simp [Act.eval, Array.replicate]) ?_
  simp only [if_true]
  refine wpS_of_wp (wp_ret ?_)
  cases c₀
  simp_all [bodyPostS, results, Tryz.results60, Exit.thenS]

set_option maxHeartbeats 400000 in
/-- The deferred closure, where something was refused. -/
theorem kCatch (p : Addr) (x n : Int) (older : List PanicEntry) (w : World) (hc : w.cell? p = some (.int .i64 x)) (hz : w.frozen? p = false) :
    CallsD Tryz.prog 60 #[.pointer (some p)] (.panicking (refusal n :: older)) w fun e u' w' =>
      e = .returned (.tuple #[]) ∧ u' = .panicking ({ refusal n with recovered := true } :: older) ∧ w' = w.setCell p (.int .i64 n) := by
  refine callsD_of_wpS Tryz.func60 rfl fun c₀ cs hu => ?_
  apply wpS_seq
  apply wpS_region
  simp [wpOpsS, go_sem, recoverD, hu, Tryz.ntmps60, Exit.thenS]
  apply wpS_seq
  apply wpS_seq
  apply wpS_region
  simp [wpOpsS, go_sem, Exit.thenS]
  refine wpS_cond (t := false) (by simp [Act.eval, Array.replicate]) ?_
  simp only [Bool.false_eq_true, if_false]
  refine wpS_of_wp (wp_skip ?_)
  simp only [Exit.thenS]
  refine wpS_of_wp ?_
  have hta : ∀ w : World, (Instr.typeAssert (.iface 28 (.int .i64 n)) 20 28 true).run Tryz.prog w = .ok (.tuple #[.int .i64 n, .bool true]) w := fun w => by kernel_rfl
  have hnot : ∀ (x : Bool) (w : World), (Op.unary .not (.bool x)).run Tryz.prog w = .ok (.bool (!x)) w := fun _ _ => rfl
  have e : (#[Value.pointer (some p)] ++ ((((Array.replicate 15 undef).setIfInBounds 3 (Value.iface 28 (Value.int IntKind.i64 n))).setIfInBounds 0 (Value.iface 28 (Value.int IntKind.i64 n))).setIfInBounds 4 (Value.iface 28 (Value.int IntKind.i64 n))).setIfInBounds 5 (Value.bool false) : Array Value) = #[.pointer (some p), .iface 28 (.int .i64 n), undef, undef, .iface 28 (.int .i64 n), .iface 28 (.int .i64 n), .bool false, undef, undef, undef, undef, undef, undef, undef, undef, undef] := rfl
  rw [e]
  clear e
  go_wp2
  simp [bodyPostS, results, Tryz.results60]

set_option maxHeartbeats 400000 in
/-- attempt: what the closure does, and 0, or the number with which it was refused. -/
theorem kAttempt (f : Nat) (cap : Array Value) (w : World) (Q : Int → World → Prop) (he : ∀ args w, (callFunc f args).run Tryz.prog w = .ok (.enter f args) w)
    (h : Calls Tryz.prog f cap (w.alloc (.cells #[.int .i64 0] 28)) fun e w' => w'.heap[w.heap.size]? = some (.cells #[.int .i64 0] 28 (0, 0)) ∧
      ((e = .returned (.tuple #[]) ∧ Q 0 w') ∨ ∃ n, e = .panicked [refusal n] ∧ Q n w')) :
    Calls Tryz.prog 39 #[.func (.func f) #[] cap] w fun e w' => ∃ n w1, e = .returned (.int .i64 n) ∧ (Q n w1 ∧ w1.heap[w.heap.size]? = some (.cells #[.int .i64 0] 28 (0, 0))) ∧ w' = w1.setCell ⟨w.heap.size, 0, none⟩ (.int .i64 n) := by
  have hmf : ∀ (fn : Fn) (first cap : Array Value) (w : World), (Instr.makeFunc fn first cap).run Tryz.prog w = .ok (.func fn first cap) w := fun _ _ _ _ => rfl
  go_enter_defers Tryz.func39, Tryz.ntmps39
  go_wp2_with fail
  refine h.mono ?_
  rintro e w1 ⟨hb, (⟨rfl, hq⟩ | ⟨n, rfl, hq⟩)⟩
  · have hc : w1.cell? ⟨w.heap.size, 0, none⟩ = some (.int .i64 0) := by simp [World.cell?, hb]
    have hz : w1.frozen? ⟨w.heap.size, 0, none⟩ = false := by simp [World.frozen?, hb]
    clear h
    go_wp2_with fail
    refine leaves_cons (f := 60) (args := #[.pointer (some ⟨w.heap.size, 0, none⟩)]) (by simp) (by simp [go_sem]) ?_
    refine (kCatchIdle ⟨w.heap.size, 0, none⟩ _).mono ?_
    rintro e u' w'' ⟨rfl, rfl, rfl⟩
    have hc2 : (w1.setCell ⟨w.heap.size, 0, none⟩ (.int .i64 0)).cell? ⟨w.heap.size, 0, none⟩ = some (.int .i64 0) := World.cell?_setCell_same' _ _ _ (by rw [hc]; rfl)
    simp [Leaves, settle, results, Tryz.results39, go_sem, hc2]
    exact ⟨_, ⟨hq, hb⟩, rfl⟩
  · have hc : w1.cell? ⟨w.heap.size, 0, none⟩ = some (.int .i64 0) := by simp [World.cell?, hb]
    have hz : w1.frozen? ⟨w.heap.size, 0, none⟩ = false := by simp [World.frozen?, hb]
    clear h
    refine leaves_cons (f := 60) (args := #[.pointer (some ⟨w.heap.size, 0, none⟩)]) (by simp) (by simp [go_sem]) ?_
    refine (kCatch ⟨w.heap.size, 0, none⟩ 0 n [] _ hc hz).mono ?_
    rintro e u' w'' ⟨rfl, rfl, rfl⟩
    have hc2 : (w1.setCell ⟨w.heap.size, 0, none⟩ (.int .i64 n)).cell? ⟨w.heap.size, 0, none⟩ = some (.int .i64 n) := World.cell?_setCell_same' _ _ _ (by rw [hc]; rfl)
    simp [Leaves, settle, results, Tryz.results39, go_sem, hc2]
    exact ⟨_, ⟨hq, hb⟩, rfl⟩

set_option maxHeartbeats 400000 in
/-- refuse, where it is not so. -/
theorem kRefuseNo (n : Int) (w : World) : Calls Tryz.prog 42 #[.bool false, .int .i64 n] w fun e w' => e = .returned (.tuple #[]) ∧ w' = w := by
  go_enter Tryz.func42, Tryz.ntmps42
  go_wp2
  go_end0
  exact ⟨rfl, rfl⟩

set_option maxHeartbeats 400000 in
/-- refuse, where it is so. -/
theorem kRefuseYes (n : Int) (w : World) : Calls Tryz.prog 42 #[.bool true, .int .i64 n] w fun e w' => e = .panicked [refusal n] ∧ w' = w := by
  go_enter Tryz.func42, Tryz.ntmps42
  go_wp2
  exact ⟨rfl, rfl, rfl⟩

theorem fits_res {V n : Nat} (h : V < 18446744073709551616 ^ n) (hn : n ≤ 300) : resCode V (n : Int) = 0 ∧ resList V (n : Int) = digs 18446744073709551616 V n := by
  have hw := (wordsN_le V n).2 h
  have e : resCode V (n : Int) = 0 := by
    unfold resCode
    rw [if_neg (by omega), if_neg (by omega)]
  exact ⟨e, by unfold resList; rw [if_pos e]; rfl⟩

theorem words_blen (V : Nat) : wordsN V = (blen V + 63) / 64 := by
  unfold wordsN blen
  by_cases h : V = 0
  · rw [if_pos h, if_pos h]
  · rw [if_neg h, if_neg h]
    omega

set_option maxHeartbeats 400000 in
/-- parts. -/
theorem kParts (n s q : Nat) (hq : q = (n + s - 1) / s) (hn : n ≤ 1000000000000) (hs0 : 0 < s) (hs : s ≤ 64) (w : World) :
    Calls Tryz.prog 43 #[.int .i64 (n : Int), .int .i64 (s : Int)] w fun e w' => e = .returned (.int .i64 (q : Int)) ∧ w' = w := by
  have g1 : ((n : Int) + (s : Int) - 1) / (s : Int) = (q : Int) := by
    rw [hq]
    have e : (n : Int) + (s : Int) - 1 = ((n + s - 1 : Nat) : Int) := by omega
    rw [e]
    rfl
  have g2 : ((n : Int) + (s : Int) - 1).tdiv (s : Int) = (q : Int) := by rw [Int.tdiv_eq_ediv_of_nonneg (by omega)]; exact g1
  have g3 : ¬ (s : Int) = 0 := by omega
  have g4 : ((s : Int) == 0) = false := by simpa using g3
  have hqb : q ≤ 1000000000100 := by rw [hq]; exact Nat.le_trans (Nat.div_le_self _ _) (by omega)
  clear hq
  go_enter Tryz.func43, Tryz.ntmps43
  go_wp2_with fail
  go_ret
  first | exact ⟨rfl, rfl⟩ | exact ⟨by simp_all, rfl⟩

set_option maxHeartbeats 400000 in
/-- isOdd. -/
theorem kOdd (ao : Option Addr) (L cap : Nat) (xs : List Nat) (w : World) (hu : Row .u64 w (.slice ao L cap) xs) (hd : Digs 18446744073709551616 xs) :
    Calls Tryz.prog 44 #[.slice ao L cap] w fun e w' => e = .returned (.bool (decide (val 18446744073709551616 xs % 2 = 1))) ∧ w' = w := by
  have J := nBit _ xs 0 w hu hd (by omega)
  have hb : bitN (val 18446744073709551616 xs) 0 = val 18446744073709551616 xs % 2 := by
    have := bitN_nat (val 18446744073709551616 xs) 0
    rw [Nat.pow_zero, Nat.div_one] at this
    exact this
  rw [hb] at J
  obtain ⟨V, hV⟩ : ∃ V, V = val 18446744073709551616 xs := ⟨_, rfl⟩
  rw [← hV] at J ⊢
  clear hu hd hb hV
  have h2 : V % 2 = 0 ∨ V % 2 = 1 := by omega
  rcases h2 with h2 | h2
  · rw [h2] at J ⊢
    go_enter Tryz.func44, Tryz.ntmps44
    go_wp2_with fail
    refine J.mono ?_
    rintro e w' ⟨rfl, rfl⟩
    go_wp2
    go_ret
    exact ⟨rfl, rfl⟩
  · rw [h2] at J ⊢
    go_enter Tryz.func44, Tryz.ntmps44
    go_wp2_with fail
    refine J.mono ?_
    rintro e w' ⟨rfl, rfl⟩
    go_wp2
    go_ret
    exact ⟨rfl, rfl⟩

end Go.Proofs.YtldbfcifoijliaaGreatDoor


/- The plain side of layer 16 (package sconceref16): small, Primes, Factor, Passes. -/
namespace Go.Proofs.YtldbfcifoijliaaGreatDoor
open Go.RowKit

/-- A prime. -/
def PrimeN (n : Nat) : Prop := 2 ≤ n ∧ ∀ d, 2 ≤ d → d < n → n % d ≠ 0

instance (n : Nat) : Decidable (PrimeN n) :=
  if h : 2 ≤ n then
    if g : ∀ d, d < n → 2 ≤ d → n % d ≠ 0 then isTrue ⟨h, fun d h1 h2 => g d h2 h1⟩ else isFalse (fun p => g (fun d h1 h2 => p.2 d h2 h1))
  else isFalse (fun p => h p.1)

/-- R is the least prime up to b that divides X; 0: none does. -/
def IsFac (X b R : Nat) : Prop := (R = 0 ∧ ∀ p, PrimeN p → p ≤ b → X % p ≠ 0) ∨ (PrimeN R ∧ R ≤ b ∧ X % R = 0 ∧ ∀ p, PrimeN p → p < R → X % p ≠ 0)

theorem IsFac.le {X b R : Nat} (h : IsFac X b R) : R ≤ b := by
  rcases h with ⟨rfl, _⟩ | ⟨_, h2, _⟩
  · exact Nat.zero_le _
  · exact h2

end Go.Proofs.YtldbfcifoijliaaGreatDoor


/- The plain side of layer 17 (package sconceref16): odd, Strong. -/
namespace Go.Proofs.YtldbfcifoijliaaGreatDoor
open Go.RowKit

theorem bigLow {w : World} {v : Value} {X : Nat} (h : IsBig w v X) (hX : 0 < X) : ∃ b off n cap d, v = .slice (some ⟨b, off, none⟩) n cap ∧ 0 < n ∧ w.cell? ⟨b, off, none⟩ = some (.int .u32 ((d : Nat) : Int)) ∧ d % 2 = X % 2 ∧ d < 4294967296 := by
  obtain ⟨ds, hr, hd, _, rfl, _⟩ := h
  cases ds with
  | nil => simp [val] at hX
  | cons d ds =>
    obtain ⟨ao, n, cap, rfl, hL, _, _, _, h4⟩ := hr.open
    have hn : 0 < n := by rw [← hL.out]; simp
    obtain ⟨b, off, rfl, hc⟩ := h4 0 hn
    refine ⟨b, off, n, cap, d, rfl, hn, by simpa using hc, ?_, hd d (by simp)⟩
    simp only [val]
    omega

end Go.Proofs.YtldbfcifoijliaaGreatDoor


/- The plain side of layers 18 and 19 (package sconceref18): one, Size, Good, Common. -/
namespace Go.Proofs.YtldbfcifoijliaaGreatDoor
open Go.RowKit

theorem blen_b {w : World} {v : Value} {V : Nat} (h : IsBig w v V) : blen V ≤ 100000000000 := by
  obtain ⟨ds, _, hd, _, rfl, hl⟩ := h
  have h1 := val_lt (B := 4294967296) (by omega) hd
  have h2 : blen (val 4294967296 ds) ≤ 32 * ds.length := (blen_le _ _).2 (by rw [Nat.pow_mul]; exact h1)
  omega

/-- How many bytes a number needs. -/
def sizeN (X : Nat) : Nat := (blen X + 7) / 8

set_option maxHeartbeats 800000 in
/-- Size. -/
theorem r18Size (v : Value) (xs : List Nat) (w : World) (hu : Row .u64 w v xs) (hdx : Digs 18446744073709551616 xs) (hL : xs.length ≤ 100000000) :
    Calls Tryz.prog 17 #[v] w fun e w' => e = .returned (.int .i64 (sizeN (val 18446744073709551616 xs) : Nat)) ∧ Kept Nought w w' := by
  have h1 := rOf v xs w hu hdx hL
  obtain ⟨ao, L, cap, rfl, -, -, -, -, -⟩ := hu.open
  clear hu
  go_enter Tryz.func17, Tryz.ntmps17
  go_wp2_with fail
  refine h1.mono ?_
  rintro e w1 ⟨v1, rfl, b1, _, k1⟩
  have h2 := rBitLen v1 _ w1 b1
  have hb := blen_b b1
  obtain ⟨t, ht⟩ : ∃ t, t = blen (val 18446744073709551616 xs) := ⟨_, rfl⟩
  obtain ⟨z, hz⟩ : ∃ z, z = sizeN (val 18446744073709551616 xs) := ⟨_, rfl⟩
  have hzt : z = (t + 7) / 8 := by rw [hz, ht]; rfl
  have HZ := toHid hz
  rw [← ht] at h2 hb
  have hsz : ((t : Int) + 7).tdiv 8 = (z : Int) := by rw [Int.tdiv_eq_ediv_of_nonneg (by omega)]; omega
  have hszd : ((t : Int) + 7) / 8 = (z : Int) := by omega
  clear h1 ht hz hzt
  go_wp2_with fail
  refine h2.mono ?_
  rintro e w2 ⟨rfl, rfl⟩
  go_wp2_with fail
  go_ret
  exact ⟨by rw [← HZ.out]; first | rfl | (simp; omega), k1⟩

end Go.Proofs.YtldbfcifoijliaaGreatDoor


/- The plain side of layers 18 and 19 (package sconceref18): Public, Good. -/
namespace Go.Proofs.YtldbfcifoijliaaGreatDoor
open Go.RowKit

/-- What Public answers. -/
def pubE (xs : List Nat) (e : Nat) : Nat :=
  if xs.length = 0 ∨ 1000 < xs.length ∨ xs.getD (xs.length - 1) 0 = 0 ∨ val 18446744073709551616 xs % 2 = 0 ∨ blen (val 18446744073709551616 xs) < 32 ∨ 8192 < blen (val 18446744073709551616 xs) ∨ e < 3 ∨ e % 2 = 0 ∨ 4294967296 ≤ e then 190 else 0

set_option maxRecDepth 20000 in
set_option maxHeartbeats 2000000 in
/-- Public. -/
theorem r18Public (ao : Option Addr) (L cap : Nat) (xs : List Nat) (e : Nat) (he : e < 18446744073709551616) (E : Nat) (hE : E = pubE xs e) (w : World) (hu : Row .u64 w (.slice ao L cap) xs) (hdx : Digs 18446744073709551616 xs) (hLb : L ≤ 1000000) :
    Calls Tryz.prog 16 #[.slice ao L cap, .int .u64 (e : Nat)] w fun r w' => r = .returned (.int .i64 (E : Nat)) ∧ Kept Nought w w' := by
  obtain ⟨_, _, _, e1, hL, -, -, -, h4⟩ := hu.open
  cases e1
  have hO := rOf _ xs w hu hdx (by rw [hL.out]; omega)
  have HBAD : Hid ((L = 0 ∨ 1000 < L ∨ xs.getD (L - 1) 0 = 0 ∨ val 18446744073709551616 xs % 2 = 0 ∨ blen (val 18446744073709551616 xs) < 32 ∨ 8192 < blen (val 18446744073709551616 xs) ∨ e < 3 ∨ e % 2 = 0 ∨ 4294967296 ≤ e) → E = 190) := fun h => by
    rw [hE, pubE, hL.out, if_pos h]
  have HGOOD : Hid (¬ (L = 0 ∨ 1000 < L ∨ xs.getD (L - 1) 0 = 0 ∨ val 18446744073709551616 xs % 2 = 0 ∨ blen (val 18446744073709551616 xs) < 32 ∨ 8192 < blen (val 18446744073709551616 xs) ∨ e < 3 ∨ e % 2 = 0 ∨ 4294967296 ≤ e) → E = 0) := fun h => by
    rw [hE, pubE, hL.out, if_neg h]
  have hval0 : Hid (xs.getD (L - 1) 0 ≠ 0 → 0 < L → 0 < val 18446744073709551616 xs) := fun h h2 => by
    have hT : Trimmed xs := .inr (by rw [hL.out]; exact h)
    have := val_le_of_top (B := 18446744073709551616) hT (by rw [hL.out]; exact h2)
    exact Nat.lt_of_lt_of_le (Nat.pow_pos (by omega)) this
  clear hu hdx hE hL
  generalize hXX : val 18446744073709551616 xs = X at *
  clear hXX
  by_cases a1 : L = 0
  · have HT := toHid (HBAD.out (.inl a1))
    subst a1
    clear h4 hO
    go_enter Tryz.func16, Tryz.ntmps16
    go_wp2_with fail
    go_ret
    exact ⟨by rw [HT.out]; rfl, Kept.refl _ _⟩
  have q1 : ((L : Int) == 0) = false := by simp; omega
  by_cases a2 : 1000 < L
  · have HT := toHid (HBAD.out (.inr (.inl a2)))
    have g2 : (1000 : Int) < (L : Int) := by omega
    clear h4 hO
    go_enter Tryz.func16, Tryz.ntmps16
    go_wp2_with fail
    go_ret
    exact ⟨by rw [HT.out]; rfl, Kept.refl _ _⟩
  have g2 : ¬ (1000 : Int) < (L : Int) := by omega
  have q2 : decide ((1000 : Int) < (L : Int)) = false := decide_eq_false g2
  obtain ⟨m, hm⟩ : ∃ m, L = m + 1 := ⟨L - 1, by omega⟩
  have hm' : L - 1 = m := by omega
  rw [hm'] at HBAD HGOOD hval0
  obtain ⟨b, off, rfl, hc⟩ := h4 m (by omega)
  obtain ⟨z, hz⟩ : ∃ z, z = xs.getD m 0 := ⟨_, rfl⟩
  rw [← hz] at hc HBAD HGOOD hval0
  have gw : IntKind.i64.wrap ((L : Int) - 1) = (m : Int) := by rw [IntKind.wrap_i64]; omega
  have gj : (L : Int) - 1 = (m : Int) := by omega
  have gm0 : (0 : Int) ≤ (m : Int) := by omega
  have gm1 : (m : Int) < (L : Int) := by omega
  clear h4 hz hm hm'
  by_cases a3 : z = 0
  · have HT := toHid (HBAD.out (.inr (.inr (.inl a3))))
    subst a3
    clear hO
    go_enter Tryz.func16, Tryz.ntmps16
    go_wp2_with fail
    go_ret
    exact ⟨by rw [HT.out]; rfl, Kept.refl _ _⟩
  have g3 : ¬ (z : Int) = 0 := by omega
  have q3 : ((z : Int) == 0) = false := by simp; omega
  have hX0 : 0 < X := hval0.out a3 (by omega)
  clear hval0
  go_enter Tryz.func16, Tryz.ntmps16
  go_wp2_with fail
  refine hO.mono ?_
  rintro r w1 ⟨v1, rfl, b1, _, k1⟩
  have h2 := rBitLen v1 X w1 b1
  have hbl := blen_b b1
  obtain ⟨b5, off5, n5, cap5, d5, rfl, hn5, hc5, hd5, hd6⟩ := bigLow b1 hX0
  obtain ⟨t, ht⟩ : ∃ t, t = blen X := ⟨_, rfl⟩
  rw [← ht] at h2 HBAD HGOOD hbl
  have gn5 : (0 : Int) < (n5 : Int) := by omega
  have hm5 : (d5 : Int).tmod 2 = ((d5 % 2 : Nat) : Int) := by rw [Int.tmod_eq_emod_of_nonneg (by omega)]; omega
  have he5 : (e : Int).tmod 2 = ((e % 2 : Nat) : Int) := by rw [Int.tmod_eq_emod_of_nonneg (by omega)]; omega
  clear hO ht b1 hc gw gj gm0 gm1 q1 q2 q3 g2 g3
  go_wp2_with fail
  refine h2.mono ?_
  rintro r w2 ⟨rfl, rfl⟩
  clear h2
  by_cases a4 : X % 2 = 0
  · have HT := toHid (HBAD.out (.inr (.inr (.inr (.inl a4)))))
    have hz5 : (d5 : Int) % 2 = 0 := by omega
    rw [show d5 % 2 = 0 by omega] at hm5
    clear HBAD HGOOD
    go_wp2_with fail
    go_ret
    exact ⟨by rw [HT.out]; rfl, k1⟩
  have hz5 : (d5 : Int) % 2 = 1 := by omega
  rw [show d5 % 2 = 1 by omega] at hm5
  by_cases a5 : t < 32
  · have HT := toHid (HBAD.out (.inr (.inr (.inr (.inr (.inl a5))))))
    have g5 : (t : Int) < 32 := by omega
    have q5 : decide ((t : Int) < 32) = true := decide_eq_true g5
    clear HBAD HGOOD
    go_wp2_with fail
    go_ret
    exact ⟨by rw [HT.out]; rfl, k1⟩
  have g5 : ¬ (t : Int) < 32 := by omega
  have q5 : decide ((t : Int) < 32) = false := decide_eq_false g5
  by_cases a6 : 8192 < t
  · have HT := toHid (HBAD.out (.inr (.inr (.inr (.inr (.inr (.inl a6)))))))
    have g6 : (8192 : Int) < (t : Int) := by omega
    have q6 : decide ((8192 : Int) < (t : Int)) = true := decide_eq_true g6
    clear HBAD HGOOD
    go_wp2_with fail
    go_ret
    exact ⟨by rw [HT.out]; rfl, k1⟩
  have g6 : ¬ (8192 : Int) < (t : Int) := by omega
  have q6 : decide ((8192 : Int) < (t : Int)) = false := decide_eq_false g6
  by_cases a7 : e < 3
  · have HT := toHid (HBAD.out (.inr (.inr (.inr (.inr (.inr (.inr (.inl a7))))))))
    have g7 : (e : Int) < 3 := by omega
    have q7 : decide ((e : Int) < 3) = true := decide_eq_true g7
    clear HBAD HGOOD
    go_wp2_with fail
    go_ret
    exact ⟨by rw [HT.out]; rfl, k1⟩
  have g7 : ¬ (e : Int) < 3 := by omega
  have q7 : decide ((e : Int) < 3) = false := decide_eq_false g7
  by_cases a8 : e % 2 = 0
  · have HT := toHid (HBAD.out (.inr (.inr (.inr (.inr (.inr (.inr (.inr (.inl a8)))))))))
    have g8 : (e : Int) % 2 = 0 := by omega
    rw [show e % 2 = 0 by omega] at he5
    clear HBAD HGOOD
    go_wp2_with fail
    go_ret
    exact ⟨by rw [HT.out]; rfl, k1⟩
  have g8 : (e : Int) % 2 = 1 := by omega
  rw [show e % 2 = 1 by omega] at he5
  by_cases a9 : 4294967296 ≤ e
  · have HT := toHid (HBAD.out (.inr (.inr (.inr (.inr (.inr (.inr (.inr (.inr (a9))))))))))
    have g9 : (4294967296 : Int) ≤ (e : Int) := by omega
    have q9 : decide ((4294967296 : Int) ≤ (e : Int)) = true := decide_eq_true g9
    clear HBAD HGOOD
    go_wp2_with fail
    go_ret
    exact ⟨by rw [HT.out]; rfl, k1⟩
  have g9 : ¬ (4294967296 : Int) ≤ (e : Int) := by omega
  have q9 : decide ((4294967296 : Int) ≤ (e : Int)) = false := decide_eq_false g9
  have HT : Hid (E = 0) := HGOOD.out (by omega)
  clear HBAD HGOOD
  go_wp2_with fail
  go_ret
  exact ⟨by rw [HT.out]; rfl, k1⟩

end Go.Proofs.YtldbfcifoijliaaGreatDoor


/- Bytes as numbers: lengths and bounds. -/
namespace Go.Proofs.YtldbfcifoijliaaGreatDoor
open Go.RowKit

theorem bev_foldB (m : List Nat) : ∀ a, m.foldl (fun a b => a * 256 + b) a = a * 256 ^ m.length + bev m := by
  unfold bev
  induction m with
  | nil => intro a; simp
  | cons x m ih =>
    intro a
    rw [List.foldl_cons, ih, List.foldl_cons, ih (0 * 256 + x), List.length_cons, Nat.pow_succ]
    simp only [Nat.zero_mul, Nat.zero_add, Nat.add_mul, Nat.mul_assoc, Nat.add_assoc, Nat.mul_comm 256]

theorem bev_appendB (l m : List Nat) : bev (l ++ m) = bev l * 256 ^ m.length + bev m := by
  show (l ++ m).foldl _ 0 = _
  rw [List.foldl_append, bev_foldB]
  rfl

theorem bev_ltB {l : List Nat} (h : Digs 256 l) : bev l < 256 ^ l.length := by
  induction l with
  | nil => simp [bev]
  | cons x m ih =>
    have e := bev_appendB [x] m
    rw [List.singleton_append] at e
    have hx := h.head
    have hm := ih h.tail
    rw [e, List.length_cons, Nat.pow_succ]
    have : (x + 1) * 256 ^ m.length ≤ 256 * 256 ^ m.length := Nat.mul_le_mul_right _ hx
    rw [Nat.add_mul, Nat.one_mul] at this
    have e2 : bev [x] = x := by simp [bev]
    rw [e2, Nat.mul_comm (256 ^ m.length)]
    omega

theorem blen_val {xs : List Nat} (h : Digs 18446744073709551616 xs) : blen (val 18446744073709551616 xs) ≤ 64 * xs.length := by
  rw [blen_le, Nat.pow_mul]
  exact val_lt (by omega) h

end Go.Proofs.YtldbfcifoijliaaGreatDoor


/- The plain side of layer 19 (package sconceref18): Of. -/
namespace Go.Proofs.YtldbfcifoijliaaGreatDoor
open Go.RowKit

theorem words_of_bits {X n : Nat} (h : blen X ≤ 64 * n) : wordsN X ≤ n := (wordsN_le X n).2 (by
  have := (blen_le X (64 * n)).1 h
  rw [Nat.pow_mul] at this
  exact this)

end Go.Proofs.YtldbfcifoijliaaGreatDoor


/- Steps of a region that draws, by hand: a call that may panic, an operation that its guard leaves out. -/
namespace Go.Proofs.YtldbfcifoijliaaGreatDoor

/-- An operation that comes up alone in a region that draws, and that its guard leaves out. -/
theorem wpAnyH_skip {P : Program} {md : Region.Mode} {ops : Array Oper} {Q : Exit → Act → World → Prop} {S : World → Prop} {fuel : Nat} {listed : Array Bool} {a : Act} {w : World} (i : Nat) {o : Oper} (hr : Region.ready md ops listed = [i]) (hi : ops[i]? = some o)
    (hw : Region.wanted o (yielded ops a.tmps) = false) (hS : S w) (h : wpAnyH P md ops Q S fuel (listed.setIfInBounds i true) (a.put o.dst undef) w) : wpAnyH P md ops Q S (fuel + 1) listed a w := by
  refine wpAnyH_all hr (by simp) fun j hj => ?_
  obtain rfl : j = i := by simpa using hj
  unfold wpOp
  rw [hi]
  dsimp only
  rw [if_neg (by rw [hw]; decide)]
  exact ⟨hS, h⟩

/-- As wpAnyH_take, with the place that is written named: so that the state can be laid out behind it. -/
theorem takeH {P : Program} {md : Region.Mode} {ops : Array Oper} {Q : Exit → Act → World → Prop} {S : World → Prop} {fuel : Nat} {listed : Array Bool} {a : Act} {w : World} {oi : Oper} (i : Nat) (d : Option Tmp) (v : Value) (hi : ops[i]? = some oi) (hd : oi.dst = d)
    (hs : Region.noSelect ops = true) (hf : Region.free md ops listed i = true) (hr : (Region.ready md ops listed).contains i = true)
    (hQ : ∀ c a w, Q (.panic c) (a.put d v) w → Q (.panic c) a w) (hy : YieldsIf P ops S oi v a) (hS : S w)
    (h : wpAnyH P md ops Q S fuel (listed.setIfInBounds i true) (a.put d v) w) : wpAnyH P md ops Q S (fuel + 1) listed a w := by
  subst hd
  exact wpAnyH_take hi hs hf hr hQ hy hS h

/-- As wpAnyH_skip, with the place named. -/
theorem skipH {P : Program} {md : Region.Mode} {ops : Array Oper} {Q : Exit → Act → World → Prop} {S : World → Prop} {fuel : Nat} {listed : Array Bool} {a : Act} {w : World} {o : Oper} (i : Nat) (d : Option Tmp) (hr : Region.ready md ops listed = [i]) (hi : ops[i]? = some o) (hd : o.dst = d)
    (hw : Region.wanted o (yielded ops a.tmps) = false) (hS : S w) (h : wpAnyH P md ops Q S fuel (listed.setIfInBounds i true) (a.put d undef) w) : wpAnyH P md ops Q S (fuel + 1) listed a w := by
  subst hd
  exact wpAnyH_skip i hr hi hw hS h

/-- A call that comes up alone, behind a guard that lets it by, or without one. -/
theorem callG {P : Program} {md : Region.Mode} {ops : Array Oper} {Q : Exit → Act → World → Prop} {S : World → Prop} {fuel : Nat} {listed : Array Bool} {a : Act} {w : World} {o : Oper} (i : Nat) (d : Option Tmp) (hr : Region.ready md ops listed = [i]) (hi : ops[i]? = some o) (hd : o.dst = d) (hw : Region.wanted o (yielded ops a.tmps) = true) (f : Nat) (args : List Operand) (tys : Array TypeId) (vals : List Value)
    (ho : o.op = .call { callee := .value (.func f), args := args.toArray, argTypes := tys }) (hv : args.map a.eval = vals) (he : ∀ args w, (callFunc f args).run P w = .ok (.enter f args) w) {R : Ending → World → Prop} (hc : Calls P f vals.toArray w R)
    (h : ∀ e w', R e w' → (∃ v, e = .returned v ∧ S w' ∧ wpAnyH P md ops Q S fuel (listed.setIfInBounds i true) (a.put d v) w') ∨ ∃ ch, e = .panicked ch ∧ Q (.panic ch) a w') :
    wpAnyH P md ops Q S (fuel + 1) listed a w := by
  subst hd
  refine wpAnyH_all hr (by simp) fun j hj => ?_
  obtain rfl : j = i := by simpa using hj
  unfold wpOp
  rw [hi]
  dsimp only
  rw [if_pos hw]
  refine .inl ?_
  have hc2 : Calls P f vals.toArray w fun
      | .returned v, w'' => S w'' ∧ wpAnyH P md ops Q S fuel (listed.setIfInBounds j true) (a.put o.dst v) w''
      | .panicked chain, w'' => Q (.panic chain) a w''
      | .outgrown, _ => LetsOut Q := hc.mono (fun e w' r => by
    rcases h e w' r with ⟨v, rfl, hk⟩ | ⟨ch, rfl, hk⟩
    · exact hk
    · exact hk)
  unfold Oper.wp
  simp [execOp, ho, resolve, invoke, hv, he, go_sem]
  exact hc2

end Go.Proofs.YtldbfcifoijliaaGreatDoor


/- Package key: steps of structs, half, Public, Size. (written by wip/gen/kex2.py) -/
namespace Go.Proofs.YtldbfcifoijliaaGreatDoor
open Go.RowKit

set_option maxHeartbeats 400000 in
/-- attempt of something that leaves all as it was. -/
theorem kAttemptK (f : Nat) (cap : Array Value) (w : World) (E : Nat) (he : ∀ args w, (callFunc f args).run Tryz.prog w = .ok (.enter f args) w)
    (h : Calls Tryz.prog f cap (w.alloc (.cells #[.int .i64 0] 28)) fun e w' => ((E = 0 ∧ e = .returned (.tuple #[])) ∨ (E ≠ 0 ∧ e = .panicked [refusal (E : Nat)])) ∧ Kept Nought (w.alloc (.cells #[.int .i64 0] 28)) w') :
    Calls Tryz.prog 39 #[.func (.func f) #[] cap] w fun e w' => e = .returned (.int .i64 (E : Nat)) ∧ Kept Nought w w' := by
  have xe := heap_alloc_new w (.cells #[.int .i64 0] 28)
  refine (kAttempt f cap w (fun n W' => n = (E : Nat) ∧ Kept Nought (w.alloc (.cells #[.int .i64 0] 28)) W') he (h.mono ?_)).mono ?_
  · rintro e w' ⟨hc, k⟩
    refine ⟨(k.block _ (lt_of_block xe) (fun f => f)).trans xe, ?_⟩
    rcases hc with ⟨rfl, rfl⟩ | ⟨_, rfl⟩
    · exact .inl ⟨rfl, rfl, k⟩
    · exact .inr ⟨_, rfl, rfl, k⟩
  · rintro e w' ⟨n, w1, rfl, ⟨⟨rfl, k⟩, hb⟩, rfl⟩
    exact ⟨rfl, (((Kept.refl Nought w).alloc _).trans k).setCell _ (fun h => by simp at h) _⟩

/-- A number that has as many words as it needs. -/
theorem words_full {xs : List Nat} (hd : Digs 18446744073709551616 xs) (hp : 0 < val 18446744073709551616 xs) : xs.length = wordsN (val 18446744073709551616 xs) ↔ xs.length ≠ 0 ∧ xs.getD (xs.length - 1) 0 ≠ 0 := by
  constructor
  · intro h
    have h0 : xs.length ≠ 0 := fun h0 => by
      rw [List.length_eq_zero_iff.1 h0] at hp
      exact absurd hp (by decide)
    refine ⟨h0, fun ht => ?_⟩
    obtain ⟨n, hn⟩ : ∃ n, xs.length = n + 1 := ⟨xs.length - 1, by omega⟩
    have e : xs = xs.take n ++ [0] := by
      have h1 := List.take_append_drop n xs
      rw [List.drop_eq_getElem_cons (by omega : n < xs.length), List.drop_of_length_le (by omega)] at h1
      have h2 : xs[n]'(by omega) = 0 := by
        rw [hn, Nat.add_sub_cancel, List.getD_eq_getElem?_getD, List.getElem?_eq_getElem (by omega)] at ht
        exact ht
      rw [h2] at h1
      exact h1.symm
    have hv : val 18446744073709551616 xs < 18446744073709551616 ^ n := by
      rw [e, val_snoc, Nat.mul_zero, Nat.add_zero]
      have := val_lt (B := 18446744073709551616) (by omega) (hd.take n)
      rwa [List.length_take, Nat.min_eq_left (by omega)] at this
    have := (wordsN_le (val 18446744073709551616 xs) n).2 hv
    omega
  · rintro ⟨_, h⟩
    exact len_words hd (.inr h)

theorem pub_iff {xs : List Nat} (hd : Digs 18446744073709551616 xs) (hL : xs.length ≤ 1000) (e : Nat) : pubE xs e = 0 ↔ (32 ≤ blen (val 18446744073709551616 xs) ∧ blen (val 18446744073709551616 xs) ≤ 8192) ∧ (xs.length = wordsN (val 18446744073709551616 xs) ∧ val 18446744073709551616 xs % 2 = 1) ∧ 3 ≤ e ∧ e < 4294967296 ∧ e % 2 = 1 := by
  unfold pubE
  constructor
  · intro h
    by_cases hc : xs.length = 0 ∨ 1000 < xs.length ∨ xs.getD (xs.length - 1) 0 = 0 ∨ val 18446744073709551616 xs % 2 = 0 ∨ blen (val 18446744073709551616 xs) < 32 ∨ 8192 < blen (val 18446744073709551616 xs) ∨ e < 3 ∨ e % 2 = 0 ∨ 4294967296 ≤ e
    · rw [if_pos hc] at h
      exact absurd h (by decide)
    · have h0 : 0 < val 18446744073709551616 xs := by omega
      have := (words_full hd h0).2 (by omega)
      omega
  · rintro ⟨h1, h2, h3⟩
    have h0 : 0 < val 18446744073709551616 xs := by omega
    have := (words_full hd h0).1 h2.1
    rw [if_neg (by omega)]

theorem pub_two (xs : List Nat) (e : Nat) : pubE xs e = 0 ∨ pubE xs e = 190 := by
  unfold pubE
  split
  · exact .inr rfl
  · exact .inl rfl

set_option maxHeartbeats 800000 in
/-- Size. -/
theorem kSiz (ao : Option Addr) (L cap : Nat) (xs : List Nat) (w : World) (hu : Row .u64 w (.slice ao L cap) xs) (hd : Digs 18446744073709551616 xs) (hL : L ≤ 1000) :
    Calls Tryz.prog 22 #[.slice ao L cap] w fun e w' => e = .returned (.int .i64 (sizeN (val 18446744073709551616 xs) : Nat)) ∧ Kept Nought w w' := by
  obtain ⟨_, _, _, e1, hl, -, -, -, -⟩ := hu.open
  cases e1
  have hbl : blen (val 18446744073709551616 xs) ≤ 64 * xs.length := (blen_le _ _).2 (by rw [Nat.pow_mul]; exact val_lt (by omega) hd)
  have JB := nBits _ xs w hu hd (by rw [hl.out]; omega)
  have JP := kParts (blen (val 18446744073709551616 xs)) 8 (sizeN (val 18446744073709551616 xs)) rfl (by rw [hl.out] at hbl; omega) (by omega) (by omega) w
  generalize sizeN (val 18446744073709551616 xs) = s at *
  generalize blen (val 18446744073709551616 xs) = b at *
  clear hu hd hl hbl
  go_enter Tryz.func22, Tryz.ntmps22
  go_wp2_with fail
  refine JB.mono ?_
  rintro e w1 ⟨rfl, rfl⟩
  clear JB
  go_wp2_with fail
  refine JP.mono ?_
  rintro e w1 ⟨rfl, rfl⟩
  clear JP
  go_wp2
  go_ret
  exact ⟨rfl, Kept.refl _ _⟩

end Go.Proofs.YtldbfcifoijliaaGreatDoor

