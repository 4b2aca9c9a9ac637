/- Put together of: Prm1 Prm2 Mir1. -/
import Derived.Test.YtgcbbadakfdcgaaGreatDoorPk16

/- The plain side of layer 16 (package sconceref16): small, Primes, Factor, Passes. -/
namespace Go.Proofs.YtgcbbadakfdcgaaGreatDoor
open Go.RowKit

/-- A prime. -/
def PrimeN (n : Nat) : Prop := 2 ≤ n ∧ ∀ d, 2 ≤ d → d < n → n % d ≠ 0

instance (n : Nat) : Decidable (PrimeN n) :=
  if h : 2 ≤ n then
    if g : ∀ d, d < n → 2 ≤ d → n % d ≠ 0 then isTrue ⟨h, fun d h1 h2 => g d h2 h1⟩ else isFalse (fun p => g (fun d h1 h2 => p.2 d h2 h1))
  else isFalse (fun p => h p.1)

/-- R is the least prime up to b that divides X; 0: none does. -/
def IsFac (X b R : Nat) : Prop := (R = 0 ∧ ∀ p, PrimeN p → p ≤ b → X % p ≠ 0) ∨ (PrimeN R ∧ R ≤ b ∧ X % R = 0 ∧ ∀ p, PrimeN p → p < R → X % p ≠ 0)

theorem IsFac.uniq {X b R S : Nat} (h : IsFac X b R) (g : IsFac X b S) : R = S := by
  rcases h with ⟨rfl, h⟩ | ⟨h1, h2, h3, h4⟩
  · rcases g with ⟨rfl, _⟩ | ⟨g1, g2, g3, _⟩
    · rfl
    · exact absurd g3 (h S g1 g2)
  · rcases g with ⟨rfl, g⟩ | ⟨g1, g2, g3, g4⟩
    · exact absurd h3 (g R h1 h2)
    · rcases Nat.lt_trichotomy R S with h | h | h
      · exact absurd h3 (g4 R h1 h)
      · exact h
      · exact absurd g3 (h4 S g1 h)

theorem IsFac.le {X b R : Nat} (h : IsFac X b R) : R ≤ b := by
  rcases h with ⟨rfl, _⟩ | ⟨_, h2, _⟩
  · exact Nat.zero_le _
  · exact h2

theorem cmpN_nn {a b : Nat} (h : b ≤ a) : ¬ cmpN a b < 0 := by
  unfold cmpN
  rw [if_neg (by omega)]
  split <;> omega

theorem cmpNne {a b : Nat} (h : ¬ a = b) : ¬ cmpN a b = 0 := by
  unfold cmpN
  rw [if_neg h]
  split <;> omega

end Go.Proofs.YtgcbbadakfdcgaaGreatDoor


/- The plain side of layer 17 (package sconceref16): odd, Strong. -/
namespace Go.Proofs.YtgcbbadakfdcgaaGreatDoor
open Go.RowKit

/-- What odd answers. -/
def oddE (X : Nat) : Nat := if 130 < wordsN X then 2 else if X ≤ 3 ∨ X % 2 = 0 then 1 else 0

theorem wordsTrim {xs : List Nat} {k : Nat} (hd : Digs 18446744073709551616 xs) (hk : k ≤ xs.length) (hz : ∀ i, k ≤ i → xs.getD i 0 = 0) (ht : k = 0 ∨ xs.getD (k - 1) 0 ≠ 0) : wordsN (val 18446744073709551616 xs) = k := by
  have hl : (xs.take k).length = k := by rw [List.length_take]; omega
  have hT := trimmed_take hk ht
  have hv := take_trim (B := 18446744073709551616) hk hz
  have h1 := fun n => len_le_iff (B := 18446744073709551616) (by omega) (hd.take k) hT n
  rw [hl, hv] at h1
  have h2 := fun n => wordsN_le (val 18446744073709551616 xs) n
  have h3 := (h2 k).2 ((h1 k).1 (Nat.le_refl _))
  have h4 := (h1 _).2 ((h2 _).1 (Nat.le_refl _))
  omega

theorem bigLow {w : World} {v : Value} {X : Nat} (h : IsBig w v X) (hX : 0 < X) : ∃ b off n cap d, v = .slice (some ⟨b, off, none⟩) n cap ∧ 0 < n ∧ w.cell? ⟨b, off, none⟩ = some (.int .u32 ((d : Nat) : Int)) ∧ d % 2 = X % 2 ∧ d < 4294967296 := by
  obtain ⟨ds, hr, hd, _, rfl, _⟩ := h
  cases ds with
  | nil => simp [val] at hX
  | cons d ds =>
    obtain ⟨ao, n, cap, rfl, hL, _, _, _, h4⟩ := hr.open
    have hn : 0 < n := by rw [← hL.out]; simp
    obtain ⟨b, off, rfl, hc⟩ := h4 0 hn
    refine ⟨b, off, n, cap, d, rfl, hn, by simpa using hc, ?_, hd d (by simp)⟩
    simp only [val]
    omega

theorem cmpN_le {a b : Nat} (h : a ≤ b) : cmpN a b ≤ 0 := by
  unfold cmpN
  split
  · omega
  · rw [if_pos (by omega)]
    omega

set_option maxRecDepth 20000 in
set_option maxHeartbeats 1000000 in
/-- odd. -/
theorem r16odd (ao : Option Addr) (L cap : Nat) (xs : List Nat) (E : Nat) (hE : E = oddE (val 18446744073709551616 xs)) (w : World) (hu : Row .u64 w (.slice ao L cap) xs) (hdx : Digs 18446744073709551616 xs) (hLb : L ≤ 1000000) :
    Calls Tryz.prog 20 #[.slice ao L cap] w fun e w' => e = .returned (.int .i64 (E : Int)) ∧ Kept Nought w w' := by
  have hu' := hu
  obtain ⟨_, _, _, e1, hL, c1, c2, c3, h4⟩ := hu.open
  cases e1
  have HC : Hid (∀ k, k ≤ L → Row .u64 w (.slice ao k cap) (xs.take k)) := fun k hk => hu'.cut (by rw [hL.out]; exact hk)
  have HZ : Hid (∀ i, L ≤ i → xs.getD i 0 = 0) := fun i hi => by have := hL.out; rw [List.getD_eq_getElem?_getD, List.getElem?_eq_none (by omega)]; rfl
  have HD := toHid hdx
  have HE := toHid hE
  have HLL := toHid hL
  clear hu hu' hdx hE hL c3
  go_enter Tryz.func20, Tryz.ntmps20
  go_wp2_with fail
  go_loopw [3] (fun kv wr => wr = w ∧ ∃ k : Nat, k ≤ L ∧ kv = .int .i64 (k : Int) ∧ Hid (∀ i, k ≤ i → xs.getD i 0 = 0)) (fun kv _ => (intOf kv).toNat)
  case atStart => exact ⟨rfl, L, Nat.le_refl _, rfl, HZ⟩
  case round =>
    obtain ⟨rfl, k, hk, rfl, hz⟩ := hrel
    have hgo : ∀ (ht : Hid (k = 0 ∨ xs.getD (k - 1) 0 ≠ 0)), wordsN (val 18446744073709551616 xs) = k ∧ val 18446744073709551616 (xs.take k) = val 18446744073709551616 xs := fun ht => ⟨wordsTrim HD.out (by rw [HLL.out.out]; exact hk) hz.out ht.out, take_trim (by rw [HLL.out.out]; exact hk) hz.out⟩
    by_cases hst : k = 0 ∨ xs.getD (k - 1) 0 ≠ 0
    · obtain ⟨hw, hv⟩ := hgo hst
      have hrow := HC.out k hk
      have hdt : Digs 18446744073709551616 (xs.take k) := HD.out.take k
      have hO := rOf _ _ wr hrow hdt (by rw [List.length_take, HLL.out.out]; omega)
      rw [hv] at hO
      have HE2 : Hid (E = if 130 < k then 2 else if val 18446744073709551616 xs ≤ 3 ∨ val 18446744073709551616 xs % 2 = 0 then 1 else 0) := by
        unfold Hid
        rw [HE.out, oddE, hw]
      generalize val 18446744073709551616 xs = X at *
      clear hgo hrow hdt hw hv
      by_cases hk0 : k = 0
      · subst hk0
        rw [if_neg (by omega)] at HE2
        go_wp2_with fail
        refine hO.mono ?_
        rintro e w1 ⟨v1, rfl, hb1, _, k1⟩
        have hS := rSmall 3 (by omega) w1
        clear hO
        go_wp2_with fail
        refine hS.mono ?_
        rintro e w2 ⟨v2, rfl, hb2, _, k2⟩
        have hb3 := hb1.grew k2
        have hC := rCmp v1 v2 X 3 w2 hb3 hb2
        have K2 := k1.trans k2
        clear hS hb1 hb2
        by_cases h3 : X ≤ 3
        · have HT : Hid (E = 1) := by unfold Hid; rw [HE2.out, if_pos (.inl h3)]
          have hc := cmpN_le h3
          generalize cmpN X 3 = cc at *
          go_wp2_with fail
          refine hC.mono ?_
          rintro e w3 ⟨rfl, m3, rfl⟩
          go_wp2_with fail
          go_ret
          exact ⟨by rw [HT.out]; rfl, K2.drewN m3⟩
        · rw [cmpN_gt (show 3 < X by omega)] at hC
          obtain ⟨b5, off5, n5, cap5, d5, rfl, hn5, hc5, hd5, hd6⟩ := bigLow hb3 (by omega)
          have gn5 : (0 : Int) < (n5 : Int) := by omega
          go_wp2_with fail
          refine hC.mono ?_
          rintro e w3 ⟨rfl, m3, rfl⟩
          have hc6 : (w2.drewN m3).cell? ⟨b5, off5, none⟩ = some (.int .u32 (d5 : Int)) := ((Kept.refl Nought w2).drewN m3).cellN hc5
          have hm5 : (d5 : Int).tmod 2 = ((d5 % 2 : Nat) : Int) := by rw [Int.tmod_eq_emod_of_nonneg (by omega)]; omega
          clear hC hc5
          by_cases h2 : X % 2 = 0
          · have HT : Hid (E = 1) := by unfold Hid; rw [HE2.out, if_pos (.inr h2)]
            have hz5 : (d5 : Int) % 2 = 0 := by omega
            rw [show d5 % 2 = 0 by omega] at hm5
            go_wp2_with fail
            go_ret
            exact ⟨by rw [HT.out]; rfl, K2.drewN m3⟩
          · have HT : Hid (E = 0) := by unfold Hid; rw [HE2.out, if_neg (by omega)]
            have hz5 : (d5 : Int) % 2 = 1 := by omega
            rw [show d5 % 2 = 1 by omega] at hm5
            go_wp2_with fail
            go_ret
            exact ⟨by rw [HT.out]; rfl, K2.drewN m3⟩
      · have hne : xs.getD (k - 1) 0 ≠ 0 := by
          rcases hst with h | h
          · exact absurd h hk0
          · exact h
        obtain ⟨q, rfl⟩ : ∃ q, k = q + 1 := ⟨k - 1, by omega⟩
        rw [Nat.add_sub_cancel] at hne
        obtain ⟨b, off, rfl, hc⟩ := h4 q (by omega)
        generalize xs.getD q 0 = z at *
        have gz : ¬ (z : Int) = 0 := by omega
        have gq : ((q + 1 : Nat) : Int) - 1 = (q : Int) := by omega
        have gq1 : (q : Int) < (L : Int) := by omega
        clear h4
        generalize hkk : q + 1 = k at *
        by_cases h130 : 130 < k
        · have g3 : (k : Int) > 130 := by omega
          have HT : Hid (E = 2) := by unfold Hid; rw [HE2.out, if_pos h130]
          clear hO HE2
          go_wp2_with fail
          go_ret
          exact ⟨by rw [HT.out]; rfl, Kept.refl _ _⟩
        · have g3 : ¬ (k : Int) > 130 := by omega
          rw [if_neg h130] at HE2
          go_wp2_with fail
          refine hO.mono ?_
          rintro e w1 ⟨v1, rfl, hb1, _, k1⟩
          have hS := rSmall 3 (by omega) w1
          clear hO
          go_wp2_with fail
          refine hS.mono ?_
          rintro e w2 ⟨v2, rfl, hb2, _, k2⟩
          have hb3 := hb1.grew k2
          have hC := rCmp v1 v2 X 3 w2 hb3 hb2
          have K2 := k1.trans k2
          clear hS hb1 hb2
          by_cases h3 : X ≤ 3
          · have HT : Hid (E = 1) := by unfold Hid; rw [HE2.out, if_pos (.inl h3)]
            have hc := cmpN_le h3
            generalize cmpN X 3 = cc at *
            go_wp2_with fail
            refine hC.mono ?_
            rintro e w3 ⟨rfl, m3, rfl⟩
            go_wp2_with fail
            go_ret
            exact ⟨by rw [HT.out]; rfl, K2.drewN m3⟩
          · rw [cmpN_gt (show 3 < X by omega)] at hC
            obtain ⟨b5, off5, n5, cap5, d5, rfl, hn5, hc5, hd5, hd6⟩ := bigLow hb3 (by omega)
            have gn5 : (0 : Int) < (n5 : Int) := by omega
            go_wp2_with fail
            refine hC.mono ?_
            rintro e w3 ⟨rfl, m3, rfl⟩
            have hc6 : (w2.drewN m3).cell? ⟨b5, off5, none⟩ = some (.int .u32 (d5 : Int)) := ((Kept.refl Nought w2).drewN m3).cellN hc5
            have hm5 : (d5 : Int).tmod 2 = ((d5 % 2 : Nat) : Int) := by rw [Int.tmod_eq_emod_of_nonneg (by omega)]; omega
            clear hC hc5
            by_cases h2 : X % 2 = 0
            · have HT : Hid (E = 1) := by unfold Hid; rw [HE2.out, if_pos (.inr h2)]
              have hz5 : (d5 : Int) % 2 = 0 := by omega
              rw [show d5 % 2 = 0 by omega] at hm5
              go_wp2_with fail
              go_ret
              exact ⟨by rw [HT.out]; rfl, K2.drewN m3⟩
            · have HT : Hid (E = 0) := by unfold Hid; rw [HE2.out, if_neg (by omega)]
              have hz5 : (d5 : Int) % 2 = 1 := by omega
              rw [show d5 % 2 = 1 by omega] at hm5
              go_wp2_with fail
              go_ret
              exact ⟨by rw [HT.out]; rfl, K2.drewN m3⟩
    · have hk0 : ¬ k = 0 := fun h => hst (.inl h)
      have hz0 : xs.getD (k - 1) 0 = 0 := Classical.byContradiction fun h => hst (.inr h)
      obtain ⟨q, rfl⟩ : ∃ q, k = q + 1 := ⟨k - 1, by omega⟩
      rw [Nat.add_sub_cancel] at hz0
      obtain ⟨b, off, rfl, hc⟩ := h4 q (by omega)
      have HA : Hid (∀ i, q ≤ i → xs.getD i 0 = 0) := fun i hi => by
        by_cases e : i = q
        · subst e; exact hz0
        · exact hz.out i (by omega)
      rw [hz0] at hc
      have gq : ((q + 1 : Nat) : Int) - 1 = (q : Int) := by omega
      have gq1 : (q : Int) < (L : Int) := by omega
      clear h4 hz0 hst hgo hk0
      go_wp2_with fail
      go_roundw
      case rel => exact ⟨trivial, q, by omega, by go_num, HA⟩
      case measure => simp [intOf]

end Go.Proofs.YtgcbbadakfdcgaaGreatDoor


/- Package miller: attempt, refuse, step, equal, refuseNumber. -/
namespace Go.Proofs.YtgcbbadakfdcgaaGreatDoor
open Go.RowKit

set_option maxHeartbeats 400000 in
/-- The deferred closure, where nothing was refused. -/
theorem yCatchIdle (p : Addr) (w : World) :
    CallsD Tryz.prog 29 #[.pointer (some p)] .returning w fun e u' w' => e = .returned (.tuple #[]) ∧ u' = .returning ∧ w' = w := by
  refine callsD_of_wpS Tryz.func29 rfl fun c₀ cs hu => ?_
  apply wpS_seq
  apply wpS_region
  simp [wpOpsS, go_sem, recoverD, hu, Tryz.ntmps29, Exit.thenS]
  apply wpS_seq
  apply wpS_seq
  apply wpS_region
  simp [wpOpsS, go_sem, Exit.thenS]
  refine wpS_cond (t := true) (by simp [Act.eval, Array.replicate]) ?_
  simp only [if_true]
  refine wpS_of_wp (wp_ret ?_)
  cases c₀
  simp_all [bodyPostS, results, Tryz.results29, Exit.thenS]

set_option maxHeartbeats 400000 in
/-- The deferred closure, where something was refused. -/
theorem yCatch (p : Addr) (x n : Int) (older : List PanicEntry) (w : World) (hc : w.cell? p = some (.int .i64 x)) (hz : w.frozen? p = false) :
    CallsD Tryz.prog 29 #[.pointer (some p)] (.panicking (refusal n :: older)) w fun e u' w' =>
      e = .returned (.tuple #[]) ∧ u' = .panicking ({ refusal n with recovered := true } :: older) ∧ w' = w.setCell p (.int .i64 n) := by
  refine callsD_of_wpS Tryz.func29 rfl fun c₀ cs hu => ?_
  apply wpS_seq
  apply wpS_region
  simp [wpOpsS, go_sem, recoverD, hu, Tryz.ntmps29, Exit.thenS]
  apply wpS_seq
  apply wpS_seq
  apply wpS_region
  simp [wpOpsS, go_sem, Exit.thenS]
  refine wpS_cond (t := false) (by simp [Act.eval, Array.replicate]) ?_
  simp only [Bool.false_eq_true, if_false]
  refine wpS_of_wp (wp_skip ?_)
  simp only [Exit.thenS]
  refine wpS_of_wp ?_
  have hta : ∀ w : World, (Instr.typeAssert (.iface 33 (.int .i64 n)) 20 33 true).run Tryz.prog w = .ok (.tuple #[.int .i64 n, .bool true]) w := fun w => by kernel_rfl
  have hnot : ∀ (x : Bool) (w : World), (Op.unary .not (.bool x)).run Tryz.prog w = .ok (.bool (!x)) w := fun _ _ => rfl
  have e : (#[Value.pointer (some p)] ++ ((((Array.replicate 15 undef).setIfInBounds 3 (Value.iface 33 (Value.int IntKind.i64 n))).setIfInBounds 0 (Value.iface 33 (Value.int IntKind.i64 n))).setIfInBounds 4 (Value.iface 33 (Value.int IntKind.i64 n))).setIfInBounds 5 (Value.bool false) : Array Value) = #[.pointer (some p), .iface 33 (.int .i64 n), undef, undef, .iface 33 (.int .i64 n), .iface 33 (.int .i64 n), .bool false, undef, undef, undef, undef, undef, undef, undef, undef, undef] := rfl
  rw [e]
  clear e
  go_wp2
  simp [bodyPostS, results, Tryz.results29]

set_option maxHeartbeats 400000 in
/-- attempt: what the closure does, and 0, or the number with which it was refused. -/
theorem yAttempt (f : Nat) (cap : Array Value) (w : World) (Q : Int → World → Prop) (he : ∀ args w, (callFunc f args).run Tryz.prog w = .ok (.enter f args) w)
    (h : Calls Tryz.prog f cap (w.alloc (.cells #[.int .i64 0] 33)) fun e w' => w'.heap[w.heap.size]? = some (.cells #[.int .i64 0] 33 (0, 0)) ∧
      ((e = .returned (.tuple #[]) ∧ Q 0 w') ∨ ∃ n, e = .panicked [refusal n] ∧ Q n w')) :
    Calls Tryz.prog 13 #[.func (.func f) #[] cap] w fun e w' => ∃ n w1, e = .returned (.int .i64 n) ∧ (Q n w1 ∧ w1.heap[w.heap.size]? = some (.cells #[.int .i64 0] 33 (0, 0))) ∧ w' = w1.setCell ⟨w.heap.size, 0, none⟩ (.int .i64 n) := by
  have hmf : ∀ (fn : Fn) (first cap : Array Value) (w : World), (Instr.makeFunc fn first cap).run Tryz.prog w = .ok (.func fn first cap) w := fun _ _ _ _ => rfl
  go_enter_defers Tryz.func13, Tryz.ntmps13
  go_wp2_with fail
  refine h.mono ?_
  rintro e w1 ⟨hb, (⟨rfl, hq⟩ | ⟨n, rfl, hq⟩)⟩
  · have hc : w1.cell? ⟨w.heap.size, 0, none⟩ = some (.int .i64 0) := by simp [World.cell?, hb]
    have hz : w1.frozen? ⟨w.heap.size, 0, none⟩ = false := by simp [World.frozen?, hb]
    clear h
    go_wp2_with fail
    refine leaves_cons (f := 29) (args := #[.pointer (some ⟨w.heap.size, 0, none⟩)]) (by simp) (by simp [go_sem]) ?_
    refine (yCatchIdle ⟨w.heap.size, 0, none⟩ _).mono ?_
    rintro e u' w'' ⟨rfl, rfl, rfl⟩
    have hc2 : (w1.setCell ⟨w.heap.size, 0, none⟩ (.int .i64 0)).cell? ⟨w.heap.size, 0, none⟩ = some (.int .i64 0) := World.cell?_setCell_same' _ _ _ (by rw [hc]; rfl)
    simp [Leaves, settle, results, Tryz.results13, go_sem, hc2]
    exact ⟨_, ⟨hq, hb⟩, rfl⟩
  · have hc : w1.cell? ⟨w.heap.size, 0, none⟩ = some (.int .i64 0) := by simp [World.cell?, hb]
    have hz : w1.frozen? ⟨w.heap.size, 0, none⟩ = false := by simp [World.frozen?, hb]
    clear h
    refine leaves_cons (f := 29) (args := #[.pointer (some ⟨w.heap.size, 0, none⟩)]) (by simp) (by simp [go_sem]) ?_
    refine (yCatch ⟨w.heap.size, 0, none⟩ 0 n [] _ hc hz).mono ?_
    rintro e u' w'' ⟨rfl, rfl, rfl⟩
    have hc2 : (w1.setCell ⟨w.heap.size, 0, none⟩ (.int .i64 n)).cell? ⟨w.heap.size, 0, none⟩ = some (.int .i64 n) := World.cell?_setCell_same' _ _ _ (by rw [hc]; rfl)
    simp [Leaves, settle, results, Tryz.results13, go_sem, hc2]
    exact ⟨_, ⟨hq, hb⟩, rfl⟩

set_option maxHeartbeats 400000 in
/-- refuse, where it is not so. -/
theorem yRefuseNo (n : Int) (w : World) : Calls Tryz.prog 16 #[.bool false, .int .i64 n] w fun e w' => e = .returned (.tuple #[]) ∧ w' = w := by
  go_enter Tryz.func16, Tryz.ntmps16
  go_wp2
  go_end0
  exact ⟨rfl, rfl⟩

set_option maxHeartbeats 400000 in
/-- refuse, where it is so. -/
theorem yRefuseYes (n : Int) (w : World) : Calls Tryz.prog 16 #[.bool true, .int .i64 n] w fun e w' => e = .panicked [refusal n] ∧ w' = w := by
  go_enter Tryz.func16, Tryz.ntmps16
  go_wp2
  exact ⟨rfl, rfl, rfl⟩

set_option maxHeartbeats 400000 in
/-- step, of no error. -/
theorem yStep (ao : Option Addr) (n cap : Nat) (w : World) : Calls Tryz.prog 37 #[.slice ao n cap, .int .i64 0] w fun e w' => e = .returned (.slice ao n cap) ∧ w' = w := by
  have hR := yRefuseNo 0 w
  go_enter Tryz.func37, Tryz.ntmps37
  go_wp2_with fail
  refine hR.mono ?_
  rintro e w' ⟨rfl, rfl⟩
  go_wp2
  go_ret
  exact ⟨rfl, rfl⟩

set_option maxHeartbeats 400000 in
/-- equal. -/
theorem yEqual (u v : Value) (xs ys : List Nat) (R : Bool) (hR : R = decide (val 18446744073709551616 xs = val 18446744073709551616 ys)) (w : World) (hu : Row .u64 w u xs) (hv : Row .u64 w v ys) (hdx : Digs 18446744073709551616 xs) (hdy : Digs 18446744073709551616 ys) (hL : xs.length ≤ 100000000) (hM : ys.length ≤ 100000000) :
    Calls Tryz.prog 42 #[u, v] w fun e w' => e = .returned (.bool R) ∧ Kept Nought w w' := by
  have hE := lEqual none u v xs ys w (TrRoom.none w 1 (by omega)) (RowT.none hu) (RowT.none hv) hdx hdy hL hM
  rw [← hR] at hE
  obtain ⟨ao, L, cap, rfl, _⟩ := hu.open
  obtain ⟨bo, M, dap, rfl, _⟩ := hv.open
  clear hu hv hdx hdy hL hM hR
  cases R with
  | true =>
    go_enter Tryz.func42, Tryz.ntmps42
    go_wp2_with fail
    refine hE.mono ?_
    rintro e w' ⟨rfl, o', d⟩
    have k := d.none.2
    clear hE d
    go_wp2_with fail
    go_ret
    exact ⟨rfl, k⟩
  | false =>
    go_enter Tryz.func42, Tryz.ntmps42
    go_wp2_with fail
    refine hE.mono ?_
    rintro e w' ⟨rfl, o', d⟩
    have k := d.none.2
    clear hE d
    go_wp2_with fail
    go_ret
    exact ⟨rfl, k⟩

theorem odd_bits (X : Nat) : (8320 < blen X ↔ 130 < wordsN X) ∧ (blen X < 3 ↔ X ≤ 3) := by
  have h1 := needs_words X
  have h2 := blen_le X 2
  constructor
  · omega
  · have : (2 : Nat) ^ 2 = 4 := by decide
    omega

set_option maxRecDepth 20000 in
set_option maxHeartbeats 1000000 in
/-- refuseNumber. -/
theorem yRefuseNumber (ao : Option Addr) (L cap : Nat) (xs : List Nat) (E : Nat) (hE : E = oddE (val 18446744073709551616 xs)) (w : World) (h : Row .u64 w (.slice ao L cap) xs) (hd : Digs 18446744073709551616 xs) (hl : L ≤ 1000000) :
    Calls Tryz.prog 15 #[.slice ao L cap] w fun e w' => ((E = 0 ∧ e = .returned (.tuple #[])) ∨ (E ≠ 0 ∧ e = .panicked [refusal (E : Nat)])) ∧ w' = w := by
  obtain ⟨_, _, _, e1, hLx, _, _, _, hnum⟩ := h.open
  cases e1
  have hB := nBits _ xs w h hd (by rw [hLx.out]; omega)
  obtain ⟨V, hV⟩ : ∃ V, V = val 18446744073709551616 xs := ⟨_, rfl⟩
  rw [← hV] at hB hE
  have HX := toHid (dig_val (by omega) hd 0)
  rw [← hV] at HX
  have HLT : Hid (V < 18446744073709551616 ^ L) := by have := val_lt (by omega) hd; rw [hLx.out, ← hV] at this; exact this
  have HDB : Hid (xs.getD 0 0 < 18446744073709551616) := hd.getD (by omega) _
  obtain ⟨hb1, hb2⟩ := odd_bits V
  obtain ⟨b, hb⟩ : ∃ b, b = blen V := ⟨_, rfl⟩
  rw [← hb] at hB hb1 hb2
  unfold oddE at hE
  clear hV h hd hb
  have hN2 := yRefuseNo 2 w
  have hN1 := yRefuseNo 1 w
  by_cases h1 : 130 < wordsN V
  · have hY := yRefuseYes 2 w
    rw [if_pos h1] at hE
    subst hE
    have g1 : (b : Int) > 8320 := by have := hb1.2 h1; omega
    have g1' : (8320 : Int) < (b : Int) := g1
    clear hnum hN1 hN2 hb1 hb2 h1
    go_enter Tryz.func15, Tryz.ntmps15
    go_wp2_with fail
    refine hB.mono ?_
    rintro e w' ⟨rfl, rfl⟩
    go_wp2_with fail
    refine hY.mono ?_
    rintro e w' ⟨rfl, rfl⟩
    exact ⟨rfl, .inr ⟨by omega, rfl⟩, rfl⟩
  · rw [if_neg h1] at hE
    have g1 : ¬ (b : Int) > 8320 := by have := mt hb1.1 h1; omega
    have g1' : ¬ (8320 : Int) < (b : Int) := g1
    have q1 : decide ((8320 : Int) < (b : Int)) = false := decide_eq_false g1'
    by_cases h2 : V ≤ 3
    · have hY := yRefuseYes 1 w
      rw [if_pos (.inl h2)] at hE
      subst hE
      have g2 : (b : Int) < 3 := by have := hb2.2 h2; omega
      clear hnum hN1 hb1 hb2 h1
      go_enter Tryz.func15, Tryz.ntmps15
      go_wp2_with fail
      refine hB.mono ?_
      rintro e w' ⟨rfl, rfl⟩
      go_wp2_with fail
      refine hN2.mono ?_
      rintro e w' ⟨rfl, rfl⟩
      go_wp2_with fail
      refine hY.mono ?_
      rintro e w' ⟨rfl, rfl⟩
      exact ⟨rfl, .inr ⟨by omega, rfl⟩, rfl⟩
    · have g2 : ¬ (b : Int) < 3 := by have := mt hb2.1 h2; omega
      have hL0 : 0 < L := by
        rcases Nat.eq_zero_or_pos L with h0 | h0
        · have := HLT.out
          rw [h0, Nat.pow_zero] at this
          omega
        · exact h0
      obtain ⟨b2, off2, rfl, hc2⟩ := hnum 0 hL0
      have hx0 := HDB.out
      have hdg : V % 18446744073709551616 = xs.getD 0 0 := by
        have := HX.out
        unfold dig at this
        rwa [Nat.pow_zero, Nat.div_one] at this
      have hpar : (xs.getD 0 0) % 2 = V % 2 := by omega
      have hand := and_one_u64 (xs.getD 0 0 : Nat) (by omega) (by omega)
      generalize xs.getD 0 0 = x at *
      rw [Nat.add_zero] at hc2
      clear hnum hdg HX hb1 hb2 h1
      by_cases h3 : V % 2 = 0
      · have hY := yRefuseYes 1 w
        rw [if_pos (.inr h3)] at hE
        subst hE
        have hz : bits .and .u64 (x : Int) 1 = 0 := by rw [hand]; omega
        clear hand hpar
        go_enter Tryz.func15, Tryz.ntmps15
        go_wp2_with fail
        refine hB.mono ?_
        rintro e w' ⟨rfl, rfl⟩
        go_wp2_with fail
        refine hN2.mono ?_
        rintro e w' ⟨rfl, rfl⟩
        go_wp2_with fail
        refine hY.mono ?_
        rintro e w' ⟨rfl, rfl⟩
        exact ⟨rfl, .inr ⟨by omega, rfl⟩, rfl⟩
      · rw [if_neg (by omega)] at hE
        subst hE
        have hz : bits .and .u64 (x : Int) 1 = 1 := by rw [hand]; omega
        clear hand hpar
        go_enter Tryz.func15, Tryz.ntmps15
        go_wp2_with fail
        refine hB.mono ?_
        rintro e w' ⟨rfl, rfl⟩
        go_wp2_with fail
        refine hN2.mono ?_
        rintro e w' ⟨rfl, rfl⟩
        go_wp2_with fail
        rw [show decide ((b : Int) < 3) = false from decide_eq_false (by omega)]
        refine hN1.mono ?_
        rintro e w' ⟨rfl, rfl⟩
        go_wp2_with fail
        go_end0
        exact ⟨.inl ⟨trivial, rfl⟩, rfl⟩

end Go.Proofs.YtgcbbadakfdcgaaGreatDoor

