/- Put together of: Siv2 Pro0. -/
import Derived.Test.YtcjaafmlflonhaaDoorPk9
import Derived.Lib.MinMax
import Derived.WalkMore
import Derived.Scope
import Derived.Defers
import Derived.Recover

/- Package sieve: primes, as a range over a function hands them out. -/
namespace Go.Proofs.YtcjaafmlflonhaaDoor
open Go.RowKit Go.Shelf

attribute [local go_sem] Oper.semAt_some

/-- What is handed out. -/
def PriX (m B : Nat) (pre : List Nat) (p : Nat) (A : World) : Prop := pre = primesTo (p - 1) ∧ PrimeN p ∧ p ≤ m ∧ B + 3 ≤ A.heap.size

theorem upTo_min (n : Int) : upTo n = (min n 10000).toNat := by unfold upTo; split <;> omega

/-- primes. -/
theorem sPrimes (n : Int) (w : World) :
    Calls Tryd.prog 61 #[.int .i64 n] w fun e w' => e = .returned (.func (.func 82) #[] #[.pointer (some ⟨w.heap.size, 0, none⟩)]) ∧ Boxed w' w.heap.size 3 (.int .i64 (min n 10000)) ∧ Kept Nought w w' ∧ w'.heap.size = w.heap.size + 1 := by
  go_enter Tryd.func61, Tryd.ntmps61
  go_wp2
  go_ret
  exact ⟨rfl, Boxed.new w 3 (.int .i64 (min n 10000)), (Kept.refl Nought w).alloc _, by simp⟩

/-- What stands between two rounds: the places at block G, the last number's box. -/
structure BtwS (wr : World) (G bl m p : Nat) (N : Int) : Prop where
  arr : ∃ zs, StkL m p zs ∧ Arr .u8 112 wr G zs
  lb : Boxed wr bl 3 (.int .i64 N)
  size : G + 1 ≤ wr.heap.size

theorem BtwS.kept {S : Nat → Prop} {wr w' : World} {G bl m p : Nat} {N : Int} (b : BtwS wr G bl m p N) (k : Kept S wr w') (h0 : ¬ S G) (h1 : ¬ S bl) : BtwS w' G bl m p N := by
  obtain ⟨⟨zs, h2, h3⟩, h4, h5⟩ := b
  exact ⟨⟨zs, h2, h3.kept k h0⟩, boxed_but h4 k h1, Nat.le_trans h5 k.size⟩

theorem BtwS.skip {wr : World} {G bl m p : Nat} {N : Int} (b : BtwS wr G bl m p N) (hp : ¬ PrimeN p) : BtwS wr G bl m (p + 1) N := by
  obtain ⟨⟨zs, h2, h3⟩, h4, h5⟩ := b
  exact ⟨⟨zs, h2.skip hp, h3⟩, h4, h5⟩

/-- What stands while multiples are struck out. -/
structure BtwT (wr : World) (G bl m p t : Nat) (N : Int) : Prop where
  arr : ∃ zs, StkM m p t zs ∧ Arr .u8 112 wr G zs
  lb : Boxed wr bl 3 (.int .i64 N)
  size : G + 1 ≤ wr.heap.size

theorem BtwS.into {wr : World} {G bl m p : Nat} {N : Int} (b : BtwS wr G bl m p N) : BtwT wr G bl m p (p * p) N := by
  obtain ⟨⟨zs, h2, h3⟩, h4, h5⟩ := b
  exact ⟨⟨zs, h2.into, h3⟩, h4, h5⟩

theorem BtwT.out {wr : World} {G bl m p t : Nat} {N : Int} (b : BtwT wr G bl m p t N) (ht : m < t) (hp : PrimeN p) : BtwS wr G bl m (p + 1) N := by
  obtain ⟨⟨zs, h2, h3⟩, h4, h5⟩ := b
  exact ⟨⟨zs, h2.out ht hp, h3⟩, h4, h5⟩

theorem BtwT.put {wr : World} {G bl m p t : Nat} {N : Int} (b : BtwT wr G bl m p t N) (hne : bl ≠ G) (hm : m ≤ 10000) (ht : t ≤ m) (hp : p * p ≤ t) (hd : t % p = 0) (h0 : 0 < p) :
    BtwT (wr.setCell ⟨G, t, none⟩ (.int .u8 1)) G bl m p (t + p) N ∧ Kept (fun x => x = G) wr (wr.setCell ⟨G, t, none⟩ (.int .u8 1)) := by
  obtain ⟨⟨zs, h2, h3⟩, h4, h5⟩ := b
  have k : Kept (fun x => x = G) wr (wr.setCell ⟨G, t, none⟩ (.int .u8 1)) := (Kept.refl (fun x => x = G) _).setCell ⟨G, t, none⟩ (fun _ => rfl) _
  exact ⟨⟨⟨zs.set t 1, h2.set hm ht hp hd h0, h3.set t 1⟩, boxed_but h4 k hne, Nat.le_trans h5 k.size⟩, k⟩

set_option maxRecDepth 100000 in
set_option maxHeartbeats 2000000 in
/-- primes' value, as a range over it wants it. -/
theorem sPrimes1 (n : Nat) (hn : 1 ≤ n) (bl : Nat) (N : Int) (w : World) (Sb : Nat → Prop) (hb : Boxed w bl 3 (.int .i64 (min N 10000))) (hs0 : ¬ Sb bl) (hs1 : ¬ Sb (w.heap.size + 2)) :
    SeqU n Tryd.prog 82 #[.pointer (some ⟨bl, 0, none⟩)] (fun p : Nat => #[.int .i64 (p : Int)]) (PriX (upTo N) w.heap.size) Sb (fun x => x = w.heap.size + 2) (fun s _ => s = primesTo (upTo N)) w := by
  rintro l J Jx W hkW hlW hsW hJ hY h0
  obtain ⟨cs, hcs, hzv⟩ := zero16
  have hcn : ¬ cs = #[] := by
    rw [hcs]
    intro e
    have := congrArg Array.size e
    simp at this
  obtain ⟨m, hm⟩ : ∃ m, m = upTo N := ⟨_, rfl⟩
  have hm4 : m ≤ 10000 := by rw [hm]; exact upTo_le N
  have HM : Hid (∀ p : Nat, 2 ≤ p → ((p : Int) ≤ min N 10000 ↔ p ≤ m)) := fun p hp => by rw [hm, upTo_min]; omega
  rw [← hm] at hY ⊢
  generalize min N 10000 = I at *
  obtain ⟨G, hG⟩ : ∃ G, G = w.heap.size + 2 := ⟨_, rfl⟩
  have hGW : W.heap.size = G := by omega
  have hbl := hb.lt
  have hne : bl ≠ G := by omega
  have lbW := boxed_grew hb hkW
  have kA : Kept Nought W (W.alloc (.cells cs 112)) := (Kept.refl Nought W).alloc _
  have HA : Hid (Arr .u8 112 (W.alloc (.cells cs 112)) G (List.replicate 10001 0)) := by
    unfold Hid Arr
    rw [← hcs, ← hGW]
    exact heap_alloc_new W _
  have H0 : Hid (BtwS (W.alloc (.cells cs 112)) G bl m 2 I) := ⟨⟨_, stk_zero m, HA.out⟩, boxed_grew lbW kA, by simp; omega⟩
  have HJ0 : Hid (J [] (W.alloc (.cells cs 112))) := hJ _ _ _ h0 kA.any
  have HJ := toHid hJ
  have HG : Hid (G = w.heap.size + 2 ∧ l = w.heap.size + 1 ∧ bl < w.heap.size) := ⟨hG, hlW, hbl⟩
  have HS0 := toHid hs0
  have HS1 := toHid hs1
  clear hb hkW h0 hlW hsW lbW kA HA hJ hG hbl hs0 hs1 hcs hm
  refine callsIn_of_wp Tryd.func82 rfl trivial ?_ rfl
  simp only [Tryd.ntmps82, List.size_toArray, List.length_cons, List.length_nil, Nat.reduceAdd, Nat.reduceSub, Array.replicate_succ, Array.replicate_zero, List.push_toArray, List.append_toArray, List.nil_append, List.cons_append]
  refine wpIn_wide.2 ?_
  go_step3
  go_wp2_with fail
  go_step3
  go_wp2_with fail
  generalize W.alloc (.cells cs 112) = W1 at *
  refine (wpIn_wide (n := n)).1 ?_
  gi_loopw [4] (fun iv wr => ∃ p : Nat, 2 ≤ p ∧ p ≤ 10001 ∧ (p ≤ m + 1 ∨ p = 2) ∧ iv = .int .i64 (p : Int) ∧ Hid (J (primesTo (p - 1)) wr) ∧ Hid (BtwS wr G bl m p I)) (fun iv _ => 10002 - (intOf iv).toNat)
  case atStart => exact ⟨2, by omega, by omega, .inr rfl, rfl, HJ0.out, H0.out⟩
  case round =>
    clear HJ0 H0
    obtain ⟨p, hp2, hp4, hpm, rfl, hJp, hB⟩ := hrel
    have clb := hB.out.lb.cell
    by_cases hin : p ≤ m
    · have g1 := (HM.out p hp2).2 hin
      obtain ⟨zs, hst, hA⟩ := hB.out.arr
      have cp := hA.cell p (by rw [hst.1]; omega)
      have hzp := hst.2 p
      obtain ⟨z, hz⟩ : ∃ z, z = zs.getD p 0 := ⟨_, rfl⟩
      rw [← hz] at cp hzp
      have hp0 : (0 : Int) ≤ (p : Int) := by omega
      have hp9 : (p : Int) < 10001 := by omega
      clear hz hA hst
      by_cases hP : PrimeN p
      · have hz1 : ¬ (z : Int) = 1 := fun e => (stk_prime hp2 hin).2 hP (hzp.1 (by omega))
        have HP := toHid hP
        have hx : PriX m w.heap.size (primesTo (p - 1)) p wr := ⟨rfl, hP, hin, by have := hB.out.size; have := HG.out; omega⟩
        obtain ⟨fn, tmps, assign, body, hy, hR⟩ := hY _ p wr hJp.out hx
        clear hx hzp hP
        gi_wp2_with fail
        refine hR.mono ?_
        rintro e w5 (⟨rfl, hJ5, k5⟩ | ⟨rfl, hJx5⟩)
        · have B5 := toHid (hB.out.kept k5 (by
            have := HG.out
            rintro (e | e | e)
            · exact HS1.out (by have h9 : G = w.heap.size + 2 := HG.out.1; rw [← h9]; exact e)
            · omega
            · omega) (by
            have := HG.out
            rintro (e | e | e)
            · exact HS0.out e
            · omega
            · omega)).into
          rw [primesTo_step (by omega) HP.out] at hJ5
          have HJ5 := toHid hJ5
          have hpp : p * p ≤ 10001 * 10001 := Nat.mul_le_mul hp4 hp4
          obtain ⟨q, hq⟩ : ∃ q, q = p * p := ⟨_, rfl⟩
          have hw : IntKind.i64.wrap ((p : Int) * (p : Int)) = (q : Int) := by
            have e : (p : Int) * (p : Int) = ((p * p : Nat) : Int) := by simp
            rw [e, ← hq, IntKind.wrap_i64]
            omega
          have HQ := toHid hq
          rw [← hq] at hpp
          have HQD : Hid (q % p = 0) := by unfold Hid; rw [hq]; exact Nat.mul_mod_right p p
          have B6 : Hid (BtwT w5 G bl m p q I) := by unfold Hid; rw [hq]; exact B5.out
          clear hR hy hJ5 k5 hB hJp clb cp hq B5
          gi_wp2_with fail
          refine wpIn_wide.2 ?_
          go_loopw [5] (fun mv wr2 => ∃ t : Nat, q ≤ t ∧ t ≤ 100030000 ∧ mv = .int .i64 (t : Int) ∧ Hid (t % p = 0) ∧ Hid (J (primesTo p) wr2) ∧ Hid (BtwT wr2 G bl m p t I)) (fun mv _ => 10001 - (intOf mv).toNat)
          case atStart => exact ⟨q, Nat.le_refl _, by omega, rfl, HQD.out, HJ5.out, B6.out⟩
          case round =>
            clear B6 HJ5 HQD
            obtain ⟨t, hqt, ht, rfl, HTD, HJt, HBt⟩ := hrel
            have clb := HBt.out.lb.cell
            by_cases htm : t ≤ m
            · have g2 : ¬ (t : Int) > I := fun e => by
                have := (HM.out t (by have h3 : 2 * p ≤ p * p := Nat.mul_le_mul_right p hp2; have := HQ.out; omega)).2 htm
                omega
              have g2' : ¬ I < (t : Int) := g2
              have ht0 : (0 : Int) ≤ (t : Int) := by omega
              have ht9 : (t : Int) < 10001 := by omega
              obtain ⟨zs, hst, hA⟩ := HBt.out.arr
              have ct := hA.cell t (by rw [hst.1]; omega)
              have ft := hA.free t
              obtain ⟨b7, k7⟩ := HBt.out.put hne hm4 htm (by rw [← HQ.out]; exact hqt) HTD.out (by omega)
              have B7 := toHid b7
              have HJ7 := toHid (HJ.out _ _ _ HJt.out (k7.mono (fun x _ e => by have := HG.out; have e' : x = G := e; omega)))
              have HD7 : Hid ((t + p) % p = 0) := by unfold Hid; rw [Nat.add_mod_right]; exact HTD.out
              clear hst hA b7 k7
              go_wp2_with fail
              go_roundw
              case rel => exact ⟨t + p, by omega, by omega, by go_num, HD7.out, HJ7.out, B7.out⟩
              case measure => simp [intOf]; omega
            · have g2 : (t : Int) > I := by
                rcases Int.lt_or_le I (t : Int) with e | e
                · exact e
                · exact absurd ((HM.out t (by have h3 : 2 * p ≤ p * p := Nat.mul_le_mul_right p hp2; have := HQ.out; omega)).1 e) htm
              have g2' : I < (t : Int) := g2
              have B8 := toHid (HBt.out.out (by omega) HP.out)
              go_wp2_with fail
              gi_wp2_with fail
              go_roundw
              case rel => exact ⟨p + 1, by omega, by omega, .inl (by omega), by go_num, by rw [Nat.add_sub_cancel]; exact HJt, B8⟩
              case measure => simp [intOf]; omega
        · gi_wp2_with fail
          try rw [Exit.noGoto_ret]
          refine bodyPost_ret (results_none rfl _ _ _) rfl ?_
          exact ⟨⟨_, rfl⟩, .inr ⟨_, hJx5⟩⟩
      · have hz1 : z = 1 := by
          rw [hzp]
          by_cases hs : Struck m p p
          · exact hs
          · exact absurd ((stk_prime hp2 hin).1 hs) hP
        subst hz1
        have B8 := toHid (hB.out.skip hP)
        have HJ8 : Hid (J (primesTo (p + 1 - 1)) wr) := by unfold Hid; rw [Nat.add_sub_cancel, ← primesTo_skip (by omega) hP]; exact hJp.out
        clear hP hzp
        gi_wp2_with fail
        go_roundw
        case rel => exact ⟨p + 1, by omega, by omega, .inl (by omega), by go_num, HJ8, B8⟩
        case measure => simp [intOf]; omega
    · have g1 : ¬ (p : Int) ≤ I := fun e => hin ((HM.out p hp2).1 e)
      have HE : Hid (primesTo (p - 1) = primesTo m) := by
        unfold Hid
        rcases hpm with h | h
        · rw [show p - 1 = m by omega]
        · subst h
          rw [primesTo_low (show 2 - 1 ≤ 1 by omega), primesTo_low (show m ≤ 1 by omega)]
      gi_wp2_with fail
      try rw [Exit.noGoto_normal]
      refine bodyPost_end (results_none rfl _ _ _) rfl ?_
      exact ⟨⟨_, rfl⟩, .inl (by rw [← HE.out]; exact hJp.out)⟩

end Go.Proofs.YtcjaafmlflonhaaDoor


/- Package product: what refuses and attempts; boxes. No trace in it. -/

/- Package product: attempt, which answers the error with which what it does was refused; refuse, refuseLong. -/
namespace Go.Proofs.YtcjaafmlflonhaaDoor
open Go.RowKit

/-- The panic that refuse raises. -/
abbrev refusal (n : Int) : PanicEntry := { v := .iface 26 (.int .i64 n), recovered := false }

set_option maxHeartbeats 400000 in
/-- The deferred closure, where nothing was refused. -/
theorem pCatchIdle (p : Addr) (w : World) :
    CallsD Tryd.prog 67 #[.pointer (some p)] .returning w fun e u' w' => e = .returned (.tuple #[]) ∧ u' = .returning ∧ w' = w := by
  refine callsD_of_wpS Tryd.func67 rfl fun c₀ cs hu => ?_
  apply wpS_seq
  apply wpS_region
  simp [wpOpsS, go_sem, recoverD, hu, Tryd.ntmps67, Exit.thenS]
  apply wpS_seq
  apply wpS_seq
  apply wpS_region
  simp [wpOpsS, go_sem, Exit.thenS]
  refine wpS_cond (t := true) (by simp [Act.eval, Array.replicate]) ?_
  simp only [if_true]
  refine wpS_of_wp (wp_ret ?_)
  cases c₀
  simp_all [bodyPostS, results, Tryd.results67, Exit.thenS]

set_option maxHeartbeats 400000 in
/-- The deferred closure, where something was refused. -/
theorem pCatch (p : Addr) (x n : Int) (older : List PanicEntry) (w : World) (hc : w.cell? p = some (.int .i64 x)) (hz : w.frozen? p = false) :
    CallsD Tryd.prog 67 #[.pointer (some p)] (.panicking (refusal n :: older)) w fun e u' w' =>
      e = .returned (.tuple #[]) ∧ u' = .panicking ({ refusal n with recovered := true } :: older) ∧ w' = w.setCell p (.int .i64 n) := by
  refine callsD_of_wpS Tryd.func67 rfl fun c₀ cs hu => ?_
  apply wpS_seq
  apply wpS_region
  simp [wpOpsS, go_sem, recoverD, hu, Tryd.ntmps67, Exit.thenS]
  apply wpS_seq
  apply wpS_seq
  apply wpS_region
  simp [wpOpsS, go_sem, Exit.thenS]
  refine wpS_cond (t := false) (by simp [Act.eval, Array.replicate]) ?_
  simp only [Bool.false_eq_true, if_false]
  refine wpS_of_wp (wp_skip ?_)
  simp only [Exit.thenS]
  refine wpS_of_wp ?_
  have hta : ∀ w : World, (Instr.typeAssert (.iface 26 (.int .i64 n)) 20 26 true).run Tryd.prog w = .ok (.tuple #[.int .i64 n, .bool true]) w := fun w => by kernel_rfl
  have hnot : ∀ (x : Bool) (w : World), (Op.unary .not (.bool x)).run Tryd.prog w = .ok (.bool (!x)) w := fun _ _ => rfl
  have e : (#[Value.pointer (some p)] ++ ((((Array.replicate 15 undef).setIfInBounds 3 (Value.iface 26 (Value.int IntKind.i64 n))).setIfInBounds 0 (Value.iface 26 (Value.int IntKind.i64 n))).setIfInBounds 4 (Value.iface 26 (Value.int IntKind.i64 n))).setIfInBounds 5 (Value.bool false) : Array Value) = #[.pointer (some p), .iface 26 (.int .i64 n), undef, undef, .iface 26 (.int .i64 n), .iface 26 (.int .i64 n), .bool false, undef, undef, undef, undef, undef, undef, undef, undef, undef] := rfl
  rw [e]
  clear e
  go_wp2
  simp [bodyPostS, results, Tryd.results67]

set_option maxHeartbeats 400000 in
/-- attempt: what the closure does, and 0, or the number with which it was refused. -/
theorem pAttempt (f : Nat) (cap : Array Value) (w : World) (Q : Int → World → Prop) (he : ∀ args w, (callFunc f args).run Tryd.prog w = .ok (.enter f args) w)
    (h : Calls Tryd.prog f cap (w.alloc (.cells #[.int .i64 0] 26)) fun e w' => w'.heap[w.heap.size]? = some (.cells #[.int .i64 0] 26 (0, 0)) ∧
      ((e = .returned (.tuple #[]) ∧ Q 0 w') ∨ ∃ n, e = .panicked [refusal n] ∧ Q n w')) :
    Calls Tryd.prog 41 #[.func (.func f) #[] cap] w fun e w' => ∃ n w1, e = .returned (.int .i64 n) ∧ (Q n w1 ∧ w1.heap[w.heap.size]? = some (.cells #[.int .i64 0] 26 (0, 0))) ∧ w' = w1.setCell ⟨w.heap.size, 0, none⟩ (.int .i64 n) := by
  have hmf : ∀ (fn : Fn) (first cap : Array Value) (w : World), (Instr.makeFunc fn first cap).run Tryd.prog w = .ok (.func fn first cap) w := fun _ _ _ _ => rfl
  go_enter_defers Tryd.func41, Tryd.ntmps41
  go_wp2_with fail
  refine h.mono ?_
  rintro e w1 ⟨hb, (⟨rfl, hq⟩ | ⟨n, rfl, hq⟩)⟩
  · have hc : w1.cell? ⟨w.heap.size, 0, none⟩ = some (.int .i64 0) := by simp [World.cell?, hb]
    have hz : w1.frozen? ⟨w.heap.size, 0, none⟩ = false := by simp [World.frozen?, hb]
    clear h
    go_wp2_with fail
    refine leaves_cons (f := 67) (args := #[.pointer (some ⟨w.heap.size, 0, none⟩)]) (by simp) (by simp [go_sem]) ?_
    refine (pCatchIdle ⟨w.heap.size, 0, none⟩ _).mono ?_
    rintro e u' w'' ⟨rfl, rfl, rfl⟩
    have hc2 : (w1.setCell ⟨w.heap.size, 0, none⟩ (.int .i64 0)).cell? ⟨w.heap.size, 0, none⟩ = some (.int .i64 0) := World.cell?_setCell_same' _ _ _ (by rw [hc]; rfl)
    simp [Leaves, settle, results, Tryd.results41, go_sem, hc2]
    exact ⟨_, ⟨hq, hb⟩, rfl⟩
  · have hc : w1.cell? ⟨w.heap.size, 0, none⟩ = some (.int .i64 0) := by simp [World.cell?, hb]
    have hz : w1.frozen? ⟨w.heap.size, 0, none⟩ = false := by simp [World.frozen?, hb]
    clear h
    refine leaves_cons (f := 67) (args := #[.pointer (some ⟨w.heap.size, 0, none⟩)]) (by simp) (by simp [go_sem]) ?_
    refine (pCatch ⟨w.heap.size, 0, none⟩ 0 n [] _ hc hz).mono ?_
    rintro e u' w'' ⟨rfl, rfl, rfl⟩
    have hc2 : (w1.setCell ⟨w.heap.size, 0, none⟩ (.int .i64 n)).cell? ⟨w.heap.size, 0, none⟩ = some (.int .i64 n) := World.cell?_setCell_same' _ _ _ (by rw [hc]; rfl)
    simp [Leaves, settle, results, Tryd.results41, go_sem, hc2]
    exact ⟨_, ⟨hq, hb⟩, rfl⟩

set_option maxHeartbeats 400000 in
/-- refuse, where it is not so. -/
theorem pRefuseNo (n : Int) (w : World) : Calls Tryd.prog 43 #[.bool false, .int .i64 n] w fun e w' => e = .returned (.tuple #[]) ∧ w' = w := by
  go_enter Tryd.func43, Tryd.ntmps43
  go_wp2
  go_end0
  exact ⟨rfl, rfl⟩

set_option maxHeartbeats 400000 in
/-- refuse, where it is so. -/
theorem pRefuseYes (n : Int) (w : World) : Calls Tryd.prog 43 #[.bool true, .int .i64 n] w fun e w' => e = .panicked [refusal n] ∧ w' = w := by
  go_enter Tryd.func43, Tryd.ntmps43
  go_wp2
  exact ⟨rfl, rfl, rfl⟩

set_option maxHeartbeats 400000 in
/-- refuseLong. -/
theorem pLong (ao bo : Option Addr) (L M cap dap : Nat) (w : World) :
    Calls Tryd.prog 88 #[.slice ao L cap, .slice bo M dap] w fun e w' => ((L ≤ 300 ∧ M ≤ 300 ∧ e = .returned (.tuple #[])) ∨ (¬ (L ≤ 300 ∧ M ≤ 300) ∧ e = .panicked [refusal 2])) ∧ w' = w := by
  have hN := pRefuseNo 2 w
  have hY := pRefuseYes 2 w
  by_cases h : L ≤ 300 ∧ M ≤ 300
  · have g : ¬ max (L : Int) (M : Int) > 300 := by omega
    go_enter Tryd.func88, Tryd.ntmps88
    go_wp2_with fail
    refine hN.mono ?_
    rintro e w' ⟨rfl, rfl⟩
    go_wp2
    go_end0
    exact ⟨.inl ⟨h.1, h.2, rfl⟩, rfl⟩
  · have g : max (L : Int) (M : Int) > 300 := by omega
    go_enter Tryd.func88, Tryd.ntmps88
    go_wp2_with fail
    refine hY.mono ?_
    rintro e w' ⟨rfl, rfl⟩
    exact ⟨rfl, .inr ⟨h, rfl⟩, rfl⟩

end Go.Proofs.YtcjaafmlflonhaaDoor

/- A variable of its own in memory: what it holds, and what of it stays. -/
namespace Go.Proofs.YtcjaafmlflonhaaDoor
open Go.RowKit

/-- Block b is one variable of type t that holds v. -/
def Box (w : World) (b : Nat) (v : Value) (t : TypeId) : Prop := w.heap[b]? = some (.cells #[v] t (0, 0))

theorem Box.cell {w : World} {b : Nat} {v : Value} {t : TypeId} (h : Box w b v t) : w.cell? ⟨b, 0, none⟩ = some v := by
  unfold Box at h
  simp [World.cell?, h]

theorem Box.free {w : World} {b : Nat} {v : Value} {t : TypeId} (h : Box w b v t) : w.frozen? ⟨b, 0, none⟩ = false := by
  unfold Box at h
  simp [World.frozen?, h]

theorem Box.lt {w : World} {b : Nat} {v : Value} {t : TypeId} (h : Box w b v t) : b < w.heap.size := lt_of_block h

theorem Box.new (w : World) (v : Value) (t : TypeId) : Box (w.alloc (.cells #[v] t)) w.heap.size v t := heap_alloc_new w _

theorem Box.kept {S : Nat → Prop} {w w' : World} {b : Nat} {v : Value} {t : TypeId} (h : Box w b v t) (k : Kept S w w') (hs : ¬ S b) : Box w' b v t := (k.block b h.lt hs).trans h

theorem Box.grew {w w' : World} {b : Nat} {v : Value} {t : TypeId} (h : Box w b v t) (k : Kept Nought w w') : Box w' b v t := h.kept k (fun f => f)

theorem Box.alloc {w : World} {b : Nat} {v : Value} {t : TypeId} (h : Box w b v t) (o : Obj) : Box (w.alloc o) b v t := heapAt_alloc h

theorem Box.drew {w : World} {b : Nat} {v : Value} {t : TypeId} (h : Box w b v t) : Box w.drew b v t := h

theorem Box.set {w : World} {b : Nat} {v : Value} {t : TypeId} (h : Box w b v t) (u : Value) : Box (w.setCell ⟨b, 0, none⟩ u) b u t := by
  have := heap_setCell_same w b 0 #[v] t u h
  simpa [Box] using this

theorem Box.other {w : World} {b : Nat} {v : Value} {t : TypeId} (h : Box w b v t) (a : Addr) (hne : b ≠ a.block) (u : Value) : Box (w.setCell a u) b v t := heapAt_set h hne u

theorem kept_box (w : World) (b : Nat) (u : Value) : Kept (fun x => x = b) w (w.setCell ⟨b, 0, none⟩ u) := (Kept.refl (fun x => x = b) w).setCell ⟨b, 0, none⟩ (fun _ => rfl) u

theorem boxes1 (w : World) (v1 : Value) (t1 : TypeId) : Kept Nought w (w.alloc (.cells #[v1] t1)) ∧ Box (w.alloc (.cells #[v1] t1)) w.heap.size v1 t1 ∧ (w.alloc (.cells #[v1] t1)).heap.size = w.heap.size + 1 := by
  exact ⟨(Kept.refl Nought w).alloc _, Box.new w _ _, by simp⟩

theorem boxes2 (w : World) (v1 v2 : Value) (t1 t2 : TypeId) : Kept Nought w ((w.alloc (.cells #[v1] t1)).alloc (.cells #[v2] t2)) ∧ Box ((w.alloc (.cells #[v1] t1)).alloc (.cells #[v2] t2)) w.heap.size v1 t1 ∧ Box ((w.alloc (.cells #[v1] t1)).alloc (.cells #[v2] t2)) (w.heap.size + 1) v2 t2 ∧ ((w.alloc (.cells #[v1] t1)).alloc (.cells #[v2] t2)).heap.size = w.heap.size + 1 + 1 := by
  obtain ⟨k0, b1, hs⟩ := boxes1 w v1 t1
  exact ⟨k0.alloc _, b1.alloc _, by rw [← hs]; exact Box.new _ _ _, by rw [← hs]; simp⟩

theorem boxes3 (w : World) (v1 v2 v3 : Value) (t1 t2 t3 : TypeId) : Kept Nought w (((w.alloc (.cells #[v1] t1)).alloc (.cells #[v2] t2)).alloc (.cells #[v3] t3)) ∧ Box (((w.alloc (.cells #[v1] t1)).alloc (.cells #[v2] t2)).alloc (.cells #[v3] t3)) w.heap.size v1 t1 ∧ Box (((w.alloc (.cells #[v1] t1)).alloc (.cells #[v2] t2)).alloc (.cells #[v3] t3)) (w.heap.size + 1) v2 t2 ∧ Box (((w.alloc (.cells #[v1] t1)).alloc (.cells #[v2] t2)).alloc (.cells #[v3] t3)) (w.heap.size + 1 + 1) v3 t3 ∧ (((w.alloc (.cells #[v1] t1)).alloc (.cells #[v2] t2)).alloc (.cells #[v3] t3)).heap.size = w.heap.size + 1 + 1 + 1 := by
  obtain ⟨k0, b1, b2, hs⟩ := boxes2 w v1 v2 t1 t2
  exact ⟨k0.alloc _, b1.alloc _, b2.alloc _, by rw [← hs]; exact Box.new _ _ _, by rw [← hs]; simp⟩

theorem boxes4 (w : World) (v1 v2 v3 v4 : Value) (t1 t2 t3 t4 : TypeId) : Kept Nought w ((((w.alloc (.cells #[v1] t1)).alloc (.cells #[v2] t2)).alloc (.cells #[v3] t3)).alloc (.cells #[v4] t4)) ∧ Box ((((w.alloc (.cells #[v1] t1)).alloc (.cells #[v2] t2)).alloc (.cells #[v3] t3)).alloc (.cells #[v4] t4)) w.heap.size v1 t1 ∧ Box ((((w.alloc (.cells #[v1] t1)).alloc (.cells #[v2] t2)).alloc (.cells #[v3] t3)).alloc (.cells #[v4] t4)) (w.heap.size + 1) v2 t2 ∧ Box ((((w.alloc (.cells #[v1] t1)).alloc (.cells #[v2] t2)).alloc (.cells #[v3] t3)).alloc (.cells #[v4] t4)) (w.heap.size + 1 + 1) v3 t3 ∧ Box ((((w.alloc (.cells #[v1] t1)).alloc (.cells #[v2] t2)).alloc (.cells #[v3] t3)).alloc (.cells #[v4] t4)) (w.heap.size + 1 + 1 + 1) v4 t4 ∧ ((((w.alloc (.cells #[v1] t1)).alloc (.cells #[v2] t2)).alloc (.cells #[v3] t3)).alloc (.cells #[v4] t4)).heap.size = w.heap.size + 1 + 1 + 1 + 1 := by
  obtain ⟨k0, b1, b2, b3, hs⟩ := boxes3 w v1 v2 v3 t1 t2 t3
  exact ⟨k0.alloc _, b1.alloc _, b2.alloc _, b3.alloc _, by rw [← hs]; exact Box.new _ _ _, by rw [← hs]; simp⟩

end Go.Proofs.YtcjaafmlflonhaaDoor

