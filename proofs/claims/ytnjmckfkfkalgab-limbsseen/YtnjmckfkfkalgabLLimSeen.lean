/- The law LimbsSeen, walked: whatever the bit, the numbers, the list and the place. -/
import Derived.Test.YtnjmckfkfkalgabLimV
namespace Go.Proofs.Ytnjmckfkfkalgab
open Go.RowKit

/-- What the eleven calls write down. -/
def seenEvs (n L m mx : Nat) : List Ev := List.replicate 7 (1, (n : Int), 0) ++ List.replicate 3 (1, (L : Int), 0) ++ List.replicate m (1, (mx : Int), 0)

/-- Two traces that were made one behind the other: the second stays while the first is written, and the other way round. -/
theorem other_trace {W0 W : World} {p1 p2 : Nat} {m : List Ev} {o' : Tr} (h : Stage W0 p1 m W o') (t : IsTr W0 p2 none []) (hne : p2 ≠ p1) : IsTr W p2 none [] :=
  t.kept h.did.kept (fun f => by rcases f with f | f; exact hne f; cases f) (fun _ e => by cases e)

theorem first_trace {W0 W W' : World} {p1 p2 : Nat} {m m' : List Ev} {o' o'' : Tr} (h : Stage W0 p1 m W o') (hp : p2 < W0.heap.size) (hne : p2 ≠ p1) (d : Stage W p2 m' W' o'') : TrIn W' o' := by
  have ht := h.trRoom.1
  have hf : ¬ trFoot o' p2 := fun f => by
    rcases h.did.foot hp f with f | f
    · exact hne f
    · cases f
  cases o' with
  | none => trivial
  | some x =>
    obtain ⟨p, g, l⟩ := x
    refine ⟨ht.1.kept d.did.kept (fun f => ?_) (fun x hx f => ?_), ht.2⟩
    · rcases f with f | f
      · exact hf (.inl f.symm)
      · cases f
    · rcases f with f | f
      · exact hf (.inr (by rw [hx, f]))
      · cases f

theorem Slots.stage {W0 W : World} {p1 : Nat} {m : List Ev} {o' : Tr} {ao : Option Addr} {n : Nat} {A : Nat → Option Addr} {L C : Nat → Nat} (h : Slots W0 ao n A L C) (d : Stage W0 p1 m W o') (hap : 0 < n → ∀ a, ao = some a → a.block ≠ p1) : Slots W ao n A L C := by
  by_cases h0 : 0 < n
  · exact h.did d.did (fun a e f => by
      rcases f with f | f
      · exact hap h0 a e f
      · cases f)
  · intro i hi; omega

set_option maxRecDepth 20000 in
set_option maxHeartbeats 8000000 in
theorem walkLimbsSeen (bit : Int) (u : Value) (xs : List Nat) (v : Value) (ys : List Nat) (l : Value) (m : Nat) (A : Nat → Option Addr) (L C : Nat → Nat) (xss : Nat → List Nat) (place : Int) (w : World) (hu : Row .u64 w u xs) (hv : Row .u64 w v ys) (hdx : Digs 18446744073709551616 xs) (hdy : Digs 18446744073709551616 ys) (hb : (Lit.int .u64 bit).wf = true) (hl : NatsIn w l m A L C xss) (hpl : (Lit.int .u64 place).wf = true) :
    Calls Try.prog 4 #[.int .u64 bit, u, v, l, .int .u64 place] w fun e w' => e = .returned (.bool true) ∧ Below w.heap.size w w' := by
  obtain ⟨bt, rfl, hbt⟩ : ∃ bt : Nat, bit = (bt : Int) ∧ bt < 18446744073709551616 := by
    have := wf_u64 bit hb
    exact ⟨bit.toNat, by omega, by omega⟩
  obtain ⟨i, rfl, hi⟩ : ∃ i : Nat, place = (i : Int) ∧ i < 18446744073709551616 := by
    have := wf_u64 place hpl
    exact ⟨place.toNat, by omega, by omega⟩
  clear hb hpl
  have hA := lAwake w
  obtain ⟨ao, N, cap, rfl, hLx, _, _, _, _⟩ := hu.open
  obtain ⟨bo, M, dap, rfl, hLy, _, _, _, _⟩ := hv.open
  obtain ⟨co, eap, rfl, _, _, hsl, hrl⟩ := hl
  clear hLx hLy
  by_cases h4 : N ≤ 200 ∧ M ≤ 200
  · have hF := fun W => lFew2 ao bo N M cap dap W true (decide_eq_true h4).symm
    by_cases hm : m ≤ 40
    · have hm' : ¬ (m : Int) > 40 := by omega
      by_cases h5 : ∀ p, p < m → L p ≤ 200
      · have hG := fun W (k : Kept Nought w W) => lFew co m eap A L C W (by omega) true (decide_eq_true h5).symm (hsl.grew k)
        have HU := toHid hu
        have HV := toHid hv
        have HSL := toHid hsl
        have HRL := toHid hrl
        have HX := toHid hdx
        have HY := toHid hdy
        have H5 := toHid h5
        have h41 := h4.1
        have h42 := h4.2
        clear hu hv hsl hrl hdx hdy h5 h4
        go_enter Try.func4, Try.ntmps4
        go_wp2_with fail
        refine hA.mono ?_
        rintro e w1 ⟨rfl, k1⟩
        go_wp2_with fail
        refine (hF w1).mono ?_
        rintro e w1' ⟨rfl, rfl⟩
        have k2 := k1.alloc (.cells #[.slice ao N cap, .slice bo M dap] 23)
        generalize w1.alloc (.cells #[.slice ao N cap, .slice bo M dap] 23) = w2 at *
        clear hA hF k1
        go_wp2_with fail
        refine (hG w2 k2).mono ?_
        rintro e w2' ⟨rfl, rfl⟩
        clear hG
        go_wp2_with fail
        refine (tNew _).mono ?_
        rintro e w3 ⟨rfl, rfl⟩
        go_wp2_with fail
        refine (tNew _).mono ?_
        rintro e w4 ⟨rfl, rfl⟩
        have t1 : IsTr ((w2'.alloc newTr).alloc newTr) w2'.heap.size none [] := (newTr_is w2').grew ((Kept.refl _ _).alloc _)
        have t2 : IsTr ((w2'.alloc newTr).alloc newTr) (w2'.alloc newTr).heap.size none [] := newTr_is (w2'.alloc newTr)
        have hp12 : (w2'.alloc newTr).heap.size = w2'.heap.size + 1 := by simp
        have k4 : Kept Nought w ((w2'.alloc newTr).alloc newTr) := (k2.alloc _).alloc _
        have hs0 := k2.size
        rw [hp12] at t2
        simp only [hp12]
        generalize (w2'.alloc newTr).alloc newTr = W0 at *
        obtain ⟨p1, hp1⟩ : ∃ p, p = w2'.heap.size := ⟨_, rfl⟩
        obtain ⟨p2, hp2⟩ : ∃ p, p = w2'.heap.size + 1 := ⟨_, rfl⟩
        rw [← hp1] at t1
        rw [← hp2] at t2
        simp only [← hp2]
        simp only [← hp1]
        have hne : p2 ≠ p1 := by omega
        have hw1 : w.heap.size ≤ p1 := by omega
        have hw2 : w.heap.size ≤ p2 := by omega
        clear hp12 k2 hs0 hp1 hp2
        have HK := toHid k4
        have HT2 := toHid t2
        have S0 : Stage W0 p1 [] W0 (some (p1, none, [])) := ⟨Did.of_kept (Kept.refl _ _) ⟨t1, by simp⟩, ⟨⟨t1, by simp⟩, by simp [trEvs]⟩, by simp⟩
        have rT : ∀ {v zs}, Row .u64 w v zs → RowT W0 (some (p1, none, [])) v zs := fun h => ⟨h.grew k4, fun hn b hb f => by
          have := h.lt hn b hb
          rcases f with f | f
          · omega
          · cases f⟩
        have hap : ∀ q, w.heap.size ≤ q → 0 < m → ∀ a, co = some a → a.block ≠ q := fun q hq h0 a e f => by
          obtain ⟨b, off, e2, hc⟩ := HSL.out 0 h0
          rw [e] at e2
          cases e2
          have f1 : b < w.heap.size := World.block_lt_of_cell? w _ hc
          have f2 : b = q := f
          omega
        have HAP := toHid hap
        have cAdd := sAdd W0 p1 ao bo N M cap dap xs ys (rT HU.out) (rT HV.out) HX.out HY.out h41 h42
        have cSub := sSub W0 p1 ao bo N M cap dap xs ys (rT HU.out) (rT HV.out) HX.out HY.out h41 h42
        have cLess := sLess W0 p1 ao bo N M cap dap xs ys (rT HU.out) (rT HV.out) HX.out HY.out h41 h42
        have cEqual := sEqual W0 p1 ao bo N M cap dap xs ys (rT HU.out) (rT HV.out) HX.out HY.out h41 h42
        have cSelect := sSelect W0 p1 ao bo N M cap dap xs ys bt hbt (rT HU.out) (rT HV.out) HX.out HY.out h41 h42
        have cAddIf := sAddIf W0 p1 ao bo N M cap dap xs ys bt hbt (rT HU.out) (rT HV.out) HX.out HY.out h41 h42
        have cSubIf := sSubIf W0 p1 ao bo N M cap dap xs ys bt hbt (rT HU.out) (rT HV.out) HX.out HY.out h41 h42
        have cZero := sZero W0 p1 ao N cap xs (rT HU.out) HX.out h41
        have cLeft := sLeft W0 p1 ao N cap xs bt hbt (rT HU.out) HX.out h41
        have cRight := sRight W0 p1 ao N cap xs bt hbt (rT HU.out) HX.out h41
        have cPick := sPick W0 p1 co m eap A L C xss i hi (HSL.out.grew k4) (hap p1 hw1) (fun p hp => rT (HRL.out p hp).1) (fun p hp => (HRL.out p hp).2) H5.out hm
        clear t1 t2 k4 rT hap
        go_wp2_with fail
        refine (cAdd _ _ _ S0 (by simp)).mono ?_
        rintro e W1 ⟨r1, rfl, o1, S1⟩
        obtain ⟨m1, e1⟩ : ∃ q : List Ev, q = [] ++ [(1, ((max N M : Nat) : Int), 0)] := ⟨_, rfl⟩
        rw [← e1] at S1
        have l1 : Hid (m1.length = 1) := by unfold Hid; rw [e1, List.length_append]; rfl
        have E1 := toHid e1
        clear cAdd S0 e1
        go_wp2_with fail
        refine (cSub _ _ _ S1 (by have := l1.out; omega)).mono ?_
        rintro e W2 ⟨r2, rfl, o2, S2⟩
        obtain ⟨m2, e2⟩ : ∃ q : List Ev, q = m1 ++ [(1, ((max N M : Nat) : Int), 0)] := ⟨_, rfl⟩
        rw [← e2] at S2
        have l2 : Hid (m2.length = 2) := by unfold Hid; rw [e2, List.length_append, l1.out]; rfl
        have E2 := toHid e2
        clear cSub S1 e2
        go_wp2_with fail
        refine (cLess _ _ _ S2 (by have := l2.out; omega)).mono ?_
        rintro e W3 ⟨r3, rfl, o3, S3⟩
        obtain ⟨m3, e3⟩ : ∃ q : List Ev, q = m2 ++ [(1, ((max N M : Nat) : Int), 0)] := ⟨_, rfl⟩
        rw [← e3] at S3
        have l3 : Hid (m3.length = 3) := by unfold Hid; rw [e3, List.length_append, l2.out]; rfl
        have E3 := toHid e3
        clear cLess S2 e3
        go_wp2_with fail
        refine (cEqual _ _ _ S3 (by have := l3.out; omega)).mono ?_
        rintro e W4 ⟨r4, rfl, o4, S4⟩
        obtain ⟨m4, e4⟩ : ∃ q : List Ev, q = m3 ++ [(1, ((max N M : Nat) : Int), 0)] := ⟨_, rfl⟩
        rw [← e4] at S4
        have l4 : Hid (m4.length = 4) := by unfold Hid; rw [e4, List.length_append, l3.out]; rfl
        have E4 := toHid e4
        clear cEqual S3 e4
        go_wp2_with fail
        refine (cSelect _ _ _ S4 (by have := l4.out; omega)).mono ?_
        rintro e W5 ⟨r5, rfl, o5, S5⟩
        obtain ⟨m5, e5⟩ : ∃ q : List Ev, q = m4 ++ [(1, ((max N M : Nat) : Int), 0)] := ⟨_, rfl⟩
        rw [← e5] at S5
        have l5 : Hid (m5.length = 5) := by unfold Hid; rw [e5, List.length_append, l4.out]; rfl
        have E5 := toHid e5
        clear cSelect S4 e5
        go_wp2_with fail
        refine (cAddIf _ _ _ S5 (by have := l5.out; omega)).mono ?_
        rintro e W6 ⟨r6, rfl, o6, S6⟩
        obtain ⟨m6, e6⟩ : ∃ q : List Ev, q = m5 ++ [(1, ((max N M : Nat) : Int), 0)] := ⟨_, rfl⟩
        rw [← e6] at S6
        have l6 : Hid (m6.length = 6) := by unfold Hid; rw [e6, List.length_append, l5.out]; rfl
        have E6 := toHid e6
        clear cAddIf S5 e6
        go_wp2_with fail
        refine (cSubIf _ _ _ S6 (by have := l6.out; omega)).mono ?_
        rintro e W7 ⟨r7, rfl, o7, S7⟩
        obtain ⟨m7, e7⟩ : ∃ q : List Ev, q = m6 ++ [(1, ((max N M : Nat) : Int), 0)] := ⟨_, rfl⟩
        rw [← e7] at S7
        have l7 : Hid (m7.length = 7) := by unfold Hid; rw [e7, List.length_append, l6.out]; rfl
        have E7 := toHid e7
        clear cSubIf S6 e7
        go_wp2_with fail
        refine (cZero _ _ _ S7 (by have := l7.out; omega)).mono ?_
        rintro e W8 ⟨r8, rfl, o8, S8⟩
        obtain ⟨m8, e8⟩ : ∃ q : List Ev, q = m7 ++ [(1, ((N : Nat) : Int), 0)] := ⟨_, rfl⟩
        rw [← e8] at S8
        have l8 : Hid (m8.length = 8) := by unfold Hid; rw [e8, List.length_append, l7.out]; rfl
        have E8 := toHid e8
        clear cZero S7 e8
        go_wp2_with fail
        refine (cLeft _ _ _ S8 (by have := l8.out; omega)).mono ?_
        rintro e W9 ⟨r9, rfl, o9, S9⟩
        obtain ⟨m9, e9⟩ : ∃ q : List Ev, q = m8 ++ [(1, ((N : Nat) : Int), 0)] := ⟨_, rfl⟩
        rw [← e9] at S9
        have l9 : Hid (m9.length = 9) := by unfold Hid; rw [e9, List.length_append, l8.out]; rfl
        have E9 := toHid e9
        clear cLeft S8 e9
        go_wp2_with fail
        refine (cRight _ _ _ S9 (by have := l9.out; omega)).mono ?_
        rintro e W10 ⟨r10, rfl, o10, S10⟩
        obtain ⟨m10, e10⟩ : ∃ q : List Ev, q = m9 ++ [(1, ((N : Nat) : Int), 0)] := ⟨_, rfl⟩
        rw [← e10] at S10
        have l10 : Hid (m10.length = 10) := by unfold Hid; rw [e10, List.length_append, l9.out]; rfl
        have E10 := toHid e10
        clear cRight S9 e10
        go_wp2_with fail
        refine (cPick _ _ _ S10 (by have := l10.out; omega)).mono ?_
        rintro e W11 ⟨r11, rfl, o11, S11⟩
        clear cPick S10
        have SE : Hid (m10 ++ List.replicate m (1, ((maxOf L m : Nat) : Int), 0) = seenEvs (max N M) N m (maxOf L m)) := by
          unfold Hid seenEvs
          rw [E10.out, E9.out, E8.out, E7.out, E6.out, E5.out, E4.out, E3.out, E2.out, E1.out]
          rfl
        rw [SE.out] at S11
        have HS11 := toHid S11
        clear SE E1 E2 E3 E4 E5 E6 E7 E8 E9 E10 l1 l2 l3 l4 l5 l6 l7 l8 l9 l10 S11
        have hp2lt : Hid (p2 < W0.heap.size) := HT2.out.lt.1
        have tW : IsTr W11 p2 none [] := other_trace HS11.out HT2.out hne
        have Z0 : Stage W11 p2 [] W11 (some (p2, none, [])) := ⟨Did.of_kept (Kept.refl _ _) ⟨tW, by simp⟩, ⟨⟨tW, by simp⟩, by simp [trEvs]⟩, by simp⟩
        have hSp1 := sSpan W11 p2 ((max N M : Nat) : Int)
        rw [show ((max N M : Nat) : Int) = max (N : Int) (M : Int) by omega] at hSp1
        have hSp2 := sSpan W11 p2 (N : Int)
        have hSL : Hid (∀ W m' o', Stage W11 p2 m' W o' → Slots W co m A L C) := fun W m' o' hs => ((HSL.out.grew HK.out).stage HS11.out (HAP.out p1 hw1)).stage hs (HAP.out p2 hw2)
        clear tW
        go_wp2_with fail
        go_loopw [13] (fun ii wr => ∃ (k : Nat) (o' : Tr), k ≤ 7 ∧ ii = .int .i64 (k : Int) ∧ Stage W11 p2 (List.replicate k (1, max (N : Int) (M : Int), 0)) wr o') (fun ii _ => 7 - (intOf ii).toNat)
        case atStart => exact ⟨0, _, Nat.zero_le _, rfl, Z0⟩
        case round =>
          clear Z0
          obtain ⟨k7, o', hk, rfl, hst⟩ := hrel
          by_cases hk7 : k7 < 7
          · have g1 : (k7 : Int) < 7 := by omega
            go_wp2_with fail
            refine (hSp1 _ _ _ hst (by simp; omega)).mono ?_
            rintro e w5 ⟨rfl, o2, hs5⟩
            rw [← List.replicate_succ'] at hs5
            clear hst
            go_wp2_with fail
            go_roundw
            case rel => exact ⟨k7 + 1, o2, by omega, by go_num, hs5⟩
            case measure => simp [intOf]; omega
          · have g1 : ¬ (k7 : Int) < 7 := by omega
            have HK7 : Hid (k7 = 7) := by unfold Hid; omega
            clear hSp1 hk7
            go_wp2_with fail
            go_loopw [14] (fun ii wr => ∃ (k : Nat) (o' : Tr), k ≤ 3 ∧ ii = .int .i64 (k : Int) ∧ Stage W11 p2 (List.replicate k7 (1, max (N : Int) (M : Int), 0) ++ List.replicate k (1, (N : Int), 0)) wr o') (fun ii _ => 3 - (intOf ii).toNat)
            case atStart => exact ⟨0, _, Nat.zero_le _, rfl, by rw [List.replicate_zero, List.append_nil]; exact hst⟩
            case round =>
              clear hst
              obtain ⟨k3, o', hk3', rfl, hst⟩ := hrel
              by_cases hk3 : k3 < 3
              · have g1 : (k3 : Int) < 3 := by omega
                go_wp2_with fail
                refine (hSp2 _ _ _ hst (by simp; omega)).mono ?_
                rintro e w5 ⟨rfl, o2, hs5⟩
                rw [List.append_assoc, ← List.replicate_succ'] at hs5
                clear hst
                go_wp2_with fail
                go_roundw
                case rel => exact ⟨k3 + 1, o2, by omega, by go_num, hs5⟩
                case measure => simp [intOf]; omega
              · have g1 : ¬ (k3 : Int) < 3 := by omega
                have HK3 : Hid (k3 = 3) := by unfold Hid; omega
                clear hSp2 hk3
                have hSl := toHid (hSL.out _ _ _ hst)
                have HST := toHid hst
                clear hst hSL
                rename_i wq
                go_wp2_with fail
                go_loop [15, 111] (fun n ii => ∃ (k q : Nat), k ≤ m ∧ ii = .int .i64 (k : Int) ∧ n = .int .i64 (q : Int) ∧ Hid (q = maxOf L k)) (fun _ ii => ((m : Int) - intOf ii).toNat)
                case atStart => exact ⟨0, 0, Nat.zero_le _, rfl, rfl, rfl⟩
                case round =>
                  obtain ⟨k, q, hk, rfl, rfl, hq⟩ := hrel
                  by_cases hkm : k < m
                  · have hk1 : (k : Int) < (m : Int) := by omega
                    obtain ⟨b, off, rfl, hcell⟩ := hSl.out k hkm
                    obtain ⟨a0, ha0⟩ : ∃ a0, a0 = A k := ⟨_, rfl⟩
                    obtain ⟨len, hlen⟩ : ∃ len, len = L k := ⟨_, rfl⟩
                    obtain ⟨cp, hcp⟩ : ∃ cp, cp = C k := ⟨_, rfl⟩
                    rw [← ha0, ← hlen, ← hcp] at hcell
                    have HLen := toHid hlen
                    clear ha0 hlen hcp
                    go_wp2_with fail
                    go_round
                    case rel => exact ⟨k + 1, max q len, by omega, by go_num, by rw [show ((max q len : Nat) : Int) = max (q : Int) (len : Int) by omega], by unfold Hid; rw [maxOf, ← hq.out, ← HLen.out]⟩
                    case measure => simp [intOf]; omega
                  · have hk1 : ¬ (k : Int) < (m : Int) := by omega
                    obtain rfl : k = m := by omega
                    have hSp3 := sSpan W11 p2 (q : Int)
                    clear hkm hk
                    go_wp2_with fail
                    go_loopw [18] (fun ii wr => ∃ (j : Nat) (o' : Tr), j ≤ k ∧ ii = .int .i64 (j : Int) ∧ Stage W11 p2 (List.replicate k7 (1, max (N : Int) (M : Int), 0) ++ List.replicate k3 (1, (N : Int), 0) ++ List.replicate j (1, (q : Int), 0)) wr o') (fun ii _ => k - (intOf ii).toNat)
                    case atStart => exact ⟨0, _, Nat.zero_le _, rfl, by rw [List.replicate_zero, List.append_nil]; exact HST.out⟩
                    case round =>
                      clear HST hSl
                      obtain ⟨j, o', hj, rfl, hst⟩ := hrel
                      by_cases hjk : j < k
                      · have g1 : (j : Int) < (k : Int) := by omega
                        go_wp2_with fail
                        refine (hSp3 _ _ _ hst (by have h1 := HK7.out; have h2 := HK3.out; simp; omega)).mono ?_
                        rintro e w5 ⟨rfl, o2, hs5⟩
                        rw [List.append_assoc, ← List.replicate_succ'] at hs5
                        clear hst
                        go_wp2_with fail
                        go_roundw
                        case rel => exact ⟨j + 1, o2, by omega, by go_num, hs5⟩
                        case measure => simp [intOf]; omega
                      · have g1 : ¬ (j : Int) < (k : Int) := by omega
                        obtain rfl : j = k := by omega
                        have hT1 := first_trace HS11.out hp2lt.out hne hst
                        have hSm := tSame o11 o' _ hT1 hst.trRoom.1
                        rw [HS11.out.ptr, hst.ptr, hst.did.evs (by simp), HS11.out.did.evs (by simp)] at hSm
                        have hev : trEvs (some (p1, none, [])) ++ seenEvs (max N M) N j (maxOf L j) = trEvs (some (p2, none, [])) ++ (List.replicate k7 (1, max (N : Int) (M : Int), 0) ++ List.replicate k3 (1, (N : Int), 0) ++ List.replicate j (1, (q : Int), 0)) := by
                          unfold seenEvs
                          rw [HK7.out, HK3.out, hq.out, show ((max N M : Nat) : Int) = max (N : Int) (M : Int) by omega]
                          rfl
                        rw [hev, sameB_self] at hSm
                        have hbel : Hid (∀ W, Kept Nought wr W → Below w.heap.size w W) := fun W kk => by
                          have b1 : Below w.heap.size w W0 := below_kept HK.out (Nat.le_refl _)
                          have b2 : Below w.heap.size W0 W11 := HS11.out.did.kept.below HK.out.size (fun k f => by rcases f with f | f; omega; cases f)
                          have b3 : Below w.heap.size W11 wr := hst.did.kept.below (Nat.le_trans HK.out.size HS11.out.did.size) (fun k f => by rcases f with f | f; omega; cases f)
                          exact ((b1.trans b2).trans b3).trans (below_kept kk (Nat.le_trans (Nat.le_trans HK.out.size HS11.out.did.size) hst.did.size))
                        clear hT1 hev hSp3 hst
                        go_wp2_with fail
                        refine hSm.mono ?_
                        rintro e w9 ⟨rfl, k9⟩
                        go_wp2_with fail
                        go_ret
                        exact ⟨rfl, hbel.out _ k9⟩
      · have hG := fun W (k : Kept Nought w W) => lFew co m eap A L C W (by omega) false (decide_eq_false h5).symm (hsl.grew k)
        clear hu hv h4 hsl hrl hdx hdy h5
        go_enter Try.func4, Try.ntmps4
        go_wp2_with fail
        refine hA.mono ?_
        rintro e w1 ⟨rfl, k1⟩
        go_wp2_with fail
        refine (hF w1).mono ?_
        rintro e w1' ⟨rfl, rfl⟩
        go_wp2_with fail
        refine (hG _ (k1.alloc _)).mono ?_
        rintro e w2' ⟨rfl, rfl⟩
        go_wp2_with fail
        go_ret
        exact ⟨rfl, below_kept (k1.alloc _) (Nat.le_refl _)⟩
    · have hm' : (m : Int) > 40 := by omega
      clear hu hv h4 hsl hrl hdx hdy
      go_enter Try.func4, Try.ntmps4
      go_wp2_with fail
      refine hA.mono ?_
      rintro e w1 ⟨rfl, k1⟩
      go_wp2_with fail
      refine (hF w1).mono ?_
      rintro e w1' ⟨rfl, rfl⟩
      go_wp2_with fail
      go_ret
      exact ⟨rfl, below_kept (k1.alloc _) (Nat.le_refl _)⟩
  · have hF := fun W => lFew2 ao bo N M cap dap W false (decide_eq_false h4).symm
    clear hu hv h4 hsl hrl hdx hdy
    go_enter Try.func4, Try.ntmps4
    go_wp2_with fail
    refine hA.mono ?_
    rintro e w1 ⟨rfl, k1⟩
    go_wp2_with fail
    refine (hF w1).mono ?_
    rintro e w1' ⟨rfl, rfl⟩
    go_wp2_with fail
    go_ret
    exact ⟨rfl, below_kept (k1.alloc _) (Nat.le_refl _)⟩

end Go.Proofs.Ytnjmckfkfkalgab
