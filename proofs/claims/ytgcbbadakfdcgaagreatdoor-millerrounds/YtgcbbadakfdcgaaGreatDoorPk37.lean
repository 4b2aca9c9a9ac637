/- Put together of: Mir5 Law17 LMilRounds. -/
import Derived.Test.YtgcbbadakfdcgaaGreatDoorPk36

/- Package miller: Strong. -/
namespace Go.Proofs.YtgcbbadakfdcgaaGreatDoor
open Go.RowKit

set_option maxRecDepth 40000 in
set_option maxHeartbeats 4000000 in
/-- What Strong attempts. -/
theorem yStrong1 (ao bo : Option Addr) (L M cap dap bA bB bO : Nat) (xs ys : List Nat) (E : Nat) (R : Bool) (hE : E = strE (val 18446744073709551616 xs) (val 18446744073709551616 ys)) (hR : R = true ↔ E = 0 ∧ strongP (val 18446744073709551616 xs) (val 18446744073709551616 ys)) (w : World)
    (hu : Row .u64 w (.slice ao L cap) xs) (hv : Row .u64 w (.slice bo M dap) ys) (hdx : Digs 18446744073709551616 xs) (hdy : Digs 18446744073709551616 ys) (hLb : L ≤ 1000000)
    (hbA : Box w bA (.slice ao L cap) 24) (hbB : Box w bB (.slice bo M dap) 24) (hbO : Box w bO (.bool false) 4) :
    Calls Tryz.prog 27 #[.pointer (some ⟨bA, 0, none⟩), .pointer (some ⟨bB, 0, none⟩), .pointer (some ⟨bO, 0, none⟩)] w fun e w' =>
      (E = 0 ∧ e = .returned (.tuple #[]) ∧ ∃ w1, Kept Nought w w1 ∧ w' = w1.setCell ⟨bO, 0, none⟩ (.bool R)) ∨ (E ≠ 0 ∧ e = .panicked [refusal (E : Nat)] ∧ Kept Nought w w') := by
  obtain ⟨X, hX⟩ : ∃ X, X = val 18446744073709551616 xs := ⟨_, rfl⟩
  obtain ⟨A, hA⟩ : ∃ A, A = val 18446744073709551616 ys := ⟨_, rfl⟩
  rw [← hX, ← hA] at hE hR
  obtain ⟨O, hO⟩ : ∃ O, O = oddE X := ⟨_, rfl⟩
  have hRN := yRefuseNumber ao L cap xs O (by rw [hO, hX]) w hu hdx hLb
  have JA : Hid (∀ W, Kept Nought w W → W.cell? ⟨bA, 0, none⟩ = some (.slice ao L cap) ∧ W.cell? ⟨bB, 0, none⟩ = some (.slice bo M dap)) := fun W k => ⟨(hbA.grew k).cell, (hbB.grew k).cell⟩
  have JO : Hid (∀ W, Kept Nought w W → Box W bO (.bool false) 4) := fun W k => hbO.grew k
  have JX : Hid (∀ W, Kept Nought w W → Row .u64 W (.slice ao L cap) xs) := fun W k => hu.grew k
  have JY : Hid (∀ W, Kept Nought w W → Row .u64 W (.slice bo M dap) ys) := fun W k => hv.grew k
  obtain ⟨a0, a1⟩ := JA.out _ (Kept.refl Nought w)
  have HE := toHid hE
  have HR := toHid hR
  have HO := toHid hO
  have HX := toHid hX
  have HA := toHid hA
  clear hE hR hO hX hA hu hv hbA hbB hbO
  go_enter Tryz.func27, Tryz.ntmps27
  go_wp2_with fail
  refine hRN.mono ?_
  rintro e w1 ⟨⟨h0, rfl⟩ | ⟨h0, rfl⟩, rfl⟩
  · have hO0 : oddE X = 0 := by rw [← HO.out]; exact h0
    have hS := ySplit ao L cap xs X HX.out hO0 w1 (JX.out _ (Kept.refl _ _)) hdx hLb
    have HE2 : Hid (E = if A < 2 ∨ X - 1 ≤ A then 1 else 0) := by
      unfold Hid
      rw [HE.out, strE, hO0]
      simp
    clear hRN HO h0 HE hO0
    go_wp2_with fail
    refine hS.mono ?_
    rintro e w2 ⟨no, ro, lo, oo, n, mc, rc, lc, oc, K, s, rfl, hN, k2⟩
    obtain ⟨W3, hW3⟩ : ∃ W3, W3 = w2.alloc (.cells (numV no ro lo oo n mc rc lc oc K s) 53) := ⟨_, rfl⟩
    have k3 : Kept Nought w2 W3 := by rw [hW3]; exact (Kept.refl Nought w2).alloc _
    have hb3 : W3.heap[w2.heap.size]? = some (.cells (numV no ro lo oo n mc rc lc oc K s) 53 (0, 0)) := by rw [hW3]; exact heap_alloc_new _ _
    have JC : Hid (∀ W', Kept Nought W3 W' → W'.cell? ⟨w2.heap.size, 0, none⟩ = some (.slice no n mc) ∧ W'.cell? ⟨w2.heap.size, 1, none⟩ = some (.int .u64 (K : Nat)) ∧ W'.cell? ⟨w2.heap.size, 2, none⟩ = some (.slice ro n rc) ∧ W'.cell? ⟨w2.heap.size, 3, none⟩ = some (.slice lo n lc) ∧ W'.cell? ⟨w2.heap.size, 4, none⟩ = some (.slice oo n oc) ∧ W'.cell? ⟨w2.heap.size, 5, none⟩ = some (.int .i64 (s : Nat))) := fun W' k => cells6 ((k.block _ (lt_of_block hb3) (fun f => f)).trans hb3)
    have K3 := toHid (k2.trans k3)
    have HN := toHid (hN.grew k3)
    obtain ⟨p0, p1, p2, p3, p4, p5⟩ := JC.out _ (Kept.refl _ _)
    obtain ⟨q0, q1⟩ := JA.out _ K3.out
    have HW3 := toHid hW3
    have hX3 := hN.big
    have hM := yMay no ro lo oo bo n mc rc lc oc K s X M dap ys _ rfl W3 HN.out (JY.out _ K3.out) hdy
    rw [← HA.out] at hM
    unfold numV at HW3 hM ⊢
    clear hS hN k2 k3 hb3 hW3 a0 a1
    by_cases hin : 1 < A ∧ A < X - 1
    · rw [decide_eq_true hin] at hM
      have HE0 : Hid (E = 0) := by unfold Hid; rw [HE2.out, if_neg (by omega)]
      have HRS : Hid (R = true ↔ strongP X A) := by unfold Hid; rw [HR.out, HE0.out]; simp
      have hlt : A < X := by omega
      clear hin
      go_wp2_with (rw [← HW3.out])
      refine hM.mono ?_
      rintro e w4 ⟨rfl, k4⟩
      have hRf := yRefuseNo 1 w4
      clear hM p0 p1 p2 p3 p4 p5 q0 q1
      go_wp2_with fail
      refine hRf.mono ?_
      rintro e w5 ⟨rfl, rfl⟩
      obtain ⟨p0, p1, p2, p3, p4, p5⟩ := JC.out _ k4
      have K5 := K3.out.trans k4
      obtain ⟨q0, q1⟩ := JA.out _ K5
      have hP := yPasses no ro lo oo bo n mc rc lc oc K s X M dap A ys R HA.out hlt HRS.out w5 (HN.out.grew k4) (JY.out _ K5) hdy
      unfold numV at hP
      clear hRf
      go_wp2_with fail
      refine hP.mono ?_
      rintro e w6 ⟨rfl, k6⟩
      have K6 := K5.trans k6
      have hb6 := JO.out _ K6
      have c6 := hb6.cell
      have f6 := hb6.free
      have HK6 := toHid K6
      clear hP K5 K6 hb6 p0 p1 p2 p3 p4 p5 q0 q1
      go_wp2_with fail
      go_end0
      exact .inl ⟨HE0.out, rfl, w6, HK6.out, rfl⟩
    · rw [decide_eq_false hin] at hM
      have HE1 : Hid (E = 1) := by unfold Hid; rw [HE2.out, if_pos (by omega)]
      clear hin
      go_wp2_with (rw [← HW3.out])
      refine hM.mono ?_
      rintro e w4 ⟨rfl, k4⟩
      have hRf := yRefuseYes 1 w4
      clear hM p0 p1 p2 p3 p4 p5 q0 q1
      go_wp2_with fail
      refine hRf.mono ?_
      rintro e w5 ⟨rfl, rfl⟩
      exact ⟨rfl, .inr ⟨by rw [HE1.out]; omega, by rw [HE1.out]; rfl, K3.out.trans k4⟩⟩
  · have HEO : Hid (E = O) := by
      unfold Hid
      rw [HE.out, strE, ← HO.out, if_pos h0]
    exact ⟨rfl, .inr ⟨by rw [HEO.out]; exact h0, by rw [HEO.out], Kept.refl _ _⟩⟩

set_option maxRecDepth 20000 in
set_option maxHeartbeats 2000000 in
/-- Strong. -/
theorem yStrong (ao bo : Option Addr) (L M cap dap : Nat) (xs ys : List Nat) (E : Nat) (R : Bool) (hE : E = strE (val 18446744073709551616 xs) (val 18446744073709551616 ys)) (hR : R = true ↔ E = 0 ∧ strongP (val 18446744073709551616 xs) (val 18446744073709551616 ys)) (w : World)
    (hu : Row .u64 w (.slice ao L cap) xs) (hv : Row .u64 w (.slice bo M dap) ys) (hdx : Digs 18446744073709551616 xs) (hdy : Digs 18446744073709551616 ys) (hLb : L ≤ 1000000) (_ : M ≤ 1000000) :
    Calls Tryz.prog 11 #[.slice ao L cap, .slice bo M dap] w fun e w' => e = .returned (.tuple #[.bool R, .int .i64 (E : Int)]) ∧ Kept Nought w w' := by
  have hmf : ∀ (fn : Fn) (first cap : Array Value) (w : World), (Instr.makeFunc fn first cap).run Tryz.prog w = .ok (.func fn first cap) w := fun _ _ _ _ => rfl
  have he : ∀ args w, (callFunc 27 args).run Tryz.prog w = .ok (.enter 27 args) w := fun _ _ => by simp [go_sem]
  obtain ⟨W, hW⟩ : ∃ W, W = ((w.alloc (.cells #[.slice ao L cap] 24)).alloc (.cells #[.slice bo M dap] 24)).alloc (.cells #[.bool false] 4) := ⟨_, rfl⟩
  obtain ⟨k0, x0, x1, x2, hsz⟩ := boxes3 w (.slice ao L cap) (.slice bo M dap) (.bool false) 24 24 4
  rw [← hW] at k0 x0 x1 x2 hsz
  have k1 := k0.alloc (.cells #[.int .i64 0] 33)
  have xe := Box.new W (.int .i64 0) 33
  have h1 := yStrong1 ao bo L M cap dap w.heap.size (w.heap.size + 1) (w.heap.size + 1 + 1) xs ys E R hE hR _ (hu.grew k1) (hv.grew k1) hdx hdy hLb (x0.alloc _) (x1.alloc _) (x2.alloc _)
  have hAt := yAttempt 27 #[.pointer (some ⟨w.heap.size, 0, none⟩), .pointer (some ⟨w.heap.size + 1, 0, none⟩), .pointer (some ⟨w.heap.size + 1 + 1, 0, none⟩)] W
    (fun c W' => c = (E : Nat) ∧ Kept Nought w W' ∧ Box W' (w.heap.size + 1 + 1) (.bool R) 4) he (h1.mono (by
    rintro e w' (⟨h2, rfl, w1, kk, rfl⟩ | ⟨h2, rfl, kk⟩)
    · have hE1 := (kk.block _ xe.lt (fun f => f)).trans xe
      have kb := kept_box w1 (w.heap.size + 1 + 1) (.bool R)
      refine ⟨(kb.block _ (lt_of_block hE1) (by omega)).trans hE1, .inl ⟨rfl, by rw [h2]; rfl, kept_new (k1.trans kk) kb (by omega), ((x2.alloc _).grew kk).set _⟩⟩
    · have hE1 := (kk.block _ xe.lt (fun f => f)).trans xe
      have hRf : R = false := by
        cases hb : R with
        | false => rfl
        | true => exact absurd (hR.1 hb).1 h2
      refine ⟨hE1, .inr ⟨_, rfl, rfl, k1.trans kk, ?_⟩⟩
      rw [hRf]
      exact (x2.alloc _).grew kk))
  have HW := toHid hW
  have HSZ := toHid hsz
  clear h1 hu hv hdx hdy hLb hE hR hW k0 k1 x0 x1 x2 xe he hsz
  go_enter Tryz.func11, Tryz.ntmps11
  go_wp2_with (rw [← HW.out])
  refine hAt.mono ?_
  rintro e w' ⟨c, w1, rfl, ⟨⟨rfl, k2, hb⟩, hbe⟩, rfl⟩
  have k3 := kept_box w1 W.heap.size (.int .i64 (E : Nat))
  have hb3 : Box (w1.setCell ⟨W.heap.size, 0, none⟩ (.int .i64 (E : Nat))) (w.heap.size + 1 + 1) (.bool R) 4 := hb.other ⟨W.heap.size, 0, none⟩ (by have := HSZ.out; show w.heap.size + 1 + 1 ≠ W.heap.size; omega) _
  have k4 := k2.next k3 (fun x hx e => by have := HSZ.out; omega)
  generalize w1.setCell ⟨W.heap.size, 0, none⟩ (.int .i64 (E : Nat)) = w2 at *
  have c2 := hb3.cell
  have f2 := hb3.free
  have hb4 := hb3.set (.bool R)
  have c4 := hb4.cell
  have HK := toHid (kept_new k4 (kept_box w2 (w.heap.size + 1 + 1) (.bool R)) (by omega))
  clear hAt hb hb3 hb4 k2 k3 k4 hbe
  go_wp2_with fail
  exact bodyPost_ret (v := .tuple #[.bool R, .int .i64 (E : Nat)]) (by simp [results, Tryz.results11, go_sem, c4]) rfl ⟨rfl, HK.out⟩

end Go.Proofs.YtgcbbadakfdcgaaGreatDoor


/- What the laws of layer 17 ask first: Few, awake. -/
namespace Go.Proofs.YtgcbbadakfdcgaaGreatDoor
open Go.RowKit

set_option maxRecDepth 20000 in
set_option maxHeartbeats 1000000 in
/-- Few. -/
theorem f17Few (ao : Option Addr) (n cap : Nat) (A : Nat → Option Addr) (L C : Nat → Nat) (w : World) (hn : n ≤ 1000000000000) (R : Bool) (hR : R = decide (∀ i, i < n → L i ≤ 6 ∨ L i = 131)) (hc : Slots w ao n A L C) :
    Calls Tryz.prog 5 #[.slice ao n cap] w fun r w' => r = .returned (.bool R) ∧ w' = w := by
  have HR := toHid hR
  have HC := toHid hc
  clear hR hc
  go_enter Tryz.func5, Tryz.ntmps5
  go_wp2_with fail
  go_loop [7] (fun i => ∃ k : Nat, k ≤ n ∧ i = .int .i64 (k : Int) ∧ Hid (∀ j, j < k → L j ≤ 6 ∨ L j = 131)) (fun i => ((n : Int) - intOf i).toNat)
  case atStart => exact ⟨0, Nat.zero_le _, rfl, fun j hj => by omega⟩
  case round =>
    obtain ⟨k, hk, rfl, hall⟩ := hrel
    by_cases hkn : k < n
    · have hk1 : (k : Int) < (n : Int) := by omega
      obtain ⟨b, off, rfl, hcell⟩ := HC.out k hkn
      obtain ⟨ao, hao⟩ : ∃ ao, ao = A k := ⟨_, rfl⟩
      obtain ⟨len, hlen⟩ : ∃ len, len = L k := ⟨_, rfl⟩
      obtain ⟨cp, hcap⟩ : ∃ cap, cap = C k := ⟨_, rfl⟩
      rw [← hao, ← hlen, ← hcap] at hcell
      have HLen := toHid hlen
      clear hao hlen hcap
      by_cases h4 : len ≤ 6
      · have h4' : ¬ (len : Int) > 6 := by omega
        go_wp2_with fail
        go_round
        case rel => exact ⟨k + 1, by omega, by go_num, fun j hj => by
          by_cases e : j = k
          · subst e; rw [← HLen.out]; exact .inl h4
          · exact hall.out j (by omega)⟩
        case measure => simp [intOf]; omega
      · have h4' : (len : Int) > 6 := by omega
        by_cases h5 : len = 131
        · subst h5
          clear h4 h4'
          go_wp2_with fail
          go_round
          case rel => exact ⟨k + 1, by omega, by go_num, fun j hj => by
            by_cases e : j = k
            · subst e; exact .inr HLen.out.symm
            · exact hall.out j (by omega)⟩
          case measure => simp [intOf]; omega
        · have h5' : ¬ (len : Int) = 131 := by omega
          go_wp2_with fail
          go_ret
          refine ⟨?_, rfl⟩
          have : R = false := by
            rw [HR.out]
            exact decide_eq_false (fun h => by have := h k hkn; rw [← HLen.out] at this; omega)
          rw [this]; rfl
    · have hk1 : ¬ (k : Int) < (n : Int) := by omega
      have e : k = n := by omega
      subst e
      go_wp2_with fail
      go_ret
      refine ⟨?_, rfl⟩
      have : R = true := by
        rw [HR.out]
        exact decide_eq_true hall.out
      rw [this]; rfl

theorem few17a (ao : Option Addr) (L cap : Nat) (W : World) (R : Bool) (hR : R = decide (L ≤ 6 ∨ L = 131)) :
    Calls Tryz.prog 5 #[.slice (some ⟨W.heap.size, 0, none⟩) 1 1] (W.alloc (.cells #[.slice ao L cap] 24)) fun r w' => r = .returned (.bool R) ∧ w' = W.alloc (.cells #[.slice ao L cap] 24) := by
  refine f17Few (some ⟨W.heap.size, 0, none⟩) 1 1 (fun _ => ao) (fun _ => L) (fun _ => cap) _ (by omega) R ?_ ?_
  · rw [hR]
    exact decide_eq_decide.2 ⟨fun h i hi => h, fun h => h 0 (by omega)⟩
  · intro i hi
    refine ⟨_, _, rfl, ?_⟩
    obtain rfl : i = 0 := by omega
    exact (cell_of_row _ _ 0 _ _ _ (heap_alloc_new W _)).trans rfl

theorem row1m (W : World) (z : Nat) : Row .u64 (W.alloc (.cells #[.int .u64 (z : Nat)] 43)) (.slice (some ⟨W.heap.size, 0, none⟩) 1 1) [z] :=
  Row.of_own (base := W.heap.size) (e := 43) (World.ownsRow_lit W #[.int .u64 (z : Nat)] 1 (Nat.le_refl _) (by unfold maxLen; omega) rfl)

set_option maxRecDepth 20000 in
set_option maxHeartbeats 1000000 in
/-- A number and a base, each of one word, made on the spot. -/
theorem one17 (x a : Nat) (hx : x < 18446744073709551616) (ha : a < 18446744073709551616) (E : Nat) (R : Bool) (hE : strE x a = E) (hE0 : E = 0) (hR : strongB x a = R) (W : World) :
    Calls Tryz.prog 11 #[.slice (some ⟨W.heap.size, 0, none⟩) 1 1, .slice (some ⟨W.heap.size + 1, 0, none⟩) 1 1] ((W.alloc (.cells #[.int .u64 (x : Nat)] 43)).alloc (.cells #[.int .u64 (a : Nat)] 43)) fun e w' => e = .returned (.tuple #[.bool R, .int .i64 0]) ∧ Kept Nought W w' := by
  have e1 : val 18446744073709551616 [x] = x := by simp [val]
  have e2 : val 18446744073709551616 [a] = a := by simp [val]
  have h2 := row1m (W.alloc (.cells #[.int .u64 (x : Nat)] 43)) a
  rw [World.size_alloc] at h2
  have k1 := (Kept.refl Nought W).alloc (.cells #[.int .u64 (x : Nat)] 43)
  have k2 := k1.alloc (.cells #[.int .u64 (a : Nat)] 43)
  have k3 := (Kept.refl Nought (W.alloc (.cells #[.int .u64 (x : Nat)] 43))).alloc (.cells #[.int .u64 (a : Nat)] 43)
  refine (yStrong _ _ 1 1 1 1 [x] [a] E R (by rw [e1, e2]; exact hE.symm) (by rw [e1, e2, ← hR, strongB_iff]; simp [hE0]) _ ((row1m W x).grew k3) h2 (Digs.one hx) (Digs.one ha) (by omega) (by omega)).mono ?_
  rintro e w' ⟨rfl, k⟩
  exact ⟨by rw [hE0]; rfl, k2.trans k⟩

set_option maxRecDepth 20000 in
set_option maxHeartbeats 1000000 in
/-- awake. -/
theorem f17Awake (w : World) : Calls Tryz.prog 4 #[] w fun r w' => r = .returned (.bool true) ∧ Kept Nought w w' := by
  have h1 := one17 9 2 (by omega) (by omega) 0 false (by decide +kernel) rfl (by decide +kernel) w
  go_enter Tryz.func4, Tryz.ntmps4
  go_wp2_with fail
  refine h1.mono ?_
  rintro e w1 ⟨rfl, k1⟩
  have h2 := one17 2047 2 (by omega) (by omega) 0 true (by decide +kernel) rfl (by decide +kernel) w1
  have K1 := toHid k1
  clear h1 k1
  go_wp2_with fail
  refine h2.mono ?_
  rintro e w2 ⟨rfl, k2⟩
  have K2 := toHid (K1.out.trans k2)
  clear h2 k2
  go_wp2_with fail
  go_ret
  exact ⟨rfl, K2.out⟩

end Go.Proofs.YtgcbbadakfdcgaaGreatDoor


/- The walk of the statement on the test with bases of a script: it returns true for any bytes, any number and any count. -/
namespace Go.Proofs.YtgcbbadakfdcgaaGreatDoor
open Go.RowKit

theorem Bases.at {w : World} {base n L c : Nat} {qo : Option Addr} {acc : List (List Nat)} (h : Bases w base (.slice qo n c) L acc) {j : Nat} (hj : j < acc.length) : ∃ g o d, qo = some ⟨g, 0, none⟩ ∧ w.cell? ⟨g, j, none⟩ = some (.slice o L d) ∧ Row .u64 w (.slice o L d) (acc.getD j (List.replicate L 0)) := by
  obtain ⟨_, A, C, h2, h3⟩ := h
  have h4 := h2.2
  rcases h4 with ⟨_, e⟩ | ⟨g, cap, cur, e, _⟩
  · omega
  · cases e
    refine ⟨g, A j, C j, rfl, ?_, (h3 j hj).1⟩
    rw [World.ownsRow.cellAt h2 j (by omega), List.getElem?_map, List.getElem?_range hj]
    rfl

theorem Bases.short {w : World} {base L : Nat} {out : Value} {acc : List (List Nat)} (h : Bases w base out L acc) : acc.length ≤ 9223372036854775807 := by
  obtain ⟨_, A, C, h2, _⟩ := h
  rcases h2.2 with ⟨_, e⟩ | ⟨g, cap, cur, _, _, _, h3, h4, _⟩
  · omega
  · unfold maxLen at h4
    omega

set_option maxRecDepth 100000 in
set_option maxHeartbeats 4000000 in
theorem walkMillerRounds (u : Value) (bs : List Nat) (v : Value) (xs : List Nat) (k : Int) (w : World) (hu : Row .u8 w u bs) (hv : Row .u64 w v xs) (db : Digs 256 bs) (dx : Digs 18446744073709551616 xs) (hk : (Lit.int .i64 k).wf = true) (_ : NoTab w) :
    Calls Tryz.prog 3 #[u, v, .int .i64 k] w fun e w' => e = .returned (.bool true) ∧ Below w.heap.size w w' := by
  obtain ⟨hk0, hk1⟩ := bounds_i64 hk
  have HU := toHid hu
  have HV := toHid hv
  obtain ⟨uo, un, uc, rfl, hul, _⟩ := hu.open
  obtain ⟨vo, L, vc, rfl, hvl, _⟩ := hv.open
  have HUL := toHid hul.out
  have HVL := toHid hvl.out
  have HDB := toHid db
  have HDX := toHid dx
  have J0 := f17Awake w
  obtain ⟨r1, r2, r3, r4, hRN⟩ : ∃ r1 r2 r3 r4, rndAll xs k bs = (r1, r2, r3, r4) := ⟨_, _, _, _, rfl⟩
  have HRN := toHid hRN
  clear hu hv hul hvl db dx hk hRN
  by_cases hf : L ≤ 6 ∨ L = 131
  · have J1 := fun W => few17a vo L vc W true (decide_eq_true hf).symm
    have HJ1 := toHid J1
    have hLb : L ≤ 1000000 := by omega
    clear hf J1
    by_cases hb : 500 < un
    · have g1 : (un : Int) > 500 := by omega
      have g1' : (500 : Int) < (un : Int) := by omega
      go_enter Tryz.func3, Tryz.ntmps3
      go_wp2_with fail
      refine J0.mono ?_
      rintro e w1 ⟨rfl, k1⟩
      have k2 := k1.alloc (.cells #[.slice vo L vc] 24)
      have HK2 := toHid k2
      have J1 := HJ1.out w1
      clear J0 k1 k2
      go_wp2_with fail
      refine J1.mono ?_
      rintro e w2 ⟨rfl, rfl⟩
      clear J1
      go_wp2_with fail
      go_ret
      exact ⟨rfl, below_kept HK2.out (Nat.le_refl _)⟩
    have g1 : ¬ (un : Int) > 500 := by omega
    have g1' : ¬ (500 : Int) < (un : Int) := by omega
    have d1 : decide ((un : Int) > 500) = false := decide_eq_false g1
    have d1' : decide ((500 : Int) < (un : Int)) = false := decide_eq_false g1
    by_cases hkk : k > 8 ∧ k ≤ 100
    · obtain ⟨g2, g3⟩ := hkk
      go_enter Tryz.func3, Tryz.ntmps3
      go_wp2_with fail
      refine J0.mono ?_
      rintro e w1 ⟨rfl, k1⟩
      have k2 := k1.alloc (.cells #[.slice vo L vc] 24)
      have HK2 := toHid k2
      have J1 := HJ1.out w1
      clear J0 k1 k2
      go_wp2_with fail
      refine J1.mono ?_
      rintro e w2 ⟨rfl, rfl⟩
      clear J1
      go_wp2_with fail
      go_ret
      exact ⟨rfl, below_kept HK2.out (Nat.le_refl _)⟩
    have key : (k > 8 ∧ ¬ k ≤ 100) ∨ ¬ k > 8 := by
      by_cases g2 : k > 8
      · exact .inl ⟨g2, fun h => hkk ⟨g2, h⟩⟩
      · exact .inr g2
    clear hkk
    rcases key with ⟨g2, g3⟩ | g2
    all_goals
      go_enter Tryz.func3, Tryz.ntmps3
      go_wp2_with fail
      refine J0.mono ?_
      rintro e w1 ⟨rfl, k1⟩
      have k2 := k1.alloc (.cells #[.slice vo L vc] 24)
      have HK2 := toHid k2
      have J1 := HJ1.out w1
      clear J0 k1 k2
      go_wp2_with fail
      refine J1.mono ?_
      rintro e w2 ⟨rfl, rfl⟩
      obtain ⟨W2, hW2⟩ : ∃ W2, W2 = w1.alloc (.cells #[.slice vo L vc] 24) := ⟨_, rfl⟩
      rw [← hW2] at HK2 ⊢
      have J2 := xNew _ _ W2 (HU.out.grew HK2.out) (by have := HUL.out; omega)
      clear J1 hW2
      go_wp2_with fail
      refine J2.mono ?_
      rintro e w3 ⟨g, rfl, hg, hs3, k3⟩
      have HK3 := toHid (HK2.out.trans k3)
      obtain ⟨W4, hW4⟩ : ∃ W4, W4 = w3.alloc (.cells #[.slice uo un uc] 31) := ⟨_, rfl⟩
      have k4 : Kept Nought w3 W4 := by rw [hW4]; exact (Kept.refl Nought w3).alloc _
      have hR4 : ScrAt W4 w3.heap.size (w3.heap.size + 1) bs := by rw [hW4]; exact scrNew (HU.out.grew HK3.out)
      have hsz4 : W4.heap.size = w3.heap.size + 1 := by rw [hW4]; simp
      have HK4 := toHid (HK3.out.trans k4)
      have hs4 := hs3.grew k4
      have hB4 : w3.heap.size ≤ W4.heap.size := by omega
      have HW4 := toHid hW4
      have J3 := yRounds vo (some ⟨g, 0, none⟩) L vc w3.heap.size k xs bs r1 r2 r3 r4 HRN.out hk0 hk1 W4 (HV.out.grew HK4.out) HDX.out hLb hs4 hB4 HDB.out
      have HG : Hid (w.heap.size ≤ g ∧ w.heap.size ≤ w3.heap.size) := ⟨Nat.le_trans HK2.out.size hg, HK3.out.size⟩
      have HS4 := toHid hs4
      have HR4 := toHid hR4
      have HSZ4 := toHid hsz4
      clear J2 k3 k4 hs3 hs4 hR4 hB4 hW4 hsz4
      go_wp2_with (rw [← HW4.out])
      refine J3.mono ?_
      rintro e w5 ⟨lv, rfl, hbs5, hs5, k5⟩
      have hR5 := HR4.out.other HS4.out k5
      have hV5 : Row .u64 w5 (.slice vo L vc) xs := (HV.out.grew HK4.out).kept' k5 (fun hne => HS4.out.apart (HV.out.grew HK4.out) hne)
      have J4 := r16Rounds w3.heap.size (w3.heap.size + 1) bs xs vo L vc k r1 r2 r3 r4 HRN.out hk0 hk1 w5 hR5 (by have h1 := k5.size; have h2 := HSZ4.out; omega) HDB.out (by have := HUL.out; omega) hV5 HDX.out hLb
      have K5 : Hid (Kept Nought w w5) := HK4.out.next k5 (fun y hy f => by have h1 := ofP_some f; have h2 := HG.out; omega)
      have HZ5 := toHid k5.size
      obtain ⟨lo, lc, rfl⟩ := hbs5.slice
      have HB5 := toHid hbs5
      have HS5 := toHid hs5
      have HR5 := toHid hR5
      clear J3 hbs5 hs5 hR5 hV5 k5
      generalize hln : r2.length = ln at *
      have HLN := toHid hln
      clear hln
      go_wp2_with fail
      refine J4.mono ?_
      rintro e w6 ⟨mv, rfl, hbs6, hR6, k6⟩
      obtain ⟨mo, mc, rfl⟩ := hbs6.slice
      rw [HLN.out] at hbs6 ⊢
      have HB6 := toHid hbs6
      have HA6 := toHid (HB5.out.keptS k6 (fun y hy e => by have e' : y = w3.heap.size := e; have h2 := HSZ4.out; omega) (fun v zs hr hne y hy e => scr_apart HR5.out hr hne y hy e))
      have hs6 := HS5.out.plain HR5.out k6
      have K6 : Hid (Kept Nought w w6) := K5.out.next k6 (fun y hy f => by have f' : y = w3.heap.size := f; have h2 := HG.out; omega)
      have JL := toHid fun nq => xLeftD (some ⟨g, 0, none⟩) w3.heap.size r4 (w6.drewN nq) (hs6.grew ((Kept.refl _ _).drewN nq))
      obtain ⟨rv, hrv, _⟩ := hR6
      have cr := hrv.cell
      obtain ⟨ro, rn, rc', rfl, hrn, _⟩ := hrv.2.1.open
      have hrn' := hrn.out
      rw [hrn'] at JL
      clear J4 hbs6 hs6 hrv hrn hrn' k6 HB5 HS5 HR5 HS4 HR4
      have hb1 : (r1 != r1) = false := by simp
      go_wp2_with fail
      go_quiet ((go_at_call 9; exact Calls.quiet_of (JL.out _)))
      go_wp2_with fail
      have hlnb : ln ≤ 9223372036854775807 := by rw [← HLN.out]; exact HB6.out.short
      clear cr JL hb1
      go_loopw [85] (fun iv wr => ∃ j : Nat, j ≤ ln ∧ iv = .int .i64 (j : Int) ∧ Hid (Kept Nought w6 wr)) (fun iv _ => ln - (intOf iv).toNat)
      case atStart => exact ⟨0, Nat.zero_le _, rfl, (Kept.refl _ _).drewN _⟩
      case round =>
        obtain ⟨j, hj, rfl, hkj⟩ := hrel
        by_cases hjn : j < ln
        · have g4 : (j : Int) < (ln : Int) := by omega
          have g0 : (0 : Int) ≤ (j : Int) := by omega
          have hjl : j < r2.length := by rw [HLN.out]; exact hjn
          obtain ⟨y1, o1, d3, rfl, c1, hr1⟩ := (HA6.out.grew hkj.out).at hjl
          obtain ⟨y2, o2, d4, rfl, c2, hr2⟩ := (HB6.out.grew hkj.out).at hjl
          have JS := toHid fun nq => rSame _ _ _ _ (wr.drewN nq) (hr1.grew ((Kept.refl _ _).drewN nq)) (hr2.grew ((Kept.refl _ _).drewN nq))
          rw [decide_eq_true rfl] at JS
          clear hjl hr1 hr2
          go_wp2_with fail
          go_quiet ((go_at_call 10; exact Calls.quiet_of (JS.out _)))
          go_wp2_with fail
          go_roundw
          case rel => exact ⟨j + 1, by omega, by go_num, hkj.out.drewN _⟩
          case measure => simp [intOf]; omega
        · have g4 : ¬ (j : Int) < (ln : Int) := by omega
          go_wp2_with fail
          go_ret
          exact ⟨rfl, below_kept (K6.out.trans hkj.out) (Nat.le_refl _)⟩
  · have J1 := fun W => few17a vo L vc W false (decide_eq_false hf).symm
    go_enter Tryz.func3, Tryz.ntmps3
    go_wp2_with fail
    refine J0.mono ?_
    rintro e w1 ⟨rfl, k1⟩
    have k2 := k1.alloc (.cells #[.slice vo L vc] 24)
    have HK2 := toHid k2
    have j1 := J1 w1
    clear J0 k1 k2 J1
    go_wp2_with fail
    refine j1.mono ?_
    rintro e w2 ⟨rfl, rfl⟩
    clear j1
    go_wp2_with fail
    go_ret
    exact ⟨rfl, below_kept HK2.out (Nat.le_refl _)⟩

end Go.Proofs.YtgcbbadakfdcgaaGreatDoor

