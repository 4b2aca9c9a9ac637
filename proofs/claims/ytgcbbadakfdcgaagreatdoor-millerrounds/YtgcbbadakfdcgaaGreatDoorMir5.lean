/- Package miller: Strong. -/
import Derived.Test.YtgcbbadakfdcgaaGreatDoorMir4
namespace Go.Proofs.YtgcbbadakfdcgaaGreatDoor
open Go.RowKit

set_option maxRecDepth 40000 in
set_option maxHeartbeats 4000000 in
/-- What Strong attempts. -/
theorem yStrong1 (ao bo : Option Addr) (L M cap dap bA bB bO : Nat) (xs ys : List Nat) (E : Nat) (R : Bool) (hE : E = strE (val 18446744073709551616 xs) (val 18446744073709551616 ys)) (hR : R = true ↔ E = 0 ∧ strongP (val 18446744073709551616 xs) (val 18446744073709551616 ys)) (w : World)
    (hu : Row .u64 w (.slice ao L cap) xs) (hv : Row .u64 w (.slice bo M dap) ys) (hdx : Digs 18446744073709551616 xs) (hdy : Digs 18446744073709551616 ys) (hLb : L ≤ 1000000)
    (hbA : Box w bA (.slice ao L cap) 24) (hbB : Box w bB (.slice bo M dap) 24) (hbO : Box w bO (.bool false) 4) :
    Calls Tryz.prog 27 #[.pointer (some ⟨bA, 0, none⟩), .pointer (some ⟨bB, 0, none⟩), .pointer (some ⟨bO, 0, none⟩)] w fun e w' =>
      (E = 0 ∧ e = .returned (.tuple #[]) ∧ ∃ w1, Kept Nought w w1 ∧ w' = w1.setCell ⟨bO, 0, none⟩ (.bool R)) ∨ (E ≠ 0 ∧ e = .panicked [refusal (E : Nat)] ∧ Kept Nought w w') := by
  obtain ⟨X, hX⟩ : ∃ X, X = val 18446744073709551616 xs := ⟨_, rfl⟩
  obtain ⟨A, hA⟩ : ∃ A, A = val 18446744073709551616 ys := ⟨_, rfl⟩
  rw [← hX, ← hA] at hE hR
  obtain ⟨O, hO⟩ : ∃ O, O = oddE X := ⟨_, rfl⟩
  have hRN := yRefuseNumber ao L cap xs O (by rw [hO, hX]) w hu hdx hLb
  have JA : Hid (∀ W, Kept Nought w W → W.cell? ⟨bA, 0, none⟩ = some (.slice ao L cap) ∧ W.cell? ⟨bB, 0, none⟩ = some (.slice bo M dap)) := fun W k => ⟨(hbA.grew k).cell, (hbB.grew k).cell⟩
  have JO : Hid (∀ W, Kept Nought w W → Box W bO (.bool false) 4) := fun W k => hbO.grew k
  have JX : Hid (∀ W, Kept Nought w W → Row .u64 W (.slice ao L cap) xs) := fun W k => hu.grew k
  have JY : Hid (∀ W, Kept Nought w W → Row .u64 W (.slice bo M dap) ys) := fun W k => hv.grew k
  obtain ⟨a0, a1⟩ := JA.out _ (Kept.refl Nought w)
  have HE := toHid hE
  have HR := toHid hR
  have HO := toHid hO
  have HX := toHid hX
  have HA := toHid hA
  clear hE hR hO hX hA hu hv hbA hbB hbO
  go_enter Tryz.func27, Tryz.ntmps27
  go_wp2_with fail
  refine hRN.mono ?_
  rintro e w1 ⟨⟨h0, rfl⟩ | ⟨h0, rfl⟩, rfl⟩
  · have hO0 : oddE X = 0 := by rw [← HO.out]; exact h0
    have hS := ySplit ao L cap xs X HX.out hO0 w1 (JX.out _ (Kept.refl _ _)) hdx hLb
    have HE2 : Hid (E = if A < 2 ∨ X - 1 ≤ A then 1 else 0) := by
      unfold Hid
      rw [HE.out, strE, hO0]
      simp
    clear hRN HO h0 HE hO0
    go_wp2_with fail
    refine hS.mono ?_
    rintro e w2 ⟨no, ro, lo, oo, n, mc, rc, lc, oc, K, s, rfl, hN, k2⟩
    obtain ⟨W3, hW3⟩ : ∃ W3, W3 = w2.alloc (.cells (numV no ro lo oo n mc rc lc oc K s) 53) := ⟨_, rfl⟩
    have k3 : Kept Nought w2 W3 := by rw [hW3]; exact (Kept.refl Nought w2).alloc _
    have hb3 : W3.heap[w2.heap.size]? = some (.cells (numV no ro lo oo n mc rc lc oc K s) 53 (0, 0)) := by rw [hW3]; exact heap_alloc_new _ _
    have JC : Hid (∀ W', Kept Nought W3 W' → W'.cell? ⟨w2.heap.size, 0, none⟩ = some (.slice no n mc) ∧ W'.cell? ⟨w2.heap.size, 1, none⟩ = some (.int .u64 (K : Nat)) ∧ W'.cell? ⟨w2.heap.size, 2, none⟩ = some (.slice ro n rc) ∧ W'.cell? ⟨w2.heap.size, 3, none⟩ = some (.slice lo n lc) ∧ W'.cell? ⟨w2.heap.size, 4, none⟩ = some (.slice oo n oc) ∧ W'.cell? ⟨w2.heap.size, 5, none⟩ = some (.int .i64 (s : Nat))) := fun W' k => cells6 ((k.block _ (lt_of_block hb3) (fun f => f)).trans hb3)
    have K3 := toHid (k2.trans k3)
    have HN := toHid (hN.grew k3)
    obtain ⟨p0, p1, p2, p3, p4, p5⟩ := JC.out _ (Kept.refl _ _)
    obtain ⟨q0, q1⟩ := JA.out _ K3.out
    have HW3 := toHid hW3
    have hX3 := hN.big
    have hM := yMay no ro lo oo bo n mc rc lc oc K s X M dap ys _ rfl W3 HN.out (JY.out _ K3.out) hdy
    rw [← HA.out] at hM
    unfold numV at HW3 hM ⊢
    clear hS hN k2 k3 hb3 hW3 a0 a1
    by_cases hin : 1 < A ∧ A < X - 1
    · rw [decide_eq_true hin] at hM
      have HE0 : Hid (E = 0) := by unfold Hid; rw [HE2.out, if_neg (by omega)]
      have HRS : Hid (R = true ↔ strongP X A) := by unfold Hid; rw [HR.out, HE0.out]; simp
      have hlt : A < X := by omega
      clear hin
      go_wp2_with (rw [← HW3.out])
      refine hM.mono ?_
      rintro e w4 ⟨rfl, k4⟩
      have hRf := yRefuseNo 1 w4
      clear hM p0 p1 p2 p3 p4 p5 q0 q1
      go_wp2_with fail
      refine hRf.mono ?_
      rintro e w5 ⟨rfl, rfl⟩
      obtain ⟨p0, p1, p2, p3, p4, p5⟩ := JC.out _ k4
      have K5 := K3.out.trans k4
      obtain ⟨q0, q1⟩ := JA.out _ K5
      have hP := yPasses no ro lo oo bo n mc rc lc oc K s X M dap A ys R HA.out hlt HRS.out w5 (HN.out.grew k4) (JY.out _ K5) hdy
      unfold numV at hP
      clear hRf
      go_wp2_with fail
      refine hP.mono ?_
      rintro e w6 ⟨rfl, k6⟩
      have K6 := K5.trans k6
      have hb6 := JO.out _ K6
      have c6 := hb6.cell
      have f6 := hb6.free
      have HK6 := toHid K6
      clear hP K5 K6 hb6 p0 p1 p2 p3 p4 p5 q0 q1
      go_wp2_with fail
      go_end0
      exact .inl ⟨HE0.out, rfl, w6, HK6.out, rfl⟩
    · rw [decide_eq_false hin] at hM
      have HE1 : Hid (E = 1) := by unfold Hid; rw [HE2.out, if_pos (by omega)]
      clear hin
      go_wp2_with (rw [← HW3.out])
      refine hM.mono ?_
      rintro e w4 ⟨rfl, k4⟩
      have hRf := yRefuseYes 1 w4
      clear hM p0 p1 p2 p3 p4 p5 q0 q1
      go_wp2_with fail
      refine hRf.mono ?_
      rintro e w5 ⟨rfl, rfl⟩
      exact ⟨rfl, .inr ⟨by rw [HE1.out]; omega, by rw [HE1.out]; rfl, K3.out.trans k4⟩⟩
  · have HEO : Hid (E = O) := by
      unfold Hid
      rw [HE.out, strE, ← HO.out, if_pos h0]
    exact ⟨rfl, .inr ⟨by rw [HEO.out]; exact h0, by rw [HEO.out], Kept.refl _ _⟩⟩

set_option maxRecDepth 20000 in
set_option maxHeartbeats 2000000 in
/-- Strong. -/
theorem yStrong (ao bo : Option Addr) (L M cap dap : Nat) (xs ys : List Nat) (E : Nat) (R : Bool) (hE : E = strE (val 18446744073709551616 xs) (val 18446744073709551616 ys)) (hR : R = true ↔ E = 0 ∧ strongP (val 18446744073709551616 xs) (val 18446744073709551616 ys)) (w : World)
    (hu : Row .u64 w (.slice ao L cap) xs) (hv : Row .u64 w (.slice bo M dap) ys) (hdx : Digs 18446744073709551616 xs) (hdy : Digs 18446744073709551616 ys) (hLb : L ≤ 1000000) (_ : M ≤ 1000000) :
    Calls Tryz.prog 11 #[.slice ao L cap, .slice bo M dap] w fun e w' => e = .returned (.tuple #[.bool R, .int .i64 (E : Int)]) ∧ Kept Nought w w' := by
  have hmf : ∀ (fn : Fn) (first cap : Array Value) (w : World), (Instr.makeFunc fn first cap).run Tryz.prog w = .ok (.func fn first cap) w := fun _ _ _ _ => rfl
  have he : ∀ args w, (callFunc 27 args).run Tryz.prog w = .ok (.enter 27 args) w := fun _ _ => by simp [go_sem]
  obtain ⟨W, hW⟩ : ∃ W, W = ((w.alloc (.cells #[.slice ao L cap] 24)).alloc (.cells #[.slice bo M dap] 24)).alloc (.cells #[.bool false] 4) := ⟨_, rfl⟩
  obtain ⟨k0, x0, x1, x2, hsz⟩ := boxes3 w (.slice ao L cap) (.slice bo M dap) (.bool false) 24 24 4
  rw [← hW] at k0 x0 x1 x2 hsz
  have k1 := k0.alloc (.cells #[.int .i64 0] 33)
  have xe := Box.new W (.int .i64 0) 33
  have h1 := yStrong1 ao bo L M cap dap w.heap.size (w.heap.size + 1) (w.heap.size + 1 + 1) xs ys E R hE hR _ (hu.grew k1) (hv.grew k1) hdx hdy hLb (x0.alloc _) (x1.alloc _) (x2.alloc _)
  have hAt := yAttempt 27 #[.pointer (some ⟨w.heap.size, 0, none⟩), .pointer (some ⟨w.heap.size + 1, 0, none⟩), .pointer (some ⟨w.heap.size + 1 + 1, 0, none⟩)] W
    (fun c W' => c = (E : Nat) ∧ Kept Nought w W' ∧ Box W' (w.heap.size + 1 + 1) (.bool R) 4) he (h1.mono (by
    rintro e w' (⟨h2, rfl, w1, kk, rfl⟩ | ⟨h2, rfl, kk⟩)
    · have hE1 := (kk.block _ xe.lt (fun f => f)).trans xe
      have kb := kept_box w1 (w.heap.size + 1 + 1) (.bool R)
      refine ⟨(kb.block _ (lt_of_block hE1) (by omega)).trans hE1, .inl ⟨rfl, by rw [h2]; rfl, kept_new (k1.trans kk) kb (by omega), ((x2.alloc _).grew kk).set _⟩⟩
    · have hE1 := (kk.block _ xe.lt (fun f => f)).trans xe
      have hRf : R = false := by
        cases hb : R with
        | false => rfl
        | true => exact absurd (hR.1 hb).1 h2
      refine ⟨hE1, .inr ⟨_, rfl, rfl, k1.trans kk, ?_⟩⟩
      rw [hRf]
      exact (x2.alloc _).grew kk))
  have HW := toHid hW
  have HSZ := toHid hsz
  clear h1 hu hv hdx hdy hLb hE hR hW k0 k1 x0 x1 x2 xe he hsz
  go_enter Tryz.func11, Tryz.ntmps11
  go_wp2_with (rw [← HW.out])
  refine hAt.mono ?_
  rintro e w' ⟨c, w1, rfl, ⟨⟨rfl, k2, hb⟩, hbe⟩, rfl⟩
  have k3 := kept_box w1 W.heap.size (.int .i64 (E : Nat))
  have hb3 : Box (w1.setCell ⟨W.heap.size, 0, none⟩ (.int .i64 (E : Nat))) (w.heap.size + 1 + 1) (.bool R) 4 := hb.other ⟨W.heap.size, 0, none⟩ (by have := HSZ.out; show w.heap.size + 1 + 1 ≠ W.heap.size; omega) _
  have k4 := k2.next k3 (fun x hx e => by have := HSZ.out; omega)
  generalize w1.setCell ⟨W.heap.size, 0, none⟩ (.int .i64 (E : Nat)) = w2 at *
  have c2 := hb3.cell
  have f2 := hb3.free
  have hb4 := hb3.set (.bool R)
  have c4 := hb4.cell
  have HK := toHid (kept_new k4 (kept_box w2 (w.heap.size + 1 + 1) (.bool R)) (by omega))
  clear hAt hb hb3 hb4 k2 k3 k4 hbe
  go_wp2_with fail
  exact bodyPost_ret (v := .tuple #[.bool R, .int .i64 (E : Nat)]) (by simp [results, Tryz.results11, go_sem, c4]) rfl ⟨rfl, HK.out⟩

end Go.Proofs.YtgcbbadakfdcgaaGreatDoor
