/- Put together of: Shc8. -/
import Derived.Test.YthnkganmccgaeaaDoorPk9

/- Package sha512: digested, Sum, Sum384. -/
namespace Go.Proofs.YthnkganmccgaeaaDoor
open Go.RowKit

/-- The state that comes of s by bytes and what stands behind them. -/
def digM (s bs : List Nat) : List Nat := blksM s (bs ++ padM bs.length) ((bs ++ padM bs.length).length / 128)

set_option maxRecDepth 40000 in
set_option maxHeartbeats 4000000 in
/-- digested, of nil. -/
theorem mDigestedN (s : List Nat) (sv : Array Value) (hsv : sv = (s.map fun z => Value.int .u64 (z : Nat)).toArray) (hs : s.length = 8) (hsd : Digs 18446744073709551616 s) (w : World) (hT : Tab12 w) :
    Calls Tryd.prog 31 #[.agg sv, .slice none 0 0] w fun e w' => e = .returned (.agg ((digM s []).map fun z => Value.int .u64 (z : Nat)).toArray) ∧ Kept Nought w w' := by
  obtain ⟨s0, s1, s2, s3, s4, s5, s6, s7, hsl⟩ : ∃ s0 s1 s2 s3 s4 s5 s6 s7, s = [s0, s1, s2, s3, s4, s5, s6, s7] := by
    match s, hs with
    | [a, b, c, d, e, f, g, h'], _ => exact ⟨a, b, c, d, e, f, g, h', rfl⟩
  have e0 : sv = #[.int .u64 (s0 : Int), .int .u64 (s1 : Int), .int .u64 (s2 : Int), .int .u64 (s3 : Int), .int .u64 (s4 : Int), .int .u64 (s5 : Int), .int .u64 (s6 : Int), .int .u64 (s7 : Int)] := by rw [hsv, hsl]; rfl
  subst e0
  clear hsv
  obtain ⟨bs, hbs⟩ : ∃ bs : List Nat, bs = [] := ⟨_, rfl⟩
  have hb : Row .u8 w (.slice none 0 0) bs := by rw [hbs]; exact Row.nil _ _
  have hbd : Digs 256 bs := by rw [hbs]; exact Digs.nil _
  have hLb : Hid (bs.length = 0) := by rw [hbs]; rfl
  have hrest : ∀ W, Kept Nought w W → Row .u8 W (.slice none 0 0) (bs.drop 0) := fun W k => hb.grew k
  have hM : 0 = 128 * 0 := rfl
  have hh8 := hs_digsM (s := s) (all := bs.take 0) hs hsd 0
  obtain ⟨st, hst⟩ : ∃ st, st = blksM s (bs.take 0) 0 := ⟨_, rfl⟩
  rw [← hst] at hh8
  obtain ⟨x0, x1, x2, x3, x4, x5, x6, x7, hxx⟩ : ∃ x0 x1 x2 x3 x4 x5 x6 x7, st = [x0, x1, x2, x3, x4, x5, x6, x7] := by
    match st, hh8.2 with
    | [a, b, c, d, e, f, g, h'], _ => exact ⟨a, b, c, d, e, f, g, h', rfl⟩
  obtain ⟨W, hW⟩ : ∃ W, W = (w.alloc (.cells #[.int .u64 (s0 : Int), .int .u64 (s1 : Int), .int .u64 (s2 : Int), .int .u64 (s3 : Int), .int .u64 (s4 : Int), .int .u64 (s5 : Int), .int .u64 (s6 : Int), .int .u64 (s7 : Int)] 50)).alloc (.cells #[.int .u64 0, .int .u64 0, .int .u64 0, .int .u64 0, .int .u64 0, .int .u64 0, .int .u64 0, .int .u64 0] 50) := ⟨_, rfl⟩
  have k0 : Kept Nought w W := by rw [hW]; exact ((Kept.refl Nought w).alloc _).alloc _
  have hS0 : Arr .u64 50 W w.heap.size [s0, s1, s2, s3, s4, s5, s6, s7] := by
    rw [hW]
    exact heapAt_alloc (heap_alloc_new w _)
  have hO0 : Arr .u64 50 W (w.heap.size + 1) [0, 0, 0, 0, 0, 0, 0, 0] := by
    rw [hW]
    have := heap_alloc_new (w.alloc (.cells #[.int .u64 (s0 : Int), .int .u64 (s1 : Int), .int .u64 (s2 : Int), .int .u64 (s3 : Int), .int .u64 (s4 : Int), .int .u64 (s5 : Int), .int .u64 (s6 : Int), .int .u64 (s7 : Int)] 50)) (.cells #[.int .u64 0, .int .u64 0, .int .u64 0, .int .u64 0, .int .u64 0, .int .u64 0, .int .u64 0, .int .u64 0] 50)
    rwa [show (w.alloc (.cells #[.int .u64 (s0 : Int), .int .u64 (s1 : Int), .int .u64 (s2 : Int), .int .u64 (s3 : Int), .int .u64 (s4 : Int), .int .u64 (s5 : Int), .int .u64 (s6 : Int), .int .u64 (s7 : Int)] 50)).heap.size = w.heap.size + 1 by simp] at this
  have JH : Hid (∀ W', Kept Nought W W' → Calls Tryd.prog 43 #[.agg #[.int .u64 (s0 : Int), .int .u64 (s1 : Int), .int .u64 (s2 : Int), .int .u64 (s3 : Int), .int .u64 (s4 : Int), .int .u64 (s5 : Int), .int .u64 (s6 : Int), .int .u64 (s7 : Int)], .slice none 0 0] W' fun e w' => e = .returned (.agg #[.int .u64 (x0 : Int), .int .u64 (x1 : Int), .int .u64 (x2 : Int), .int .u64 (x3 : Int), .int .u64 (x4 : Int), .int .u64 (x5 : Int), .int .u64 (x6 : Int), .int .u64 (x7 : Int)]) ∧ Kept Nought W w') := fun W' k => by
    have := mHashed none 0 0 0 s (bs.take 0) #[.int .u64 (s0 : Int), .int .u64 (s1 : Int), .int .u64 (s2 : Int), .int .u64 (s3 : Int), .int .u64 (s4 : Int), .int .u64 (s5 : Int), .int .u64 (s6 : Int), .int .u64 (s7 : Int)] (by rw [hsl]; rfl) W' (hT.grew (k0.trans k)) hs hsd ((hb.grew (k0.trans k)).cut (by have := hLb.out; omega)) (hbd.take 0) hM (by omega)
    rw [← hst, hxx] at this
    refine this.mono ?_
    rintro e w' ⟨rfl, k'⟩
    exact ⟨rfl, k.trans k'⟩
  obtain ⟨all, hall⟩ : ∃ all, all = bs.drop 0 ++ padM 0 := ⟨_, rfl⟩
  obtain ⟨M2, hM2⟩ : ∃ M2, all.length = 128 * M2 := ⟨all.length / 128, by
    have h1 := all_blocksM 0
    have h2 := hLb.out
    rw [hall, List.length_append, List.length_drop, h2]
    omega⟩
  have hpl := padM_length 0
  have hpz : padZM 0 < 128 := Nat.mod_lt _ (by omega)
  have hRN : (bs.drop 0).length = 0 := by have := hLb.out; rw [List.length_drop]; omega
  have hall2 : all.length ≤ 2000000 := by
    have h2 := hLb.out
    rw [hall, List.length_append, List.length_drop, h2]
    omega
  have hald : Digs 256 all := by rw [hall]; exact (hbd.drop 0).append (padM_digs 0)
  obtain ⟨sf, hsf⟩ : ∃ sf, sf = blksM st all M2 := ⟨_, rfl⟩
  have hf8 := hs_digsM (s := st) (all := all) hh8.2 hh8.1 M2
  rw [← hsf] at hf8
  have HSum : Hid (digM s bs = sf) := by
    unfold Hid digM
    have hle : bs.length = 0 := hLb.out
    have e1 : bs ++ padM 0 = bs.take 0 ++ all := by rw [hall, ← List.append_assoc, List.take_append_drop]
    have e2 : (bs.take 0).length = 0 := by rw [List.length_take, hle]; omega
    rw [hle, e1, List.length_append, e2, hM2, show (0 + 128 * M2) / 128 = 0 + M2 by omega, hs_moreM, ← hs_takeM s (bs.take 0 ++ all) 0 0 (by omega), List.take_left' e2, ← hst, show 128 * 0 = 0 by omega, List.drop_left' e2, hsf]
  obtain ⟨y0, y1, y2, y3, y4, y5, y6, y7, hyy⟩ : ∃ y0 y1 y2 y3 y4 y5 y6 y7, sf = [y0, y1, y2, y3, y4, y5, y6, y7] := by
    match sf, hf8.2 with
    | [a, b, c, d, e, f, g, h'], _ => exact ⟨a, b, c, d, e, f, g, h', rfl⟩
  obtain ⟨pn, hpn⟩ : ∃ pn, pn = (padM 0).length := ⟨_, rfl⟩
  have JP : Hid (∀ W', Calls Tryd.prog 44 #[.int .i64 (0 : Int)] W' fun e w' => ∃ (ad : Addr) (pc : Nat), e = .returned (.slice (some ad) pn pc) ∧ Row .u8 w' (.slice (some ad) pn pc) (padM 0) ∧ Kept Nought W' w') := fun W' => by
    refine (mPad (0 : Int) 0 (by omega) (by simp) W').mono ?_
    rintro e w' ⟨v', rfl, h1, h2⟩
    obtain ⟨po, qn, pc, rfl, hLp, _, _, _, hnp⟩ := h1.row.open
    obtain rfl : qn = pn := by rw [hpn]; exact hLp.out.symm
    obtain ⟨pb, poff, e2, _⟩ := hnp 0 (by omega)
    cases e2
    exact ⟨_, _, rfl, h1.row, h2⟩
  have JK : Hid (∀ (W' : World) (pd : Addr) (pc : Nat), Kept Nought w W' → Row .u8 W' (.slice (some pd) pn pc) (padM 0) → Calls Tryd.prog 22 #[.slice (some ⟨W'.heap.size, 0, none⟩) 2 2] (W'.alloc (.cells #[.slice none 0 0, .slice (some pd) pn pc] 22)) fun e w' => ∃ (fo : Option Addr) (fc : Nat), e = .returned (.slice fo all.length fc) ∧ Row .u8 w' (.slice fo all.length fc) all ∧ Kept Nought W' w') := fun W' pd pc k hr => by
    have ka := (Kept.refl Nought W').alloc (.cells #[.slice none 0 0, .slice (some pd) pn pc] 22)
    have hn0 := heap_alloc_new W' (.cells #[.slice none 0 0, .slice (some pd) pn pc] 22)
    refine (sConcat W'.heap.size 0 pn none (some pd) 0 pc (bs.drop 0) (padM 0) _ (by rw [cell_of_row _ _ _ _ _ _ hn0]; rfl) (by rw [cell_of_row _ _ _ _ _ _ hn0]; rfl) ((hrest W' k).grew ka) (hr.grew ka) (by omega) (by have := hall2; rw [hall, List.length_append, hRN, ← hpn] at this; omega)).mono ?_
    rintro e w' ⟨v', rfl, h1, h2⟩
    rw [← hall] at h1
    obtain ⟨fo, fc, rfl⟩ := own_slice h1
    exact ⟨fo, fc, rfl, h1.row, ka.trans h2⟩
  have JF : Hid (∀ W' fo fc, Kept Nought w W' → Row .u8 W' (.slice fo all.length fc) all → Calls Tryd.prog 43 #[.agg #[.int .u64 (x0 : Int), .int .u64 (x1 : Int), .int .u64 (x2 : Int), .int .u64 (x3 : Int), .int .u64 (x4 : Int), .int .u64 (x5 : Int), .int .u64 (x6 : Int), .int .u64 (x7 : Int)], .slice fo all.length fc] W' fun e w' => e = .returned (.agg #[.int .u64 (y0 : Int), .int .u64 (y1 : Int), .int .u64 (y2 : Int), .int .u64 (y3 : Int), .int .u64 (y4 : Int), .int .u64 (y5 : Int), .int .u64 (y6 : Int), .int .u64 (y7 : Int)]) ∧ Kept Nought W' w') := fun W' fo fc k hr => by
    have := mHashed fo all.length fc M2 st all #[.int .u64 (x0 : Int), .int .u64 (x1 : Int), .int .u64 (x2 : Int), .int .u64 (x3 : Int), .int .u64 (x4 : Int), .int .u64 (x5 : Int), .int .u64 (x6 : Int), .int .u64 (x7 : Int)] (by rw [hxx]; rfl) W' (hT.grew k) hh8.2 hh8.1 hr hald hM2 hall2
    rw [← hsf, hyy] at this
    exact this
  have HYY := toHid hyy
  have HW := toHid hW
  have HK0 := toHid k0
  have HO0 := toHid hO0
  have HS0 := toHid hS0
  have c0 := HS0.out.cell 0 (by simp)
  have c1 := HS0.out.cell 1 (by simp)
  have c2 := HS0.out.cell 2 (by simp)
  have c3 := HS0.out.cell 3 (by simp)
  have c4 := HS0.out.cell 4 (by simp)
  have c5 := HS0.out.cell 5 (by simp)
  have c6 := HS0.out.cell 6 (by simp)
  have c7 := HS0.out.cell 7 (by simp)
  rw [← hbs]
  clear hbs
  clear hrest hb hbd hT hst hxx hh8 hall hM2 hall2 hald hsf hf8 hyy hM hW k0 hO0 hS0 hpl hpz hRN hpn hs hsd
  go_enter Tryd.func31, Tryd.ntmps31
  go_wp2_with fail
  rw [← HW.out]
  go_region_with (go_at_call 43; refine (JH.out _ ((Kept.refl _ _).drew)).mono ?_; rintro e w8 ⟨rfl, k8⟩; have hR8 := HS0.out.grew k8; have o0 := hR8.free 0; have o1 := hR8.free 1; have o2 := hR8.free 2; have o3 := hR8.free 3; have o4 := hR8.free 4; have o5 := hR8.free 5; have o6 := hR8.free 6; have o7 := hR8.free 7; have d0 := k8.cellN c0; have d1 := k8.cellN c1; have d2 := k8.cellN c2; have d3 := k8.cellN c3; have d4 := k8.cellN c4; have d5 := k8.cellN c5; have d6 := k8.cellN c6; have d7 := k8.cellN c7)
  all_goals
    have hR9 := hR8.put8 rfl x0 x1 x2 x3 x4 x5 x6 x7
    have kO := HO0.out.grew k8
    have kA := (HK0.out.trans k8).next (kept8 w8 w.heap.size (.int .u64 (x0 : Nat)) (.int .u64 (x1 : Nat)) (.int .u64 (x2 : Nat)) (.int .u64 (x3 : Nat)) (.int .u64 (x4 : Nat)) (.int .u64 (x5 : Nat)) (.int .u64 (x6 : Nat)) (.int .u64 (x7 : Nat))) (fun x hx e => by have e' : x = w.heap.size := e; omega)
    have hO9 := kO.kept (kept8 w8 w.heap.size (.int .u64 (x0 : Nat)) (.int .u64 (x1 : Nat)) (.int .u64 (x2 : Nat)) (.int .u64 (x3 : Nat)) (.int .u64 (x4 : Nat)) (.int .u64 (x5 : Nat)) (.int .u64 (x6 : Nat)) (.int .u64 (x7 : Nat))) (by omega)
    obtain ⟨W3, hW3⟩ : ∃ W3, W3 = (((((((w8.setCell ⟨w.heap.size, 0, none⟩ (.int .u64 (x0 : Nat))).setCell ⟨w.heap.size, 1, none⟩ (.int .u64 (x1 : Nat))).setCell ⟨w.heap.size, 2, none⟩ (.int .u64 (x2 : Nat))).setCell ⟨w.heap.size, 3, none⟩ (.int .u64 (x3 : Nat))).setCell ⟨w.heap.size, 4, none⟩ (.int .u64 (x4 : Nat))).setCell ⟨w.heap.size, 5, none⟩ (.int .u64 (x5 : Nat))).setCell ⟨w.heap.size, 6, none⟩ (.int .u64 (x6 : Nat))).setCell ⟨w.heap.size, 7, none⟩ (.int .u64 (x7 : Nat)) := ⟨_, rfl⟩
    rw [← hW3] at hR9 kA hO9 ⊢
    have JR : Hid (∀ w', Kept Nought W3 w' → w'.cell? ⟨w.heap.size, 0, none⟩ = some (.int .u64 (x0 : Int)) ∧ w'.cell? ⟨w.heap.size, 1, none⟩ = some (.int .u64 (x1 : Int)) ∧ w'.cell? ⟨w.heap.size, 2, none⟩ = some (.int .u64 (x2 : Int)) ∧ w'.cell? ⟨w.heap.size, 3, none⟩ = some (.int .u64 (x3 : Int)) ∧ w'.cell? ⟨w.heap.size, 4, none⟩ = some (.int .u64 (x4 : Int)) ∧ w'.cell? ⟨w.heap.size, 5, none⟩ = some (.int .u64 (x5 : Int)) ∧ w'.cell? ⟨w.heap.size, 6, none⟩ = some (.int .u64 (x6 : Int)) ∧ w'.cell? ⟨w.heap.size, 7, none⟩ = some (.int .u64 (x7 : Int))) := fun w' k => by
      have h := hR9.grew k
      exact ⟨h.cell 0 (by simp), h.cell 1 (by simp), h.cell 2 (by simp), h.cell 3 (by simp), h.cell 4 (by simp), h.cell 5 (by simp), h.cell 6 (by simp), h.cell 7 (by simp)⟩
    obtain ⟨q0, q1, q2, q3, q4, q5, q6, q7⟩ := JR.out W3 (Kept.refl _ _)
    have HKA := toHid kA
    have HO9 := toHid hO9
    clear hW3 hR8 hR9 kO kA hO9 k8 JH HS0 HO0 HK0 HW c0 c1 c2 c3 c4 c5 c6 c7 o0 o1 o2 o3 o4 o5 o6 o7 d0 d1 d2 d3 d4 d5 d6 d7
    go_wp2_with fail
    go_region_held3 (fun w' => w'.cell? ⟨w.heap.size, 0, none⟩ = some (.int .u64 (x0 : Int)) ∧ w'.cell? ⟨w.heap.size, 1, none⟩ = some (.int .u64 (x1 : Int)) ∧ w'.cell? ⟨w.heap.size, 2, none⟩ = some (.int .u64 (x2 : Int)) ∧ w'.cell? ⟨w.heap.size, 3, none⟩ = some (.int .u64 (x3 : Int)) ∧ w'.cell? ⟨w.heap.size, 4, none⟩ = some (.int .u64 (x4 : Int)) ∧ w'.cell? ⟨w.heap.size, 5, none⟩ = some (.int .u64 (x5 : Int)) ∧ w'.cell? ⟨w.heap.size, 6, none⟩ = some (.int .u64 (x6 : Int)) ∧ w'.cell? ⟨w.heap.size, 7, none⟩ = some (.int .u64 (x7 : Int)))
      (((try dsimp only); (repeat' apply And.intro) <;> (repeat (first | (with_reducible assumption) | (with_reducible refine keepAl ?_) | (with_reducible refine keepDr ?_) | (with_reducible refine keepS8 ?_ (by dsimp only; omega)))); done))
      (first
      | (go_at_call 43; refine (JF.out _ fo6 fc6 (HKA.out.trans k6) r6).mono ?_; rintro e w7 ⟨rfl, kl7⟩; have k7 := k6.trans kl7; obtain ⟨t0, t1, t2, t3, t4, t5, t6, t7⟩ := JR.out w7 k7; have hO7 := HO9.out.grew k7; have p0 := hO7.cell 0 (by simp); have p1 := hO7.cell 1 (by simp); have p2 := hO7.cell 2 (by simp); have p3 := hO7.cell 3 (by simp); have p4 := hO7.cell 4 (by simp); have p5 := hO7.cell 5 (by simp); have p6 := hO7.cell 6 (by simp); have p7 := hO7.cell 7 (by simp); have f0 := hO7.free 0; have f1 := hO7.free 1; have f2 := hO7.free 2; have f3 := hO7.free 3; have f4 := hO7.free 4; have f5 := hO7.free 5; have f6 := hO7.free 6; have f7 := hO7.free 7)
      | (go_at_call 22; refine (JK.out _ ad5 pc5 (HKA.out.trans k5) r5).mono ?_; rintro e w6 ⟨fo6, fc6, rfl, r6, kl6⟩; have k6 := k5.trans kl6; obtain ⟨a0, a1, a2, a3, a4, a5, a6, a7⟩ := JR.out w6 k6)
      | (go_at_call 44; refine (JP.out _).mono ?_; rintro e w5 ⟨ad5, pc5, rfl, r5, kl5⟩; have k5 := (Kept.refl Nought W3).drew.trans kl5; obtain ⟨v0, v1, v2, v3, v4, v5, v6, v7⟩ := JR.out w5 k5))
    all_goals
      have hF := hO7.put8 rfl y0 y1 y2 y3 y4 y5 y6 y7
      have z0 := hF.cell 0 (by simp)
      have z1 := hF.cell 1 (by simp)
      have z2 := hF.cell 2 (by simp)
      have z3 := hF.cell 3 (by simp)
      have z4 := hF.cell 4 (by simp)
      have z5 := hF.cell 5 (by simp)
      have z6 := hF.cell 6 (by simp)
      have z7 := hF.cell 7 (by simp)
      have KF := toHid ((HKA.out.trans k7).next (kept8 w7 (w.heap.size + 1) (.int .u64 (y0 : Nat)) (.int .u64 (y1 : Nat)) (.int .u64 (y2 : Nat)) (.int .u64 (y3 : Nat)) (.int .u64 (y4 : Nat)) (.int .u64 (y5 : Nat)) (.int .u64 (y6 : Nat)) (.int .u64 (y7 : Nat))) (fun x hx e => by have e' : x = w.heap.size + 1 := e; omega))
      go_wp2_with fail
      rw [HSum.out, HYY.out]
      exact bodyPost_ret (v := .agg #[.int .u64 (y0 : Int), .int .u64 (y1 : Int), .int .u64 (y2 : Int), .int .u64 (y3 : Int), .int .u64 (y4 : Int), .int .u64 (y5 : Int), .int .u64 (y6 : Int), .int .u64 (y7 : Int)]) (by simp [results, Tryd.results31, go_sem, z0, z1, z2, z3, z4, z5, z6, z7]) rfl ⟨rfl, KF.out⟩

set_option maxRecDepth 40000 in
set_option maxHeartbeats 4000000 in
/-- digested, of no bytes in some memory. -/
theorem mDigestedE (s : List Nat) (sv : Array Value) (hsv : sv = (s.map fun z => Value.int .u64 (z : Nat)).toArray) (hs : s.length = 8) (hsd : Digs 18446744073709551616 s) (ad : Addr) (cap : Nat) (w : World) (hT : Tab12 w) (hb0 : Row .u8 w (.slice (some ad) 0 cap) []) :
    Calls Tryd.prog 31 #[.agg sv, .slice (some ad) 0 cap] w fun e w' => e = .returned (.agg ((digM s []).map fun z => Value.int .u64 (z : Nat)).toArray) ∧ Kept Nought w w' := by
  obtain ⟨s0, s1, s2, s3, s4, s5, s6, s7, hsl⟩ : ∃ s0 s1 s2 s3 s4 s5 s6 s7, s = [s0, s1, s2, s3, s4, s5, s6, s7] := by
    match s, hs with
    | [a, b, c, d, e, f, g, h'], _ => exact ⟨a, b, c, d, e, f, g, h', rfl⟩
  have e0 : sv = #[.int .u64 (s0 : Int), .int .u64 (s1 : Int), .int .u64 (s2 : Int), .int .u64 (s3 : Int), .int .u64 (s4 : Int), .int .u64 (s5 : Int), .int .u64 (s6 : Int), .int .u64 (s7 : Int)] := by rw [hsv, hsl]; rfl
  subst e0
  clear hsv
  obtain ⟨bs, hbs⟩ : ∃ bs : List Nat, bs = [] := ⟨_, rfl⟩
  have hb : Row .u8 w (.slice (some ad) 0 cap) bs := by rw [hbs]; exact hb0
  have hbd : Digs 256 bs := by rw [hbs]; exact Digs.nil _
  have hLb : Hid (bs.length = 0) := by rw [hbs]; rfl
  have hrest : ∀ W, Kept Nought w W → Row .u8 W (.slice (some ad) 0 cap) (bs.drop 0) := fun W k => hb.grew k
  have hM : 0 = 128 * 0 := rfl
  have gadd : ad.add 0 = ad := rfl
  have gcap : (0 : Int) ≤ (cap : Int) := by omega
  have hh8 := hs_digsM (s := s) (all := bs.take 0) hs hsd 0
  obtain ⟨st, hst⟩ : ∃ st, st = blksM s (bs.take 0) 0 := ⟨_, rfl⟩
  rw [← hst] at hh8
  obtain ⟨x0, x1, x2, x3, x4, x5, x6, x7, hxx⟩ : ∃ x0 x1 x2 x3 x4 x5 x6 x7, st = [x0, x1, x2, x3, x4, x5, x6, x7] := by
    match st, hh8.2 with
    | [a, b, c, d, e, f, g, h'], _ => exact ⟨a, b, c, d, e, f, g, h', rfl⟩
  obtain ⟨W, hW⟩ : ∃ W, W = (w.alloc (.cells #[.int .u64 (s0 : Int), .int .u64 (s1 : Int), .int .u64 (s2 : Int), .int .u64 (s3 : Int), .int .u64 (s4 : Int), .int .u64 (s5 : Int), .int .u64 (s6 : Int), .int .u64 (s7 : Int)] 50)).alloc (.cells #[.int .u64 0, .int .u64 0, .int .u64 0, .int .u64 0, .int .u64 0, .int .u64 0, .int .u64 0, .int .u64 0] 50) := ⟨_, rfl⟩
  have k0 : Kept Nought w W := by rw [hW]; exact ((Kept.refl Nought w).alloc _).alloc _
  have hS0 : Arr .u64 50 W w.heap.size [s0, s1, s2, s3, s4, s5, s6, s7] := by
    rw [hW]
    exact heapAt_alloc (heap_alloc_new w _)
  have hO0 : Arr .u64 50 W (w.heap.size + 1) [0, 0, 0, 0, 0, 0, 0, 0] := by
    rw [hW]
    have := heap_alloc_new (w.alloc (.cells #[.int .u64 (s0 : Int), .int .u64 (s1 : Int), .int .u64 (s2 : Int), .int .u64 (s3 : Int), .int .u64 (s4 : Int), .int .u64 (s5 : Int), .int .u64 (s6 : Int), .int .u64 (s7 : Int)] 50)) (.cells #[.int .u64 0, .int .u64 0, .int .u64 0, .int .u64 0, .int .u64 0, .int .u64 0, .int .u64 0, .int .u64 0] 50)
    rwa [show (w.alloc (.cells #[.int .u64 (s0 : Int), .int .u64 (s1 : Int), .int .u64 (s2 : Int), .int .u64 (s3 : Int), .int .u64 (s4 : Int), .int .u64 (s5 : Int), .int .u64 (s6 : Int), .int .u64 (s7 : Int)] 50)).heap.size = w.heap.size + 1 by simp] at this
  have JH : Hid (∀ W', Kept Nought W W' → Calls Tryd.prog 43 #[.agg #[.int .u64 (s0 : Int), .int .u64 (s1 : Int), .int .u64 (s2 : Int), .int .u64 (s3 : Int), .int .u64 (s4 : Int), .int .u64 (s5 : Int), .int .u64 (s6 : Int), .int .u64 (s7 : Int)], .slice (some ad) 0 cap] W' fun e w' => e = .returned (.agg #[.int .u64 (x0 : Int), .int .u64 (x1 : Int), .int .u64 (x2 : Int), .int .u64 (x3 : Int), .int .u64 (x4 : Int), .int .u64 (x5 : Int), .int .u64 (x6 : Int), .int .u64 (x7 : Int)]) ∧ Kept Nought W w') := fun W' k => by
    have := mHashed (some ad) 0 cap 0 s (bs.take 0) #[.int .u64 (s0 : Int), .int .u64 (s1 : Int), .int .u64 (s2 : Int), .int .u64 (s3 : Int), .int .u64 (s4 : Int), .int .u64 (s5 : Int), .int .u64 (s6 : Int), .int .u64 (s7 : Int)] (by rw [hsl]; rfl) W' (hT.grew (k0.trans k)) hs hsd ((hb.grew (k0.trans k)).cut (by have := hLb.out; omega)) (hbd.take 0) hM (by omega)
    rw [← hst, hxx] at this
    refine this.mono ?_
    rintro e w' ⟨rfl, k'⟩
    exact ⟨rfl, k.trans k'⟩
  obtain ⟨all, hall⟩ : ∃ all, all = bs.drop 0 ++ padM 0 := ⟨_, rfl⟩
  obtain ⟨M2, hM2⟩ : ∃ M2, all.length = 128 * M2 := ⟨all.length / 128, by
    have h1 := all_blocksM 0
    have h2 := hLb.out
    rw [hall, List.length_append, List.length_drop, h2]
    omega⟩
  have hpl := padM_length 0
  have hpz : padZM 0 < 128 := Nat.mod_lt _ (by omega)
  have hRN : (bs.drop 0).length = 0 := by have := hLb.out; rw [List.length_drop]; omega
  have hall2 : all.length ≤ 2000000 := by
    have h2 := hLb.out
    rw [hall, List.length_append, List.length_drop, h2]
    omega
  have hald : Digs 256 all := by rw [hall]; exact (hbd.drop 0).append (padM_digs 0)
  obtain ⟨sf, hsf⟩ : ∃ sf, sf = blksM st all M2 := ⟨_, rfl⟩
  have hf8 := hs_digsM (s := st) (all := all) hh8.2 hh8.1 M2
  rw [← hsf] at hf8
  have HSum : Hid (digM s bs = sf) := by
    unfold Hid digM
    have hle : bs.length = 0 := hLb.out
    have e1 : bs ++ padM 0 = bs.take 0 ++ all := by rw [hall, ← List.append_assoc, List.take_append_drop]
    have e2 : (bs.take 0).length = 0 := by rw [List.length_take, hle]; omega
    rw [hle, e1, List.length_append, e2, hM2, show (0 + 128 * M2) / 128 = 0 + M2 by omega, hs_moreM, ← hs_takeM s (bs.take 0 ++ all) 0 0 (by omega), List.take_left' e2, ← hst, show 128 * 0 = 0 by omega, List.drop_left' e2, hsf]
  obtain ⟨y0, y1, y2, y3, y4, y5, y6, y7, hyy⟩ : ∃ y0 y1 y2 y3 y4 y5 y6 y7, sf = [y0, y1, y2, y3, y4, y5, y6, y7] := by
    match sf, hf8.2 with
    | [a, b, c, d, e, f, g, h'], _ => exact ⟨a, b, c, d, e, f, g, h', rfl⟩
  obtain ⟨pn, hpn⟩ : ∃ pn, pn = (padM 0).length := ⟨_, rfl⟩
  have JP : Hid (∀ W', Calls Tryd.prog 44 #[.int .i64 (0 : Int)] W' fun e w' => ∃ (ad : Addr) (pc : Nat), e = .returned (.slice (some ad) pn pc) ∧ Row .u8 w' (.slice (some ad) pn pc) (padM 0) ∧ Kept Nought W' w') := fun W' => by
    refine (mPad (0 : Int) 0 (by omega) (by simp) W').mono ?_
    rintro e w' ⟨v', rfl, h1, h2⟩
    obtain ⟨po, qn, pc, rfl, hLp, _, _, _, hnp⟩ := h1.row.open
    obtain rfl : qn = pn := by rw [hpn]; exact hLp.out.symm
    obtain ⟨pb, poff, e2, _⟩ := hnp 0 (by omega)
    cases e2
    exact ⟨_, _, rfl, h1.row, h2⟩
  have JK : Hid (∀ (W' : World) (pd : Addr) (pc : Nat), Kept Nought w W' → Row .u8 W' (.slice (some pd) pn pc) (padM 0) → Calls Tryd.prog 22 #[.slice (some ⟨W'.heap.size, 0, none⟩) 2 2] (W'.alloc (.cells #[.slice (some ad) 0 cap, .slice (some pd) pn pc] 22)) fun e w' => ∃ (fo : Option Addr) (fc : Nat), e = .returned (.slice fo all.length fc) ∧ Row .u8 w' (.slice fo all.length fc) all ∧ Kept Nought W' w') := fun W' pd pc k hr => by
    have ka := (Kept.refl Nought W').alloc (.cells #[.slice (some ad) 0 cap, .slice (some pd) pn pc] 22)
    have hn0 := heap_alloc_new W' (.cells #[.slice (some ad) 0 cap, .slice (some pd) pn pc] 22)
    refine (sConcat W'.heap.size 0 pn (some ad) (some pd) cap pc (bs.drop 0) (padM 0) _ (by rw [cell_of_row _ _ _ _ _ _ hn0]; rfl) (by rw [cell_of_row _ _ _ _ _ _ hn0]; rfl) ((hrest W' k).grew ka) (hr.grew ka) (by omega) (by have := hall2; rw [hall, List.length_append, hRN, ← hpn] at this; omega)).mono ?_
    rintro e w' ⟨v', rfl, h1, h2⟩
    rw [← hall] at h1
    obtain ⟨fo, fc, rfl⟩ := own_slice h1
    exact ⟨fo, fc, rfl, h1.row, ka.trans h2⟩
  have JF : Hid (∀ W' fo fc, Kept Nought w W' → Row .u8 W' (.slice fo all.length fc) all → Calls Tryd.prog 43 #[.agg #[.int .u64 (x0 : Int), .int .u64 (x1 : Int), .int .u64 (x2 : Int), .int .u64 (x3 : Int), .int .u64 (x4 : Int), .int .u64 (x5 : Int), .int .u64 (x6 : Int), .int .u64 (x7 : Int)], .slice fo all.length fc] W' fun e w' => e = .returned (.agg #[.int .u64 (y0 : Int), .int .u64 (y1 : Int), .int .u64 (y2 : Int), .int .u64 (y3 : Int), .int .u64 (y4 : Int), .int .u64 (y5 : Int), .int .u64 (y6 : Int), .int .u64 (y7 : Int)]) ∧ Kept Nought W' w') := fun W' fo fc k hr => by
    have := mHashed fo all.length fc M2 st all #[.int .u64 (x0 : Int), .int .u64 (x1 : Int), .int .u64 (x2 : Int), .int .u64 (x3 : Int), .int .u64 (x4 : Int), .int .u64 (x5 : Int), .int .u64 (x6 : Int), .int .u64 (x7 : Int)] (by rw [hxx]; rfl) W' (hT.grew k) hh8.2 hh8.1 hr hald hM2 hall2
    rw [← hsf, hyy] at this
    exact this
  have HYY := toHid hyy
  have HW := toHid hW
  have HK0 := toHid k0
  have HO0 := toHid hO0
  have HS0 := toHid hS0
  have c0 := HS0.out.cell 0 (by simp)
  have c1 := HS0.out.cell 1 (by simp)
  have c2 := HS0.out.cell 2 (by simp)
  have c3 := HS0.out.cell 3 (by simp)
  have c4 := HS0.out.cell 4 (by simp)
  have c5 := HS0.out.cell 5 (by simp)
  have c6 := HS0.out.cell 6 (by simp)
  have c7 := HS0.out.cell 7 (by simp)
  rw [← hbs]
  clear hbs hb0
  clear hrest hb hbd hT hst hxx hh8 hall hM2 hall2 hald hsf hf8 hyy hM hW k0 hO0 hS0 hpl hpz hRN hpn hs hsd
  go_enter Tryd.func31, Tryd.ntmps31
  go_wp2_with fail
  rw [← HW.out]
  go_region_with (go_at_call 43; refine (JH.out _ ((Kept.refl _ _).drew)).mono ?_; rintro e w8 ⟨rfl, k8⟩; have hR8 := HS0.out.grew k8; have o0 := hR8.free 0; have o1 := hR8.free 1; have o2 := hR8.free 2; have o3 := hR8.free 3; have o4 := hR8.free 4; have o5 := hR8.free 5; have o6 := hR8.free 6; have o7 := hR8.free 7; have d0 := k8.cellN c0; have d1 := k8.cellN c1; have d2 := k8.cellN c2; have d3 := k8.cellN c3; have d4 := k8.cellN c4; have d5 := k8.cellN c5; have d6 := k8.cellN c6; have d7 := k8.cellN c7)
  all_goals
    have hR9 := hR8.put8 rfl x0 x1 x2 x3 x4 x5 x6 x7
    have kO := HO0.out.grew k8
    have kA := (HK0.out.trans k8).next (kept8 w8 w.heap.size (.int .u64 (x0 : Nat)) (.int .u64 (x1 : Nat)) (.int .u64 (x2 : Nat)) (.int .u64 (x3 : Nat)) (.int .u64 (x4 : Nat)) (.int .u64 (x5 : Nat)) (.int .u64 (x6 : Nat)) (.int .u64 (x7 : Nat))) (fun x hx e => by have e' : x = w.heap.size := e; omega)
    have hO9 := kO.kept (kept8 w8 w.heap.size (.int .u64 (x0 : Nat)) (.int .u64 (x1 : Nat)) (.int .u64 (x2 : Nat)) (.int .u64 (x3 : Nat)) (.int .u64 (x4 : Nat)) (.int .u64 (x5 : Nat)) (.int .u64 (x6 : Nat)) (.int .u64 (x7 : Nat))) (by omega)
    obtain ⟨W3, hW3⟩ : ∃ W3, W3 = (((((((w8.setCell ⟨w.heap.size, 0, none⟩ (.int .u64 (x0 : Nat))).setCell ⟨w.heap.size, 1, none⟩ (.int .u64 (x1 : Nat))).setCell ⟨w.heap.size, 2, none⟩ (.int .u64 (x2 : Nat))).setCell ⟨w.heap.size, 3, none⟩ (.int .u64 (x3 : Nat))).setCell ⟨w.heap.size, 4, none⟩ (.int .u64 (x4 : Nat))).setCell ⟨w.heap.size, 5, none⟩ (.int .u64 (x5 : Nat))).setCell ⟨w.heap.size, 6, none⟩ (.int .u64 (x6 : Nat))).setCell ⟨w.heap.size, 7, none⟩ (.int .u64 (x7 : Nat)) := ⟨_, rfl⟩
    rw [← hW3] at hR9 kA hO9 ⊢
    have JR : Hid (∀ w', Kept Nought W3 w' → w'.cell? ⟨w.heap.size, 0, none⟩ = some (.int .u64 (x0 : Int)) ∧ w'.cell? ⟨w.heap.size, 1, none⟩ = some (.int .u64 (x1 : Int)) ∧ w'.cell? ⟨w.heap.size, 2, none⟩ = some (.int .u64 (x2 : Int)) ∧ w'.cell? ⟨w.heap.size, 3, none⟩ = some (.int .u64 (x3 : Int)) ∧ w'.cell? ⟨w.heap.size, 4, none⟩ = some (.int .u64 (x4 : Int)) ∧ w'.cell? ⟨w.heap.size, 5, none⟩ = some (.int .u64 (x5 : Int)) ∧ w'.cell? ⟨w.heap.size, 6, none⟩ = some (.int .u64 (x6 : Int)) ∧ w'.cell? ⟨w.heap.size, 7, none⟩ = some (.int .u64 (x7 : Int))) := fun w' k => by
      have h := hR9.grew k
      exact ⟨h.cell 0 (by simp), h.cell 1 (by simp), h.cell 2 (by simp), h.cell 3 (by simp), h.cell 4 (by simp), h.cell 5 (by simp), h.cell 6 (by simp), h.cell 7 (by simp)⟩
    obtain ⟨q0, q1, q2, q3, q4, q5, q6, q7⟩ := JR.out W3 (Kept.refl _ _)
    have HKA := toHid kA
    have HO9 := toHid hO9
    clear hW3 hR8 hR9 kO kA hO9 k8 JH HS0 HO0 HK0 HW c0 c1 c2 c3 c4 c5 c6 c7 o0 o1 o2 o3 o4 o5 o6 o7 d0 d1 d2 d3 d4 d5 d6 d7
    go_wp2_with fail
    go_region_held3 (fun w' => w'.cell? ⟨w.heap.size, 0, none⟩ = some (.int .u64 (x0 : Int)) ∧ w'.cell? ⟨w.heap.size, 1, none⟩ = some (.int .u64 (x1 : Int)) ∧ w'.cell? ⟨w.heap.size, 2, none⟩ = some (.int .u64 (x2 : Int)) ∧ w'.cell? ⟨w.heap.size, 3, none⟩ = some (.int .u64 (x3 : Int)) ∧ w'.cell? ⟨w.heap.size, 4, none⟩ = some (.int .u64 (x4 : Int)) ∧ w'.cell? ⟨w.heap.size, 5, none⟩ = some (.int .u64 (x5 : Int)) ∧ w'.cell? ⟨w.heap.size, 6, none⟩ = some (.int .u64 (x6 : Int)) ∧ w'.cell? ⟨w.heap.size, 7, none⟩ = some (.int .u64 (x7 : Int)))
      (((try dsimp only); (repeat' apply And.intro) <;> (repeat (first | (with_reducible assumption) | (with_reducible refine keepAl ?_) | (with_reducible refine keepDr ?_) | (with_reducible refine keepS8 ?_ (by dsimp only; omega)))); done))
      (first
      | (go_at_call 43; refine (JF.out _ fo6 fc6 (HKA.out.trans k6) r6).mono ?_; rintro e w7 ⟨rfl, kl7⟩; have k7 := k6.trans kl7; obtain ⟨t0, t1, t2, t3, t4, t5, t6, t7⟩ := JR.out w7 k7; have hO7 := HO9.out.grew k7; have p0 := hO7.cell 0 (by simp); have p1 := hO7.cell 1 (by simp); have p2 := hO7.cell 2 (by simp); have p3 := hO7.cell 3 (by simp); have p4 := hO7.cell 4 (by simp); have p5 := hO7.cell 5 (by simp); have p6 := hO7.cell 6 (by simp); have p7 := hO7.cell 7 (by simp); have f0 := hO7.free 0; have f1 := hO7.free 1; have f2 := hO7.free 2; have f3 := hO7.free 3; have f4 := hO7.free 4; have f5 := hO7.free 5; have f6 := hO7.free 6; have f7 := hO7.free 7)
      | (go_at_call 22; refine (JK.out _ ad5 pc5 (HKA.out.trans k5) r5).mono ?_; rintro e w6 ⟨fo6, fc6, rfl, r6, kl6⟩; have k6 := k5.trans kl6; obtain ⟨a0, a1, a2, a3, a4, a5, a6, a7⟩ := JR.out w6 k6)
      | (go_at_call 44; refine (JP.out _).mono ?_; rintro e w5 ⟨ad5, pc5, rfl, r5, kl5⟩; have k5 := (Kept.refl Nought W3).drew.trans kl5; obtain ⟨v0, v1, v2, v3, v4, v5, v6, v7⟩ := JR.out w5 k5))
    all_goals
      have hF := hO7.put8 rfl y0 y1 y2 y3 y4 y5 y6 y7
      have z0 := hF.cell 0 (by simp)
      have z1 := hF.cell 1 (by simp)
      have z2 := hF.cell 2 (by simp)
      have z3 := hF.cell 3 (by simp)
      have z4 := hF.cell 4 (by simp)
      have z5 := hF.cell 5 (by simp)
      have z6 := hF.cell 6 (by simp)
      have z7 := hF.cell 7 (by simp)
      have KF := toHid ((HKA.out.trans k7).next (kept8 w7 (w.heap.size + 1) (.int .u64 (y0 : Nat)) (.int .u64 (y1 : Nat)) (.int .u64 (y2 : Nat)) (.int .u64 (y3 : Nat)) (.int .u64 (y4 : Nat)) (.int .u64 (y5 : Nat)) (.int .u64 (y6 : Nat)) (.int .u64 (y7 : Nat))) (fun x hx e => by have e' : x = w.heap.size + 1 := e; omega))
      go_wp2_with fail
      rw [HSum.out, HYY.out]
      exact bodyPost_ret (v := .agg #[.int .u64 (y0 : Int), .int .u64 (y1 : Int), .int .u64 (y2 : Int), .int .u64 (y3 : Int), .int .u64 (y4 : Int), .int .u64 (y5 : Int), .int .u64 (y6 : Int), .int .u64 (y7 : Int)]) (by simp [results, Tryd.results31, go_sem, z0, z1, z2, z3, z4, z5, z6, z7]) rfl ⟨rfl, KF.out⟩

set_option maxRecDepth 40000 in
set_option maxHeartbeats 4000000 in
/-- digested, of bytes in whole blocks that fill their memory. -/
theorem mDigestedW (s : List Nat) (sv : Array Value) (hsv : sv = (s.map fun z => Value.int .u64 (z : Nat)).toArray) (hs : s.length = 8) (hsd : Digs 18446744073709551616 s) (yb yoff L : Nat) (bs : List Nat) (w : World) (hT : Tab12 w) (hb : Row .u8 w (.slice (some ⟨yb, yoff, none⟩) L L) bs) (hbd : Digs 256 bs) (hL : L ≤ 1000000) (h64 : L % 128 = 0) :
    Calls Tryd.prog 31 #[.agg sv, .slice (some ⟨yb, yoff, none⟩) L L] w fun e w' => e = .returned (.agg ((digM s bs).map fun z => Value.int .u64 (z : Nat)).toArray) ∧ Kept Nought w w' := by
  obtain ⟨s0, s1, s2, s3, s4, s5, s6, s7, hsl⟩ : ∃ s0 s1 s2 s3 s4 s5 s6 s7, s = [s0, s1, s2, s3, s4, s5, s6, s7] := by
    match s, hs with
    | [a, b, c, d, e, f, g, h'], _ => exact ⟨a, b, c, d, e, f, g, h', rfl⟩
  have e0 : sv = #[.int .u64 (s0 : Int), .int .u64 (s1 : Int), .int .u64 (s2 : Int), .int .u64 (s3 : Int), .int .u64 (s4 : Int), .int .u64 (s5 : Int), .int .u64 (s6 : Int), .int .u64 (s7 : Int)] := by rw [hsv, hsl]; rfl
  subst e0
  clear hsv
  obtain ⟨_, _, _, e1, hLb, _, _, _, _⟩ := hb.open
  cases e1
  have g64 : (L : Int) % 128 = 0 := by omega
  have gz : (0 : Int) ≤ (L : Int) := by omega
  have hrest : ∀ W, Kept Nought w W → Row .u8 W (.slice (some ⟨yb, yoff, none⟩) 0 0) (bs.drop L) := fun W _ => by
    rw [List.drop_of_length_le (Nat.le_of_eq hLb.out)]
    exact row_none _ _ _
  have hM : L = 128 * (L / 128) := by omega
  have hh8 := hs_digsM (s := s) (all := bs.take L) hs hsd (L / 128)
  obtain ⟨st, hst⟩ : ∃ st, st = blksM s (bs.take L) (L / 128) := ⟨_, rfl⟩
  rw [← hst] at hh8
  obtain ⟨x0, x1, x2, x3, x4, x5, x6, x7, hxx⟩ : ∃ x0 x1 x2 x3 x4 x5 x6 x7, st = [x0, x1, x2, x3, x4, x5, x6, x7] := by
    match st, hh8.2 with
    | [a, b, c, d, e, f, g, h'], _ => exact ⟨a, b, c, d, e, f, g, h', rfl⟩
  obtain ⟨W, hW⟩ : ∃ W, W = (w.alloc (.cells #[.int .u64 (s0 : Int), .int .u64 (s1 : Int), .int .u64 (s2 : Int), .int .u64 (s3 : Int), .int .u64 (s4 : Int), .int .u64 (s5 : Int), .int .u64 (s6 : Int), .int .u64 (s7 : Int)] 50)).alloc (.cells #[.int .u64 0, .int .u64 0, .int .u64 0, .int .u64 0, .int .u64 0, .int .u64 0, .int .u64 0, .int .u64 0] 50) := ⟨_, rfl⟩
  have k0 : Kept Nought w W := by rw [hW]; exact ((Kept.refl Nought w).alloc _).alloc _
  have hS0 : Arr .u64 50 W w.heap.size [s0, s1, s2, s3, s4, s5, s6, s7] := by
    rw [hW]
    exact heapAt_alloc (heap_alloc_new w _)
  have hO0 : Arr .u64 50 W (w.heap.size + 1) [0, 0, 0, 0, 0, 0, 0, 0] := by
    rw [hW]
    have := heap_alloc_new (w.alloc (.cells #[.int .u64 (s0 : Int), .int .u64 (s1 : Int), .int .u64 (s2 : Int), .int .u64 (s3 : Int), .int .u64 (s4 : Int), .int .u64 (s5 : Int), .int .u64 (s6 : Int), .int .u64 (s7 : Int)] 50)) (.cells #[.int .u64 0, .int .u64 0, .int .u64 0, .int .u64 0, .int .u64 0, .int .u64 0, .int .u64 0, .int .u64 0] 50)
    rwa [show (w.alloc (.cells #[.int .u64 (s0 : Int), .int .u64 (s1 : Int), .int .u64 (s2 : Int), .int .u64 (s3 : Int), .int .u64 (s4 : Int), .int .u64 (s5 : Int), .int .u64 (s6 : Int), .int .u64 (s7 : Int)] 50)).heap.size = w.heap.size + 1 by simp] at this
  have JH : Hid (∀ W', Kept Nought W W' → Calls Tryd.prog 43 #[.agg #[.int .u64 (s0 : Int), .int .u64 (s1 : Int), .int .u64 (s2 : Int), .int .u64 (s3 : Int), .int .u64 (s4 : Int), .int .u64 (s5 : Int), .int .u64 (s6 : Int), .int .u64 (s7 : Int)], .slice (some ⟨yb, yoff, none⟩) L L] W' fun e w' => e = .returned (.agg #[.int .u64 (x0 : Int), .int .u64 (x1 : Int), .int .u64 (x2 : Int), .int .u64 (x3 : Int), .int .u64 (x4 : Int), .int .u64 (x5 : Int), .int .u64 (x6 : Int), .int .u64 (x7 : Int)]) ∧ Kept Nought W w') := fun W' k => by
    have := mHashed (some ⟨yb, yoff, none⟩) L L (L / 128) s (bs.take L) #[.int .u64 (s0 : Int), .int .u64 (s1 : Int), .int .u64 (s2 : Int), .int .u64 (s3 : Int), .int .u64 (s4 : Int), .int .u64 (s5 : Int), .int .u64 (s6 : Int), .int .u64 (s7 : Int)] (by rw [hsl]; rfl) W' (hT.grew (k0.trans k)) hs hsd ((hb.grew (k0.trans k)).cut (by have := hLb.out; omega)) (hbd.take L) hM (by omega)
    rw [← hst, hxx] at this
    refine this.mono ?_
    rintro e w' ⟨rfl, k'⟩
    exact ⟨rfl, k.trans k'⟩
  obtain ⟨all, hall⟩ : ∃ all, all = bs.drop L ++ padM L := ⟨_, rfl⟩
  obtain ⟨M2, hM2⟩ : ∃ M2, all.length = 128 * M2 := ⟨all.length / 128, by
    have h1 := all_blocksM L
    have h2 := hLb.out
    rw [hall, List.length_append, List.length_drop, h2]
    omega⟩
  have hpl := padM_length L
  have hpz : padZM L < 128 := Nat.mod_lt _ (by omega)
  have hRN : (bs.drop L).length = 0 := by have := hLb.out; rw [List.length_drop]; omega
  have hall2 : all.length ≤ 2000000 := by
    have h2 := hLb.out
    rw [hall, List.length_append, List.length_drop, h2]
    omega
  have hald : Digs 256 all := by rw [hall]; exact (hbd.drop L).append (padM_digs L)
  obtain ⟨sf, hsf⟩ : ∃ sf, sf = blksM st all M2 := ⟨_, rfl⟩
  have hf8 := hs_digsM (s := st) (all := all) hh8.2 hh8.1 M2
  rw [← hsf] at hf8
  have HSum : Hid (digM s bs = sf) := by
    unfold Hid digM
    have hle : bs.length = L := hLb.out
    have e1 : bs ++ padM L = bs.take L ++ all := by rw [hall, ← List.append_assoc, List.take_append_drop]
    have e2 : (bs.take L).length = L := by rw [List.length_take, hle]; omega
    rw [hle, e1, List.length_append, e2, hM2, show (L + 128 * M2) / 128 = (L / 128) + M2 by omega, hs_moreM, ← hs_takeM s (bs.take L ++ all) L (L / 128) (by omega), List.take_left' e2, ← hst, show 128 * (L / 128) = L by omega, List.drop_left' e2, hsf]
  obtain ⟨y0, y1, y2, y3, y4, y5, y6, y7, hyy⟩ : ∃ y0 y1 y2 y3 y4 y5 y6 y7, sf = [y0, y1, y2, y3, y4, y5, y6, y7] := by
    match sf, hf8.2 with
    | [a, b, c, d, e, f, g, h'], _ => exact ⟨a, b, c, d, e, f, g, h', rfl⟩
  obtain ⟨pn, hpn⟩ : ∃ pn, pn = (padM L).length := ⟨_, rfl⟩
  have JP : Hid (∀ W', Calls Tryd.prog 44 #[.int .i64 (L : Int)] W' fun e w' => ∃ (ad : Addr) (pc : Nat), e = .returned (.slice (some ad) pn pc) ∧ Row .u8 w' (.slice (some ad) pn pc) (padM L) ∧ Kept Nought W' w') := fun W' => by
    refine (mPad (L : Int) L (by omega) (by simp) W').mono ?_
    rintro e w' ⟨v', rfl, h1, h2⟩
    obtain ⟨po, qn, pc, rfl, hLp, _, _, _, hnp⟩ := h1.row.open
    obtain rfl : qn = pn := by rw [hpn]; exact hLp.out.symm
    obtain ⟨pb, poff, e2, _⟩ := hnp 0 (by omega)
    cases e2
    exact ⟨_, _, rfl, h1.row, h2⟩
  have JK : Hid (∀ (W' : World) (pd : Addr) (pc : Nat), Kept Nought w W' → Row .u8 W' (.slice (some pd) pn pc) (padM L) → Calls Tryd.prog 22 #[.slice (some ⟨W'.heap.size, 0, none⟩) 2 2] (W'.alloc (.cells #[.slice (some ⟨yb, yoff, none⟩) 0 0, .slice (some pd) pn pc] 22)) fun e w' => ∃ (fo : Option Addr) (fc : Nat), e = .returned (.slice fo all.length fc) ∧ Row .u8 w' (.slice fo all.length fc) all ∧ Kept Nought W' w') := fun W' pd pc k hr => by
    have ka := (Kept.refl Nought W').alloc (.cells #[.slice (some ⟨yb, yoff, none⟩) 0 0, .slice (some pd) pn pc] 22)
    have hn0 := heap_alloc_new W' (.cells #[.slice (some ⟨yb, yoff, none⟩) 0 0, .slice (some pd) pn pc] 22)
    refine (sConcat W'.heap.size 0 pn (some ⟨yb, yoff, none⟩) (some pd) 0 pc (bs.drop L) (padM L) _ (by rw [cell_of_row _ _ _ _ _ _ hn0]; rfl) (by rw [cell_of_row _ _ _ _ _ _ hn0]; rfl) ((hrest W' k).grew ka) (hr.grew ka) (by omega) (by have := hall2; rw [hall, List.length_append, hRN, ← hpn] at this; omega)).mono ?_
    rintro e w' ⟨v', rfl, h1, h2⟩
    rw [← hall] at h1
    obtain ⟨fo, fc, rfl⟩ := own_slice h1
    exact ⟨fo, fc, rfl, h1.row, ka.trans h2⟩
  have JF : Hid (∀ W' fo fc, Kept Nought w W' → Row .u8 W' (.slice fo all.length fc) all → Calls Tryd.prog 43 #[.agg #[.int .u64 (x0 : Int), .int .u64 (x1 : Int), .int .u64 (x2 : Int), .int .u64 (x3 : Int), .int .u64 (x4 : Int), .int .u64 (x5 : Int), .int .u64 (x6 : Int), .int .u64 (x7 : Int)], .slice fo all.length fc] W' fun e w' => e = .returned (.agg #[.int .u64 (y0 : Int), .int .u64 (y1 : Int), .int .u64 (y2 : Int), .int .u64 (y3 : Int), .int .u64 (y4 : Int), .int .u64 (y5 : Int), .int .u64 (y6 : Int), .int .u64 (y7 : Int)]) ∧ Kept Nought W' w') := fun W' fo fc k hr => by
    have := mHashed fo all.length fc M2 st all #[.int .u64 (x0 : Int), .int .u64 (x1 : Int), .int .u64 (x2 : Int), .int .u64 (x3 : Int), .int .u64 (x4 : Int), .int .u64 (x5 : Int), .int .u64 (x6 : Int), .int .u64 (x7 : Int)] (by rw [hxx]; rfl) W' (hT.grew k) hh8.2 hh8.1 hr hald hM2 hall2
    rw [← hsf, hyy] at this
    exact this
  have HYY := toHid hyy
  have HW := toHid hW
  have HK0 := toHid k0
  have HO0 := toHid hO0
  have HS0 := toHid hS0
  have c0 := HS0.out.cell 0 (by simp)
  have c1 := HS0.out.cell 1 (by simp)
  have c2 := HS0.out.cell 2 (by simp)
  have c3 := HS0.out.cell 3 (by simp)
  have c4 := HS0.out.cell 4 (by simp)
  have c5 := HS0.out.cell 5 (by simp)
  have c6 := HS0.out.cell 6 (by simp)
  have c7 := HS0.out.cell 7 (by simp)
  clear hrest hb hbd hT hst hxx hh8 hall hM2 hall2 hald hsf hf8 hyy hM hW k0 hO0 hS0 hpl hpz hRN hpn hs hsd
  go_enter Tryd.func31, Tryd.ntmps31
  go_wp2_with fail
  rw [← HW.out]
  go_region_with (go_at_call 43; refine (JH.out _ ((Kept.refl _ _).drew)).mono ?_; rintro e w8 ⟨rfl, k8⟩; have hR8 := HS0.out.grew k8; have o0 := hR8.free 0; have o1 := hR8.free 1; have o2 := hR8.free 2; have o3 := hR8.free 3; have o4 := hR8.free 4; have o5 := hR8.free 5; have o6 := hR8.free 6; have o7 := hR8.free 7; have d0 := k8.cellN c0; have d1 := k8.cellN c1; have d2 := k8.cellN c2; have d3 := k8.cellN c3; have d4 := k8.cellN c4; have d5 := k8.cellN c5; have d6 := k8.cellN c6; have d7 := k8.cellN c7)
  all_goals
    have hR9 := hR8.put8 rfl x0 x1 x2 x3 x4 x5 x6 x7
    have kO := HO0.out.grew k8
    have kA := (HK0.out.trans k8).next (kept8 w8 w.heap.size (.int .u64 (x0 : Nat)) (.int .u64 (x1 : Nat)) (.int .u64 (x2 : Nat)) (.int .u64 (x3 : Nat)) (.int .u64 (x4 : Nat)) (.int .u64 (x5 : Nat)) (.int .u64 (x6 : Nat)) (.int .u64 (x7 : Nat))) (fun x hx e => by have e' : x = w.heap.size := e; omega)
    have hO9 := kO.kept (kept8 w8 w.heap.size (.int .u64 (x0 : Nat)) (.int .u64 (x1 : Nat)) (.int .u64 (x2 : Nat)) (.int .u64 (x3 : Nat)) (.int .u64 (x4 : Nat)) (.int .u64 (x5 : Nat)) (.int .u64 (x6 : Nat)) (.int .u64 (x7 : Nat))) (by omega)
    obtain ⟨W3, hW3⟩ : ∃ W3, W3 = (((((((w8.setCell ⟨w.heap.size, 0, none⟩ (.int .u64 (x0 : Nat))).setCell ⟨w.heap.size, 1, none⟩ (.int .u64 (x1 : Nat))).setCell ⟨w.heap.size, 2, none⟩ (.int .u64 (x2 : Nat))).setCell ⟨w.heap.size, 3, none⟩ (.int .u64 (x3 : Nat))).setCell ⟨w.heap.size, 4, none⟩ (.int .u64 (x4 : Nat))).setCell ⟨w.heap.size, 5, none⟩ (.int .u64 (x5 : Nat))).setCell ⟨w.heap.size, 6, none⟩ (.int .u64 (x6 : Nat))).setCell ⟨w.heap.size, 7, none⟩ (.int .u64 (x7 : Nat)) := ⟨_, rfl⟩
    rw [← hW3] at hR9 kA hO9 ⊢
    have JR : Hid (∀ w', Kept Nought W3 w' → w'.cell? ⟨w.heap.size, 0, none⟩ = some (.int .u64 (x0 : Int)) ∧ w'.cell? ⟨w.heap.size, 1, none⟩ = some (.int .u64 (x1 : Int)) ∧ w'.cell? ⟨w.heap.size, 2, none⟩ = some (.int .u64 (x2 : Int)) ∧ w'.cell? ⟨w.heap.size, 3, none⟩ = some (.int .u64 (x3 : Int)) ∧ w'.cell? ⟨w.heap.size, 4, none⟩ = some (.int .u64 (x4 : Int)) ∧ w'.cell? ⟨w.heap.size, 5, none⟩ = some (.int .u64 (x5 : Int)) ∧ w'.cell? ⟨w.heap.size, 6, none⟩ = some (.int .u64 (x6 : Int)) ∧ w'.cell? ⟨w.heap.size, 7, none⟩ = some (.int .u64 (x7 : Int))) := fun w' k => by
      have h := hR9.grew k
      exact ⟨h.cell 0 (by simp), h.cell 1 (by simp), h.cell 2 (by simp), h.cell 3 (by simp), h.cell 4 (by simp), h.cell 5 (by simp), h.cell 6 (by simp), h.cell 7 (by simp)⟩
    obtain ⟨q0, q1, q2, q3, q4, q5, q6, q7⟩ := JR.out W3 (Kept.refl _ _)
    have HKA := toHid kA
    have HO9 := toHid hO9
    clear hW3 hR8 hR9 kO kA hO9 k8 JH HS0 HO0 HK0 HW c0 c1 c2 c3 c4 c5 c6 c7 o0 o1 o2 o3 o4 o5 o6 o7 d0 d1 d2 d3 d4 d5 d6 d7
    go_wp2_with fail
    go_region_held3 (fun w' => w'.cell? ⟨w.heap.size, 0, none⟩ = some (.int .u64 (x0 : Int)) ∧ w'.cell? ⟨w.heap.size, 1, none⟩ = some (.int .u64 (x1 : Int)) ∧ w'.cell? ⟨w.heap.size, 2, none⟩ = some (.int .u64 (x2 : Int)) ∧ w'.cell? ⟨w.heap.size, 3, none⟩ = some (.int .u64 (x3 : Int)) ∧ w'.cell? ⟨w.heap.size, 4, none⟩ = some (.int .u64 (x4 : Int)) ∧ w'.cell? ⟨w.heap.size, 5, none⟩ = some (.int .u64 (x5 : Int)) ∧ w'.cell? ⟨w.heap.size, 6, none⟩ = some (.int .u64 (x6 : Int)) ∧ w'.cell? ⟨w.heap.size, 7, none⟩ = some (.int .u64 (x7 : Int)))
      (((try dsimp only); (repeat' apply And.intro) <;> (repeat (first | (with_reducible assumption) | (with_reducible refine keepAl ?_) | (with_reducible refine keepDr ?_) | (with_reducible refine keepS8 ?_ (by dsimp only; omega)))); done))
      (first
      | (go_at_call 43; refine (JF.out _ fo6 fc6 (HKA.out.trans k6) r6).mono ?_; rintro e w7 ⟨rfl, kl7⟩; have k7 := k6.trans kl7; obtain ⟨t0, t1, t2, t3, t4, t5, t6, t7⟩ := JR.out w7 k7; have hO7 := HO9.out.grew k7; have p0 := hO7.cell 0 (by simp); have p1 := hO7.cell 1 (by simp); have p2 := hO7.cell 2 (by simp); have p3 := hO7.cell 3 (by simp); have p4 := hO7.cell 4 (by simp); have p5 := hO7.cell 5 (by simp); have p6 := hO7.cell 6 (by simp); have p7 := hO7.cell 7 (by simp); have f0 := hO7.free 0; have f1 := hO7.free 1; have f2 := hO7.free 2; have f3 := hO7.free 3; have f4 := hO7.free 4; have f5 := hO7.free 5; have f6 := hO7.free 6; have f7 := hO7.free 7)
      | (go_at_call 22; refine (JK.out _ ad5 pc5 (HKA.out.trans k5) r5).mono ?_; rintro e w6 ⟨fo6, fc6, rfl, r6, kl6⟩; have k6 := k5.trans kl6; obtain ⟨a0, a1, a2, a3, a4, a5, a6, a7⟩ := JR.out w6 k6)
      | (go_at_call 44; refine (JP.out _).mono ?_; rintro e w5 ⟨ad5, pc5, rfl, r5, kl5⟩; have k5 := (Kept.refl Nought W3).drew.trans kl5; obtain ⟨v0, v1, v2, v3, v4, v5, v6, v7⟩ := JR.out w5 k5))
    all_goals
      have hF := hO7.put8 rfl y0 y1 y2 y3 y4 y5 y6 y7
      have z0 := hF.cell 0 (by simp)
      have z1 := hF.cell 1 (by simp)
      have z2 := hF.cell 2 (by simp)
      have z3 := hF.cell 3 (by simp)
      have z4 := hF.cell 4 (by simp)
      have z5 := hF.cell 5 (by simp)
      have z6 := hF.cell 6 (by simp)
      have z7 := hF.cell 7 (by simp)
      have KF := toHid ((HKA.out.trans k7).next (kept8 w7 (w.heap.size + 1) (.int .u64 (y0 : Nat)) (.int .u64 (y1 : Nat)) (.int .u64 (y2 : Nat)) (.int .u64 (y3 : Nat)) (.int .u64 (y4 : Nat)) (.int .u64 (y5 : Nat)) (.int .u64 (y6 : Nat)) (.int .u64 (y7 : Nat))) (fun x hx e => by have e' : x = w.heap.size + 1 := e; omega))
      go_wp2_with fail
      rw [HSum.out, HYY.out]
      exact bodyPost_ret (v := .agg #[.int .u64 (y0 : Int), .int .u64 (y1 : Int), .int .u64 (y2 : Int), .int .u64 (y3 : Int), .int .u64 (y4 : Int), .int .u64 (y5 : Int), .int .u64 (y6 : Int), .int .u64 (y7 : Int)]) (by simp [results, Tryd.results31, go_sem, z0, z1, z2, z3, z4, z5, z6, z7]) rfl ⟨rfl, KF.out⟩

set_option maxRecDepth 40000 in
set_option maxHeartbeats 4000000 in
/-- digested, of bytes. -/
theorem mDigestedP (s : List Nat) (sv : Array Value) (hsv : sv = (s.map fun z => Value.int .u64 (z : Nat)).toArray) (hs : s.length = 8) (hsd : Digs 18446744073709551616 s) (yb yoff L cap Wh rn rc : Nat) (bs : List Nat) (w : World) (hT : Tab12 w) (hb : Row .u8 w (.slice (some ⟨yb, yoff, none⟩) L cap) bs) (hbd : Digs 256 bs) (hL : L ≤ 1000000) (hWh : Wh = L - L % 128) (hcw : cap ≠ Wh) (hrn : rn = L - Wh) (hrc : rc = cap - Wh) :
    Calls Tryd.prog 31 #[.agg sv, .slice (some ⟨yb, yoff, none⟩) L cap] w fun e w' => e = .returned (.agg ((digM s bs).map fun z => Value.int .u64 (z : Nat)).toArray) ∧ Kept Nought w w' := by
  obtain ⟨s0, s1, s2, s3, s4, s5, s6, s7, hsl⟩ : ∃ s0 s1 s2 s3 s4 s5 s6 s7, s = [s0, s1, s2, s3, s4, s5, s6, s7] := by
    match s, hs with
    | [a, b, c, d, e, f, g, h'], _ => exact ⟨a, b, c, d, e, f, g, h', rfl⟩
  have e0 : sv = #[.int .u64 (s0 : Int), .int .u64 (s1 : Int), .int .u64 (s2 : Int), .int .u64 (s3 : Int), .int .u64 (s4 : Int), .int .u64 (s5 : Int), .int .u64 (s6 : Int), .int .u64 (s7 : Int)] := by rw [hsv, hsl]; rfl
  subst e0
  clear hsv
  obtain ⟨_, _, _, e1, hLb, hcap, _, _, _⟩ := hb.open
  cases e1
  have gW : (L : Int) - (L : Int) % 128 = (Wh : Int) := by omega
  have gz : (0 : Int) ≤ (Wh : Int) := by omega
  have gc : (Wh : Int) ≤ (cap : Int) := by omega
  have gl : (Wh : Int) ≤ (L : Int) := by omega
  have gl' : Wh ≤ L := by omega
  have gc' : Wh ≤ cap := by omega
  have gr1 : L - Wh = rn := hrn.symm
  have gr2 : cap - Wh = rc := hrc.symm
  have gn : ¬ cap = Wh := hcw
  have gcp : ¬ cap = 0 := by omega
  have hrest : ∀ W, Kept Nought w W → Row .u8 W (.slice (some ⟨yb, yoff + Wh, none⟩) rn rc) (bs.drop Wh) := fun W k => by
    have := row_part (s := Wh) (m := L - Wh) (hb.grew k) (by omega)
    rw [List.take_of_length_le (by rw [List.length_drop, hLb.out]; exact Nat.le_refl _), gr1, gr2] at this
    exact this
  have hM : Wh = 128 * (L / 128) := by omega
  have hh8 := hs_digsM (s := s) (all := bs.take Wh) hs hsd (L / 128)
  obtain ⟨st, hst⟩ : ∃ st, st = blksM s (bs.take Wh) (L / 128) := ⟨_, rfl⟩
  rw [← hst] at hh8
  obtain ⟨x0, x1, x2, x3, x4, x5, x6, x7, hxx⟩ : ∃ x0 x1 x2 x3 x4 x5 x6 x7, st = [x0, x1, x2, x3, x4, x5, x6, x7] := by
    match st, hh8.2 with
    | [a, b, c, d, e, f, g, h'], _ => exact ⟨a, b, c, d, e, f, g, h', rfl⟩
  obtain ⟨W, hW⟩ : ∃ W, W = (w.alloc (.cells #[.int .u64 (s0 : Int), .int .u64 (s1 : Int), .int .u64 (s2 : Int), .int .u64 (s3 : Int), .int .u64 (s4 : Int), .int .u64 (s5 : Int), .int .u64 (s6 : Int), .int .u64 (s7 : Int)] 50)).alloc (.cells #[.int .u64 0, .int .u64 0, .int .u64 0, .int .u64 0, .int .u64 0, .int .u64 0, .int .u64 0, .int .u64 0] 50) := ⟨_, rfl⟩
  have k0 : Kept Nought w W := by rw [hW]; exact ((Kept.refl Nought w).alloc _).alloc _
  have hS0 : Arr .u64 50 W w.heap.size [s0, s1, s2, s3, s4, s5, s6, s7] := by
    rw [hW]
    exact heapAt_alloc (heap_alloc_new w _)
  have hO0 : Arr .u64 50 W (w.heap.size + 1) [0, 0, 0, 0, 0, 0, 0, 0] := by
    rw [hW]
    have := heap_alloc_new (w.alloc (.cells #[.int .u64 (s0 : Int), .int .u64 (s1 : Int), .int .u64 (s2 : Int), .int .u64 (s3 : Int), .int .u64 (s4 : Int), .int .u64 (s5 : Int), .int .u64 (s6 : Int), .int .u64 (s7 : Int)] 50)) (.cells #[.int .u64 0, .int .u64 0, .int .u64 0, .int .u64 0, .int .u64 0, .int .u64 0, .int .u64 0, .int .u64 0] 50)
    rwa [show (w.alloc (.cells #[.int .u64 (s0 : Int), .int .u64 (s1 : Int), .int .u64 (s2 : Int), .int .u64 (s3 : Int), .int .u64 (s4 : Int), .int .u64 (s5 : Int), .int .u64 (s6 : Int), .int .u64 (s7 : Int)] 50)).heap.size = w.heap.size + 1 by simp] at this
  have JH : Hid (∀ W', Kept Nought W W' → Calls Tryd.prog 43 #[.agg #[.int .u64 (s0 : Int), .int .u64 (s1 : Int), .int .u64 (s2 : Int), .int .u64 (s3 : Int), .int .u64 (s4 : Int), .int .u64 (s5 : Int), .int .u64 (s6 : Int), .int .u64 (s7 : Int)], .slice (some ⟨yb, yoff, none⟩) Wh cap] W' fun e w' => e = .returned (.agg #[.int .u64 (x0 : Int), .int .u64 (x1 : Int), .int .u64 (x2 : Int), .int .u64 (x3 : Int), .int .u64 (x4 : Int), .int .u64 (x5 : Int), .int .u64 (x6 : Int), .int .u64 (x7 : Int)]) ∧ Kept Nought W w') := fun W' k => by
    have := mHashed (some ⟨yb, yoff, none⟩) Wh cap (L / 128) s (bs.take Wh) #[.int .u64 (s0 : Int), .int .u64 (s1 : Int), .int .u64 (s2 : Int), .int .u64 (s3 : Int), .int .u64 (s4 : Int), .int .u64 (s5 : Int), .int .u64 (s6 : Int), .int .u64 (s7 : Int)] (by rw [hsl]; rfl) W' (hT.grew (k0.trans k)) hs hsd ((hb.grew (k0.trans k)).cut (by have := hLb.out; omega)) (hbd.take Wh) hM (by omega)
    rw [← hst, hxx] at this
    refine this.mono ?_
    rintro e w' ⟨rfl, k'⟩
    exact ⟨rfl, k.trans k'⟩
  obtain ⟨all, hall⟩ : ∃ all, all = bs.drop Wh ++ padM L := ⟨_, rfl⟩
  obtain ⟨M2, hM2⟩ : ∃ M2, all.length = 128 * M2 := ⟨all.length / 128, by
    have h1 := all_blocksM L
    have h2 := hLb.out
    rw [hall, List.length_append, List.length_drop, h2]
    omega⟩
  have hpl := padM_length L
  have hpz : padZM L < 128 := Nat.mod_lt _ (by omega)
  have hRN : (bs.drop Wh).length = rn := by have := hLb.out; rw [List.length_drop]; omega
  have hall2 : all.length ≤ 2000000 := by
    have h2 := hLb.out
    rw [hall, List.length_append, List.length_drop, h2]
    omega
  have hald : Digs 256 all := by rw [hall]; exact (hbd.drop Wh).append (padM_digs L)
  obtain ⟨sf, hsf⟩ : ∃ sf, sf = blksM st all M2 := ⟨_, rfl⟩
  have hf8 := hs_digsM (s := st) (all := all) hh8.2 hh8.1 M2
  rw [← hsf] at hf8
  have HSum : Hid (digM s bs = sf) := by
    unfold Hid digM
    have hle : bs.length = L := hLb.out
    have e1 : bs ++ padM L = bs.take Wh ++ all := by rw [hall, ← List.append_assoc, List.take_append_drop]
    have e2 : (bs.take Wh).length = Wh := by rw [List.length_take, hle]; omega
    rw [hle, e1, List.length_append, e2, hM2, show (Wh + 128 * M2) / 128 = (L / 128) + M2 by omega, hs_moreM, ← hs_takeM s (bs.take Wh ++ all) Wh (L / 128) (by omega), List.take_left' e2, ← hst, show 128 * (L / 128) = Wh by omega, List.drop_left' e2, hsf]
  obtain ⟨y0, y1, y2, y3, y4, y5, y6, y7, hyy⟩ : ∃ y0 y1 y2 y3 y4 y5 y6 y7, sf = [y0, y1, y2, y3, y4, y5, y6, y7] := by
    match sf, hf8.2 with
    | [a, b, c, d, e, f, g, h'], _ => exact ⟨a, b, c, d, e, f, g, h', rfl⟩
  obtain ⟨pn, hpn⟩ : ∃ pn, pn = (padM L).length := ⟨_, rfl⟩
  have JP : Hid (∀ W', Calls Tryd.prog 44 #[.int .i64 (L : Int)] W' fun e w' => ∃ (ad : Addr) (pc : Nat), e = .returned (.slice (some ad) pn pc) ∧ Row .u8 w' (.slice (some ad) pn pc) (padM L) ∧ Kept Nought W' w') := fun W' => by
    refine (mPad (L : Int) L (by omega) (by simp) W').mono ?_
    rintro e w' ⟨v', rfl, h1, h2⟩
    obtain ⟨po, qn, pc, rfl, hLp, _, _, _, hnp⟩ := h1.row.open
    obtain rfl : qn = pn := by rw [hpn]; exact hLp.out.symm
    obtain ⟨pb, poff, e2, _⟩ := hnp 0 (by omega)
    cases e2
    exact ⟨_, _, rfl, h1.row, h2⟩
  have JK : Hid (∀ (W' : World) (pd : Addr) (pc : Nat), Kept Nought w W' → Row .u8 W' (.slice (some pd) pn pc) (padM L) → Calls Tryd.prog 22 #[.slice (some ⟨W'.heap.size, 0, none⟩) 2 2] (W'.alloc (.cells #[.slice (some ⟨yb, yoff + Wh, none⟩) rn rc, .slice (some pd) pn pc] 22)) fun e w' => ∃ (fo : Option Addr) (fc : Nat), e = .returned (.slice fo all.length fc) ∧ Row .u8 w' (.slice fo all.length fc) all ∧ Kept Nought W' w') := fun W' pd pc k hr => by
    have ka := (Kept.refl Nought W').alloc (.cells #[.slice (some ⟨yb, yoff + Wh, none⟩) rn rc, .slice (some pd) pn pc] 22)
    have hn0 := heap_alloc_new W' (.cells #[.slice (some ⟨yb, yoff + Wh, none⟩) rn rc, .slice (some pd) pn pc] 22)
    refine (sConcat W'.heap.size rn pn (some ⟨yb, yoff + Wh, none⟩) (some pd) rc pc (bs.drop Wh) (padM L) _ (by rw [cell_of_row _ _ _ _ _ _ hn0]; rfl) (by rw [cell_of_row _ _ _ _ _ _ hn0]; rfl) ((hrest W' k).grew ka) (hr.grew ka) (by omega) (by have := hall2; rw [hall, List.length_append, hRN, ← hpn] at this; omega)).mono ?_
    rintro e w' ⟨v', rfl, h1, h2⟩
    rw [← hall] at h1
    obtain ⟨fo, fc, rfl⟩ := own_slice h1
    exact ⟨fo, fc, rfl, h1.row, ka.trans h2⟩
  have JF : Hid (∀ W' fo fc, Kept Nought w W' → Row .u8 W' (.slice fo all.length fc) all → Calls Tryd.prog 43 #[.agg #[.int .u64 (x0 : Int), .int .u64 (x1 : Int), .int .u64 (x2 : Int), .int .u64 (x3 : Int), .int .u64 (x4 : Int), .int .u64 (x5 : Int), .int .u64 (x6 : Int), .int .u64 (x7 : Int)], .slice fo all.length fc] W' fun e w' => e = .returned (.agg #[.int .u64 (y0 : Int), .int .u64 (y1 : Int), .int .u64 (y2 : Int), .int .u64 (y3 : Int), .int .u64 (y4 : Int), .int .u64 (y5 : Int), .int .u64 (y6 : Int), .int .u64 (y7 : Int)]) ∧ Kept Nought W' w') := fun W' fo fc k hr => by
    have := mHashed fo all.length fc M2 st all #[.int .u64 (x0 : Int), .int .u64 (x1 : Int), .int .u64 (x2 : Int), .int .u64 (x3 : Int), .int .u64 (x4 : Int), .int .u64 (x5 : Int), .int .u64 (x6 : Int), .int .u64 (x7 : Int)] (by rw [hxx]; rfl) W' (hT.grew k) hh8.2 hh8.1 hr hald hM2 hall2
    rw [← hsf, hyy] at this
    exact this
  have HYY := toHid hyy
  have HW := toHid hW
  have HK0 := toHid k0
  have HO0 := toHid hO0
  have HS0 := toHid hS0
  have c0 := HS0.out.cell 0 (by simp)
  have c1 := HS0.out.cell 1 (by simp)
  have c2 := HS0.out.cell 2 (by simp)
  have c3 := HS0.out.cell 3 (by simp)
  have c4 := HS0.out.cell 4 (by simp)
  have c5 := HS0.out.cell 5 (by simp)
  have c6 := HS0.out.cell 6 (by simp)
  have c7 := HS0.out.cell 7 (by simp)
  have HWl := toHid (show Wh = 128 * (L / 128) ∧ L ≤ 1000000 from ⟨hM, hL⟩)
  clear hWh hrn hrc hcw
  clear hrest hb hbd hT hst hxx hh8 hall hM2 hall2 hald hsf hf8 hyy hM hW k0 hO0 hS0 hpl hpz hRN hpn hs hsd
  go_enter Tryd.func31, Tryd.ntmps31
  go_wp2_with fail
  rw [← HW.out]
  go_region_with (go_at_call 43; refine (JH.out _ ((Kept.refl _ _).drew)).mono ?_; rintro e w8 ⟨rfl, k8⟩; have hR8 := HS0.out.grew k8; have o0 := hR8.free 0; have o1 := hR8.free 1; have o2 := hR8.free 2; have o3 := hR8.free 3; have o4 := hR8.free 4; have o5 := hR8.free 5; have o6 := hR8.free 6; have o7 := hR8.free 7; have d0 := k8.cellN c0; have d1 := k8.cellN c1; have d2 := k8.cellN c2; have d3 := k8.cellN c3; have d4 := k8.cellN c4; have d5 := k8.cellN c5; have d6 := k8.cellN c6; have d7 := k8.cellN c7)
  all_goals
    have hR9 := hR8.put8 rfl x0 x1 x2 x3 x4 x5 x6 x7
    have kO := HO0.out.grew k8
    have kA := (HK0.out.trans k8).next (kept8 w8 w.heap.size (.int .u64 (x0 : Nat)) (.int .u64 (x1 : Nat)) (.int .u64 (x2 : Nat)) (.int .u64 (x3 : Nat)) (.int .u64 (x4 : Nat)) (.int .u64 (x5 : Nat)) (.int .u64 (x6 : Nat)) (.int .u64 (x7 : Nat))) (fun x hx e => by have e' : x = w.heap.size := e; omega)
    have hO9 := kO.kept (kept8 w8 w.heap.size (.int .u64 (x0 : Nat)) (.int .u64 (x1 : Nat)) (.int .u64 (x2 : Nat)) (.int .u64 (x3 : Nat)) (.int .u64 (x4 : Nat)) (.int .u64 (x5 : Nat)) (.int .u64 (x6 : Nat)) (.int .u64 (x7 : Nat))) (by omega)
    obtain ⟨W3, hW3⟩ : ∃ W3, W3 = (((((((w8.setCell ⟨w.heap.size, 0, none⟩ (.int .u64 (x0 : Nat))).setCell ⟨w.heap.size, 1, none⟩ (.int .u64 (x1 : Nat))).setCell ⟨w.heap.size, 2, none⟩ (.int .u64 (x2 : Nat))).setCell ⟨w.heap.size, 3, none⟩ (.int .u64 (x3 : Nat))).setCell ⟨w.heap.size, 4, none⟩ (.int .u64 (x4 : Nat))).setCell ⟨w.heap.size, 5, none⟩ (.int .u64 (x5 : Nat))).setCell ⟨w.heap.size, 6, none⟩ (.int .u64 (x6 : Nat))).setCell ⟨w.heap.size, 7, none⟩ (.int .u64 (x7 : Nat)) := ⟨_, rfl⟩
    rw [← hW3] at hR9 kA hO9 ⊢
    have JR : Hid (∀ w', Kept Nought W3 w' → w'.cell? ⟨w.heap.size, 0, none⟩ = some (.int .u64 (x0 : Int)) ∧ w'.cell? ⟨w.heap.size, 1, none⟩ = some (.int .u64 (x1 : Int)) ∧ w'.cell? ⟨w.heap.size, 2, none⟩ = some (.int .u64 (x2 : Int)) ∧ w'.cell? ⟨w.heap.size, 3, none⟩ = some (.int .u64 (x3 : Int)) ∧ w'.cell? ⟨w.heap.size, 4, none⟩ = some (.int .u64 (x4 : Int)) ∧ w'.cell? ⟨w.heap.size, 5, none⟩ = some (.int .u64 (x5 : Int)) ∧ w'.cell? ⟨w.heap.size, 6, none⟩ = some (.int .u64 (x6 : Int)) ∧ w'.cell? ⟨w.heap.size, 7, none⟩ = some (.int .u64 (x7 : Int))) := fun w' k => by
      have h := hR9.grew k
      exact ⟨h.cell 0 (by simp), h.cell 1 (by simp), h.cell 2 (by simp), h.cell 3 (by simp), h.cell 4 (by simp), h.cell 5 (by simp), h.cell 6 (by simp), h.cell 7 (by simp)⟩
    obtain ⟨q0, q1, q2, q3, q4, q5, q6, q7⟩ := JR.out W3 (Kept.refl _ _)
    have HKA := toHid kA
    have HO9 := toHid hO9
    clear hW3 hR8 hR9 kO kA hO9 k8 JH HS0 HO0 HK0 HW c0 c1 c2 c3 c4 c5 c6 c7 o0 o1 o2 o3 o4 o5 o6 o7 d0 d1 d2 d3 d4 d5 d6 d7
    go_wp2_with fail
    go_region_held3 (fun w' => w'.cell? ⟨w.heap.size, 0, none⟩ = some (.int .u64 (x0 : Int)) ∧ w'.cell? ⟨w.heap.size, 1, none⟩ = some (.int .u64 (x1 : Int)) ∧ w'.cell? ⟨w.heap.size, 2, none⟩ = some (.int .u64 (x2 : Int)) ∧ w'.cell? ⟨w.heap.size, 3, none⟩ = some (.int .u64 (x3 : Int)) ∧ w'.cell? ⟨w.heap.size, 4, none⟩ = some (.int .u64 (x4 : Int)) ∧ w'.cell? ⟨w.heap.size, 5, none⟩ = some (.int .u64 (x5 : Int)) ∧ w'.cell? ⟨w.heap.size, 6, none⟩ = some (.int .u64 (x6 : Int)) ∧ w'.cell? ⟨w.heap.size, 7, none⟩ = some (.int .u64 (x7 : Int)))
      (((try dsimp only); (repeat' apply And.intro) <;> (repeat (first | (with_reducible assumption) | (with_reducible refine keepAl ?_) | (with_reducible refine keepDr ?_) | (with_reducible refine keepS8 ?_ (by dsimp only; omega)))); done))
      (first
      | (go_at_call 43; refine (JF.out _ fo6 fc6 (HKA.out.trans k6) r6).mono ?_; rintro e w7 ⟨rfl, kl7⟩; have k7 := k6.trans kl7; obtain ⟨t0, t1, t2, t3, t4, t5, t6, t7⟩ := JR.out w7 k7; have hO7 := HO9.out.grew k7; have p0 := hO7.cell 0 (by simp); have p1 := hO7.cell 1 (by simp); have p2 := hO7.cell 2 (by simp); have p3 := hO7.cell 3 (by simp); have p4 := hO7.cell 4 (by simp); have p5 := hO7.cell 5 (by simp); have p6 := hO7.cell 6 (by simp); have p7 := hO7.cell 7 (by simp); have f0 := hO7.free 0; have f1 := hO7.free 1; have f2 := hO7.free 2; have f3 := hO7.free 3; have f4 := hO7.free 4; have f5 := hO7.free 5; have f6 := hO7.free 6; have f7 := hO7.free 7)
      | (go_at_call 22; refine (JK.out _ ad5 pc5 (HKA.out.trans k5) r5).mono ?_; rintro e w6 ⟨fo6, fc6, rfl, r6, kl6⟩; have k6 := k5.trans kl6; obtain ⟨a0, a1, a2, a3, a4, a5, a6, a7⟩ := JR.out w6 k6)
      | (go_at_call 44; refine (JP.out _).mono ?_; rintro e w5 ⟨ad5, pc5, rfl, r5, kl5⟩; have k5 := (Kept.refl Nought W3).drew.trans kl5; obtain ⟨v0, v1, v2, v3, v4, v5, v6, v7⟩ := JR.out w5 k5))
    all_goals
      have hF := hO7.put8 rfl y0 y1 y2 y3 y4 y5 y6 y7
      have z0 := hF.cell 0 (by simp)
      have z1 := hF.cell 1 (by simp)
      have z2 := hF.cell 2 (by simp)
      have z3 := hF.cell 3 (by simp)
      have z4 := hF.cell 4 (by simp)
      have z5 := hF.cell 5 (by simp)
      have z6 := hF.cell 6 (by simp)
      have z7 := hF.cell 7 (by simp)
      have KF := toHid ((HKA.out.trans k7).next (kept8 w7 (w.heap.size + 1) (.int .u64 (y0 : Nat)) (.int .u64 (y1 : Nat)) (.int .u64 (y2 : Nat)) (.int .u64 (y3 : Nat)) (.int .u64 (y4 : Nat)) (.int .u64 (y5 : Nat)) (.int .u64 (y6 : Nat)) (.int .u64 (y7 : Nat))) (fun x hx e => by have e' : x = w.heap.size + 1 := e; omega))
      go_wp2_with fail
      rw [HSum.out, HYY.out]
      exact bodyPost_ret (v := .agg #[.int .u64 (y0 : Int), .int .u64 (y1 : Int), .int .u64 (y2 : Int), .int .u64 (y3 : Int), .int .u64 (y4 : Int), .int .u64 (y5 : Int), .int .u64 (y6 : Int), .int .u64 (y7 : Int)]) (by simp [results, Tryd.results31, go_sem, z0, z1, z2, z3, z4, z5, z6, z7]) rfl ⟨rfl, KF.out⟩

/-- digested, of whatever bytes. -/
theorem mDigested (s : List Nat) (sv : Array Value) (hsv : sv = (s.map fun z => Value.int .u64 (z : Nat)).toArray) (hs : s.length = 8) (hsd : Digs 18446744073709551616 s) (v : Value) (bs : List Nat) (w : World) (hT : Tab12 w) (hb : Row .u8 w v bs) (hbd : Digs 256 bs) (hl : bs.length ≤ 1000000) :
    Calls Tryd.prog 31 #[.agg sv, v] w fun e w' => e = .returned (.agg ((digM s bs).map fun z => Value.int .u64 (z : Nat)).toArray) ∧ Kept Nought w w' := by
  obtain ⟨ao, n, cap, rfl, hLb, hc, _, hnone, hnum⟩ := hb.open
  have hlb := hLb.out
  cases ao with
  | none =>
    obtain rfl := hnone rfl
    obtain rfl : n = 0 := by omega
    obtain rfl : bs = [] := List.length_eq_zero_iff.1 hlb
    exact mDigestedN s sv hsv hs hsd w hT
  | some ad =>
    by_cases hn : n = 0
    · subst hn
      obtain rfl : bs = [] := List.length_eq_zero_iff.1 hlb
      exact mDigestedE s sv hsv hs hsd ad cap w hT hb
    · obtain ⟨yb, yoff, e1, _⟩ := hnum 0 (by omega)
      cases e1
      by_cases hw : cap = n - n % 128
      · obtain rfl : cap = n := by omega
        exact mDigestedW s sv hsv hs hsd yb yoff cap bs w hT hb hbd (by omega) (by omega)
      · exact mDigestedP s sv hsv hs hsd yb yoff n cap _ _ _ bs w hT hb hbd (by omega) rfl hw rfl rfl

theorem digM_digs (short : Bool) (bs : List Nat) : Digs 18446744073709551616 (digM (H5 short) bs) ∧ (digM (H5 short) bs).length = 8 := hs_digsM (H5_digs short).2 (H5_digs short).1 _

theorem sumM_dig (short : Bool) (bs : List Nat) : sumM short bs = (outM (digM (H5 short) bs) 8).take (if short = true then 48 else 64) := by
  unfold sumM sum64M digM
  cases short
  · simp only [Bool.false_eq_true, if_false]
    rw [List.take_of_length_le (by rw [outM_length]; omega)]
  · simp only [if_true]

set_option maxRecDepth 20000 in
set_option maxHeartbeats 1000000 in
/-- Sum, of whatever bytes. -/
theorem mSum (v : Value) (bs : List Nat) (w : World) (hT : Tab12 w) (hb : Row .u8 w v bs) (hbd : Digs 256 bs) (hl : bs.length ≤ 1000000) :
    Calls Tryd.prog 21 #[v] w fun e w' => ∃ v', e = .returned v' ∧ OwnB w' w.heap.size v' (sumM false bs) ∧ Kept Nought w w' := by
  obtain ⟨ao, n, cap, rfl, _⟩ := hb.open
  obtain ⟨h1, h2⟩ := digM_digs false bs
  obtain ⟨sv, hsv⟩ : ∃ sv, sv = ((H5 false).map fun z => Value.int .u64 (z : Nat)).toArray := ⟨_, rfl⟩
  obtain ⟨dv, hdv⟩ : ∃ dv, dv = ((digM (H5 false) bs).map fun z => Value.int .u64 (z : Nat)).toArray := ⟨_, rfl⟩
  have hA := mStart false w hT
  rw [← hsv] at hA
  have JD : Hid (∀ W, Kept Nought w W → Calls Tryd.prog 31 #[.agg sv, .slice ao n cap] W fun e w' => e = .returned (.agg dv) ∧ Kept Nought W w') := fun W k => by
    rw [hdv]
    exact mDigested (H5 false) sv hsv (H5_digs false).2 (H5_digs false).1 _ bs W (hT.grew k) (hb.grew k) hbd hl
  have JO : Hid (∀ W, Calls Tryd.prog 30 #[.agg dv, .int .i64 64] W fun e w' => ∃ v', e = .returned v' ∧ OwnB w' W.heap.size v' (sumM false bs) ∧ Kept Nought W w') := fun W => by
    rw [sumM_dig]
    exact mBytesOf _ 64 dv hdv W h2 h1 (by omega) (by omega)
  clear hb hbd hT hsv hdv h1 h2
  go_enter Tryd.func21, Tryd.ntmps21
  go_wp2_with fail
  refine hA.mono ?_
  rintro e w1 ⟨rfl, k1⟩
  clear hA
  go_wp2_with fail
  refine (JD.out _ k1).mono ?_
  rintro e w2 ⟨rfl, k2⟩
  go_wp2_with fail
  refine (JO.out _).mono ?_
  rintro e w3 ⟨v3, rfl, o3, k3⟩
  have HO := toHid (OwnB.base o3 (Nat.le_trans k1.size k2.size))
  have HK := toHid (k1.trans (k2.trans k3))
  clear o3 k1 k2 k3
  go_wp2_with fail
  go_ret
  exact ⟨_, rfl, HO.out, HK.out⟩

set_option maxRecDepth 20000 in
set_option maxHeartbeats 1000000 in
/-- Sum384, of whatever bytes. -/
theorem mSum384 (v : Value) (bs : List Nat) (w : World) (hT : Tab12 w) (hb : Row .u8 w v bs) (hbd : Digs 256 bs) (hl : bs.length ≤ 1000000) :
    Calls Tryd.prog 20 #[v] w fun e w' => ∃ v', e = .returned v' ∧ OwnB w' w.heap.size v' (sumM true bs) ∧ Kept Nought w w' := by
  obtain ⟨ao, n, cap, rfl, _⟩ := hb.open
  obtain ⟨h1, h2⟩ := digM_digs true bs
  obtain ⟨sv, hsv⟩ : ∃ sv, sv = ((H5 true).map fun z => Value.int .u64 (z : Nat)).toArray := ⟨_, rfl⟩
  obtain ⟨dv, hdv⟩ : ∃ dv, dv = ((digM (H5 true) bs).map fun z => Value.int .u64 (z : Nat)).toArray := ⟨_, rfl⟩
  have hA := mStart true w hT
  rw [← hsv] at hA
  have JD : Hid (∀ W, Kept Nought w W → Calls Tryd.prog 31 #[.agg sv, .slice ao n cap] W fun e w' => e = .returned (.agg dv) ∧ Kept Nought W w') := fun W k => by
    rw [hdv]
    exact mDigested (H5 true) sv hsv (H5_digs true).2 (H5_digs true).1 _ bs W (hT.grew k) (hb.grew k) hbd hl
  have JO : Hid (∀ W, Calls Tryd.prog 30 #[.agg dv, .int .i64 48] W fun e w' => ∃ v', e = .returned v' ∧ OwnB w' W.heap.size v' (sumM true bs) ∧ Kept Nought W w') := fun W => by
    rw [sumM_dig]
    exact mBytesOf _ 48 dv hdv W h2 h1 (by omega) (by omega)
  clear hb hbd hT hsv hdv h1 h2
  go_enter Tryd.func20, Tryd.ntmps20
  go_wp2_with fail
  refine hA.mono ?_
  rintro e w1 ⟨rfl, k1⟩
  clear hA
  go_wp2_with fail
  refine (JD.out _ k1).mono ?_
  rintro e w2 ⟨rfl, k2⟩
  go_wp2_with fail
  refine (JO.out _).mono ?_
  rintro e w3 ⟨v3, rfl, o3, k3⟩
  have HO := toHid (OwnB.base o3 (Nat.le_trans k1.size k2.size))
  have HK := toHid (k1.trans (k2.trans k3))
  clear o3 k1 k2 k3
  go_wp2_with fail
  go_ret
  exact ⟨_, rfl, HO.out, HK.out⟩

end Go.Proofs.YthnkganmccgaeaaDoor

