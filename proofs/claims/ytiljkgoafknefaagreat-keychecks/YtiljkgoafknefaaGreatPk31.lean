/- Put together of: Iva3. -/
import Derived.Test.YtiljkgoafknefaaGreatPk20
import Derived.Test.YtiljkgoafknefaaGreatPk26
import Derived.Test.YtiljkgoafknefaaGreatPk30

/- Melted of: Ivn5 Ivn6. -/

/- Package inverse: stepped. -/
namespace Go.Proofs.YtiljkgoafknefaaGreat
open Go.RowKit

/-- What a step writes down. -/
def stEvs (n : Nat) : List Ev := List.replicate 8 (1, (n : Int), 0) ++ List.replicate 4 (1, ((n + 1 : Nat) : Int), 0)

theorem stEvs_length (n : Nat) : (stEvs n).length = 12 := rfl

/-- A cell elsewhere stays where five cells are written. -/
theorem keep5 {W : World} {a : Addr} {p : Nat} {x y z u v q : Value} (h : W.cell? a = some q) (hne : a.block ≠ p) : (((((W.setCell ⟨p, 0, none⟩ x).setCell ⟨p, 1, none⟩ y).setCell ⟨p, 2, none⟩ z).setCell ⟨p, 3, none⟩ u).setCell ⟨p, 4, none⟩ v).cell? a = some q := by
  have e : ∀ (w : World) (j : Nat) (r : Value), (w.setCell ⟨p, j, none⟩ r).cell? a = w.cell? a := fun w j r => by
    unfold World.cell?
    rw [Below.heap_setCell w ⟨p, j, none⟩ r a.block hne]
  rw [e, e, e, e, e]
  exact h

set_option maxRecDepth 40000 in
set_option maxHeartbeats 8000000 in
/-- stepped. -/
theorem iStep {w0 : World} {o0 : Tr} {m : List Ev} {po : Option Addr} {k : Nat} (n M U V t a : Nat) (d F G : Int) (uo vo fo go ao bo : Option Addr) (uc vc fc gc mcap l K rcap : Nat) {w : World} {o : Tr} (s : Wr w0 o0 m w o (.pointer po) (k + 12)) (hst : StIn (18446744073709551616 ^ n) t (d, F, G)) (ht : t ≤ 100000) (hm : NumT w o (.slice ao n mcap) n M) (hu : NumT w o (.slice uo n uc) n U) (hv : NumT w o (.slice vo n vc) n V) (hf : NumT w o (.slice fo (n + 1) fc) (n + 1) (tcN (18446744073709551616 ^ (n + 1)) F)) (hg : NumT w o (.slice go (n + 1) gc) (n + 1) (tcN (18446744073709551616 ^ (n + 1)) G)) (hn0 : 0 < n) (hn : n ≤ 800) :
    Calls Tryz.prog 125 #[.pointer po, .agg #[.slice ao n mcap, .int .u64 (K : Nat), .slice bo l rcap], .agg #[.slice uo n uc, .slice vo n vc, .slice fo (n + 1) fc, .slice go (n + 1) gc, .int .u64 (tcN 18446744073709551616 d : Nat)]] w fun e w' => ∃ (u' v' f' g' : Value), e = .returned (.agg #[u', v', f', g', .int .u64 (tcN 18446744073709551616 (dst (d, F, G)).1 : Nat)]) ∧ ∃ (U' V' : Nat) (o' : Tr), Hid (M < 18446744073709551616 ^ n → M % 2 = 1 → F % 2 = 1 → CoOk M a U V (d, F, G) → CoOk M a U' V' (dst (d, F, G))) ∧ NumN w' o' u' n U' ∧ NumN w' o' v' n V' ∧ NumN w' o' f' (n + 1) (tcN (18446744073709551616 ^ (n + 1)) (dst (d, F, G)).2.1) ∧ NumN w' o' g' (n + 1) (tcN (18446744073709551616 ^ (n + 1)) (dst (d, F, G)).2.2) ∧ Did w o (stEvs n) w' o' ∧ Wr w0 o0 (m ++ stEvs n) w' o' (.pointer po) k := by
  obtain ⟨E, y, od, sw, mk, A, C, D', x, hb⟩ := st_bits d G (by have := hst.1; dsimp only at this; omega) (by have := hst.1; dsimp only at this; omega)
  obtain ⟨z1, z2, z3, z4⟩ := step_num hst hb.hod hb.hso hb.esw
  have eD : tcN 18446744073709551616 (dst (d, F, G)).1 = D' := by rw [dst_eq, ← hb.esw]; exact hb.eD.symm
  have hsw1 : sw ≤ 1 := by have := hb.hso; omega
  have hx1 : x ≤ 1 := by have := hb.hso; omega
  have hodg : tcN (18446744073709551616 ^ (n + 1)) G % 2 = od := by
    have := tc_odd (B := 18446744073709551616 ^ (n + 1)) hst.2.2 (by rw [Nat.pow_succ]; omega) (by rw [Nat.pow_succ]; omega)
    have h2 := hb.hod
    dsimp only at this
    omega
  rw [eD]
  have HCo : Hid (∀ V' : Nat, CoStep n M U V sw od V' → M < 18446744073709551616 ^ n → M % 2 = 1 → F % 2 = 1 → CoOk M a U V (d, F, G) → CoOk M a (selN sw V U) V' (dst (d, F, G))) := fun V' hc hM h2 hF hok => by
    obtain ⟨c1, c2⟩ := hc hM h2 hok.1 hok.2.1
    refine hok.step h2 hF ?_ c1 ?_
    · rw [← hb.esw]
      unfold selN
      by_cases e : sw = 1
      · rw [if_pos (by omega), if_pos e]
      · rw [if_neg (by omega), if_neg e]
    · rw [← hb.esw, ← hb.hod]
      exact c2
  obtain ⟨F', hF'⟩ : ∃ F', F' = (dst (d, F, G)).2.1 := ⟨_, rfl⟩
  obtain ⟨G', hG'⟩ : ∃ G', G' = (dst (d, F, G)).2.2 := ⟨_, rfl⟩
  obtain ⟨L, hL⟩ : ∃ L, L = n + 1 := ⟨_, rfl⟩
  have hL0 : 0 < L := by omega
  have hLb : L ≤ 801 := by omega
  rw [← hF'] at z2
  rw [← hG'] at z4
  rw [← hF', ← hG']
  have hSg : ∀ (c : Nat) (v : Value) (X : Nat) {w0 : World} {o0 : Tr} {m : List Ev} {tp : Value} {k : Nat} {w : World} {o : Tr} (s : Wr w0 o0 m w o tp (k + 1)) (h : NumT w o v L X) (hc : c = X / (9223372036854775808 * 18446744073709551616 ^ n)) (hc1 : c ≤ 1),
    Calls Tryz.prog 150 #[tp, v] w fun e w' => ∃ (v' : Value), e = .returned v' ∧ ∃ (Z : Nat) (o' : Tr), Hid (Z = (X + c % 2 * 18446744073709551616 ^ L) / 2) ∧ NumN w' o' v' L Z ∧ Did w o [(1, (L : Int), 0)] w' o' ∧ Wr w0 o0 (m ++ [(1, (L : Int), 0)]) w' o' tp k := by
    intro c v X w0 o0 m tp k w o s h hc hc1
    rw [hL] at h ⊢
    exact iHalf n X c v s h (by omega) hc hc1
  have HE : Hid (stEvs n = List.replicate 8 (1, (n : Int), 0) ++ ([(1, (L : Int), 0)] ++ [(1, (L : Int), 0), (1, (L : Int), 0)] ++ [(1, (L : Int), 0)])) := by
    unfold Hid stEvs
    rw [hL]
    rfl
  rw [← hL] at z1 z2 z3 z4 hf hg hodg ⊢
  obtain ⟨TG, hTG⟩ : ∃ TG, TG = tcN (18446744073709551616 ^ L) G := ⟨_, rfl⟩
  obtain ⟨TF, hTF⟩ : ∃ TF, TF = tcN (18446744073709551616 ^ L) F := ⟨_, rfl⟩
  obtain ⟨TX, hTX⟩ : ∃ TX, TX = tcN (18446744073709551616 ^ L) (G + (G % 2 - 2 * (swN d G : Int)) * F) := ⟨_, rfl⟩
  obtain ⟨D, hD⟩ : ∃ D, D = tcN 18446744073709551616 d := ⟨_, rfl⟩
  rw [← hTG, ← hTF, ← hTX] at z1
  rw [← hTG, ← hTF] at z2
  rw [← hTX] at z3 z4
  rw [← hTF] at hf
  rw [← hTG] at hg hodg
  rw [← hD] at hb ⊢
  obtain ⟨W, hW⟩ : ∃ W, W = ((w.alloc (.cells #[.slice ao n mcap, .int .u64 (K : Nat), .slice bo l rcap] 90)).alloc (.cells #[.slice uo n uc, .slice vo n vc, .slice fo L fc, .slice go L gc, .int .u64 (D : Nat)] 138)).alloc (.cells #[.slice none 0 0, .slice none 0 0, .slice none 0 0, .slice none 0 0, .int .u64 0] 138) := ⟨_, rfl⟩
  have k0 : Kept Nought w W := by rw [hW]; exact (((Kept.refl Nought w).alloc _).alloc _).alloc _
  have b1 : W.heap[w.heap.size]? = some (.cells #[.slice ao n mcap, .int .u64 (K : Nat), .slice bo l rcap] 90 (0, 0)) := by rw [hW]; exact heapAt_alloc (heapAt_alloc (heap_alloc_new _ _))
  have b2 : W.heap[w.heap.size + 1]? = some (.cells #[.slice uo n uc, .slice vo n vc, .slice fo L fc, .slice go L gc, .int .u64 (D : Nat)] 138 (0, 0)) := by
    rw [hW]
    refine heapAt_alloc ?_
    have := heap_alloc_new (w.alloc (.cells #[.slice ao n mcap, .int .u64 (K : Nat), .slice bo l rcap] 90)) (.cells #[.slice uo n uc, .slice vo n vc, .slice fo L fc, .slice go L gc, .int .u64 (D : Nat)] 138)
    simpa using this
  have b3 : W.heap[w.heap.size + 1 + 1]? = some (.cells #[.slice none 0 0, .slice none 0 0, .slice none 0 0, .slice none 0 0, .int .u64 0] 138 (0, 0)) := by
    rw [hW]
    have := heap_alloc_new ((w.alloc (.cells #[.slice ao n mcap, .int .u64 (K : Nat), .slice bo l rcap] 90)).alloc (.cells #[.slice uo n uc, .slice vo n vc, .slice fo L fc, .slice go L gc, .int .u64 (D : Nat)] 138)) (.cells #[.slice none 0 0, .slice none 0 0, .slice none 0 0, .slice none 0 0, .int .u64 0] 138)
    simpa using this
  have tiW : TrIn W o := s.room.1.grew k0
  have JC : Hid (∀ W' m' o', Did W o m' W' o' → (W'.cell? ⟨w.heap.size, 0, none⟩ = some (.slice ao n mcap) ∧ W'.cell? ⟨w.heap.size, 1, none⟩ = some (.int .u64 (K : Nat)) ∧ W'.cell? ⟨w.heap.size, 2, none⟩ = some (.slice bo l rcap)) ∧ (W'.cell? ⟨w.heap.size + 1, 0, none⟩ = some (.slice uo n uc) ∧ W'.cell? ⟨w.heap.size + 1, 1, none⟩ = some (.slice vo n vc) ∧ W'.cell? ⟨w.heap.size + 1, 2, none⟩ = some (.slice fo L fc) ∧ W'.cell? ⟨w.heap.size + 1, 3, none⟩ = some (.slice go L gc) ∧ W'.cell? ⟨w.heap.size + 1, 4, none⟩ = some (.int .u64 (D : Nat)))) := fun W' m' o' d =>
    ⟨cells3 (d.cells b1 tiW (by decide) (by decide)), cells5 (d.cells b2 tiW (by decide) (by decide))⟩
  have JR : Hid (∀ W' m' o', Did W o m' W' o' → W'.heap[w.heap.size + 1 + 1]? = some (.cells #[.slice none 0 0, .slice none 0 0, .slice none 0 0, .slice none 0 0, .int .u64 0] 138 (0, 0))) := fun W' m' o' d => d.cells b3 tiW (by decide) (by decide)
  have dW : Did W o [] W o := Did.of_kept (Kept.refl Nought W) tiW
  have sW : Wr W o [] W o (.pointer po) (k + 12) := ⟨dW, s.room.grew k0, s.ptr⟩
  have HG := toHid (hg.grew k0)
  have HF := toHid (hf.grew k0)
  -- the lowest word of g
  obtain ⟨_, _, _, e1, _, _, _, _, hnum⟩ := (hg.grew k0).1.1.open
  cases e1
  obtain ⟨gb, goff, rfl, hg0⟩ := digs_at (hnum 0 hL0) hL0
  have hdg : dig 18446744073709551616 TG 0 = TG % 18446744073709551616 := by unfold dig; rw [Nat.pow_zero, Nat.div_one]
  rw [hdg, Nat.add_zero] at hg0
  have hand := and_one_u64 ((TG % 18446744073709551616 : Nat) : Int) (by omega) (by omega)
  rw [show ((TG % 18446744073709551616 : Nat) : Int) % 2 = (od : Int) by omega] at hand
  generalize TG % 18446744073709551616 = T0 at *
  have hE := hb.hE
  have hy := hb.hy
  have hsw := hb.hsw
  have hA := hb.hA
  have h1 := hb.h1
  have hC := hb.hC
  have hD' := hb.hD
  have hMk := wMask (sw : Int) (by omega) (by omega) W
  rw [hb.hmk] at hMk
  have J1 : Hid (∀ W', Kept Nought W W' → Calls Tryz.prog 149 #[.agg #[.slice uo n uc, .slice vo n vc], .pointer po, .agg #[.slice ao n mcap, .int .u64 (K : Nat), .slice bo l rcap], .int .u64 (sw : Nat), .int .u64 (od : Nat)] W' fun e w' => ∃ (uo' : Option Addr) (uc' : Nat) (vo' : Option Addr) (vc' : Nat), e = .returned (.agg #[.slice uo' n uc', .slice vo' n vc']) ∧ ∃ (U' V' : Nat) (o' : Tr), Hid (U' = selN sw V U ∧ CoStep n M U V sw od V') ∧ NumN w' o' (.slice uo' n uc') n U' ∧ NumN w' o' (.slice vo' n vc') n V' ∧ Wr W o (List.replicate 8 (1, (n : Int), 0)) w' o' (.pointer po) (k + 4)) := fun W' kk => by
    refine (iCo n M U V sw od x uo vo ao bo uc vc mcap l K rcap (k := k + 4) (sW.grew kk) hb.hso hb.hx ((hm.grew k0).grew kk) ((hu.grew k0).grew kk) ((hv.grew k0).grew kk) hn0 (by omega)).mono ?_
    rintro e w' ⟨u', v', rfl, U', V', o', q, nu, nv, _, s'⟩
    obtain ⟨uo', uc', rfl⟩ := nu.1.shape
    obtain ⟨vo', vc', rfl⟩ := nv.1.shape
    exact ⟨uo', uc', vo', vc', rfl, U', V', o', q, nu, nv, s'⟩
  have J2 : Hid (∀ W' o', Wr W o (List.replicate 8 (1, (n : Int), 0)) W' o' (.pointer po) (k + 4) → Calls Tryz.prog 127 #[.pointer po, .int .u64 (sw : Nat), .slice (some ⟨gb, goff, none⟩) L gc, .slice fo L fc] W' fun e w' => ∃ (xo : Option Addr) (xc : Nat), e = .returned (.slice xo L xc) ∧ ∃ (Z : Nat) (o'' : Tr), Hid (Z = selN sw TG TF) ∧ NumN w' o'' (.slice xo L xc) L Z ∧ Did W' o' [(1, (L : Int), 0)] w' o'' ∧ Wr W o (List.replicate 8 (1, (n : Int), 0) ++ [(1, (L : Int), 0)]) w' o'' (.pointer po) (k + 3)) := fun W' o' s' => by
    refine (iSelect sw L TG TF _ _ (k := k + 3) s' hsw1 (HG.out.did s'.did) (HF.out.did s'.did) (by omega)).mono ?_
    rintro e w' ⟨v', rfl, Z, o'', q, nz, d', s''⟩
    obtain ⟨xo, xc, rfl⟩ := nz.1.shape
    exact ⟨xo, xc, rfl, Z, o'', q, nz, d', s''⟩
  have J3 : Hid (∀ W' o' m', Wr W o m' W' o' (.pointer po) (k + 3) → Calls Tryz.prog 151 #[.pointer po, .int .u64 (sw : Nat), .int .u64 (od : Nat), .slice (some ⟨gb, goff, none⟩) L gc, .slice fo L fc] W' fun e w' => ∃ (v' : Value), e = .returned v' ∧ ∃ (Z : Nat) (o'' : Tr), Hid (Z = TX) ∧ NumN w' o'' v' L Z ∧ Did W' o' [(1, (L : Int), 0), (1, (L : Int), 0)] w' o'' ∧ Wr W o (m' ++ [(1, (L : Int), 0), (1, (L : Int), 0)]) w' o'' (.pointer po) (k + 1)) := fun W' o' m' s' => by
    refine (iComb sw od x L TG TF _ _ (k := k + 1) s' hsw1 hx1 hb.hx (HG.out.did s'.did) (HF.out.did s'.did) (by omega)).mono ?_
    rintro e w' ⟨v', rfl, Z, o'', q, nz, d', s''⟩
    exact ⟨v', rfl, Z, o'', q.out.trans z1, nz, d', s''⟩
  have J4 : Hid (∀ W' o' m' v', Wr W o m' W' o' (.pointer po) (k + 1) → NumN W' o' v' L TX → Calls Tryz.prog 150 #[.pointer po, v'] W' fun e w' => ∃ (xo : Option Addr) (xc : Nat), e = .returned (.slice xo L xc) ∧ ∃ (o'' : Tr), NumN w' o'' (.slice xo L xc) L (tcN (18446744073709551616 ^ L) G') ∧ Did W' o' [(1, (L : Int), 0)] w' o'' ∧ Wr W o (m' ++ [(1, (L : Int), 0)]) w' o'' (.pointer po) k) := fun W' o' m' v' s' nv => by
    refine (hSg _ v' TX s' nv.1 rfl z3).mono ?_
    rintro e w' ⟨v', rfl, Z, o'', q, nz, d', s''⟩
    rw [q.out, z4] at nz
    obtain ⟨xo, xc, rfl⟩ := nz.1.shape
    exact ⟨xo, xc, rfl, o'', nz, d', s''⟩
  have HW := toHid hW
  have HK := toHid k0
  have HS := toHid s
  have Z2 := toHid z2
  have HKS : Hid (w.heap.size + 1 + 1 ≤ W.heap.size) := by have := lt_of_block b3; unfold Hid; omega
  obtain ⟨⟨c0, c1, c2⟩, c3, c4, c5, c6, c7⟩ := JC.out W [] o dW
  clear hm hu hv hf hg hW k0 s hst b1 b2 b3 dW sW tiW z1 z2 z3 z4 hb hnum hdg hodg eD hTG hTF hTX hD hF' hG' hL hSg HG HF hx1
  go_enter Tryz.func125, Tryz.ntmps125
  go_wp2_with (rw [← HW.out])
  refine hMk.mono ?_
  rintro e w1 ⟨rfl, rfl⟩
  clear hMk hand hE hy hsw hg0
  go_wp2_with fail
  go_region_held3 (fun w' => (w'.cell? ⟨w.heap.size, 0, none⟩ = some (.slice ao n mcap) ∧ w'.cell? ⟨w.heap.size, 1, none⟩ = some (.int .u64 (K : Int)) ∧ w'.cell? ⟨w.heap.size, 2, none⟩ = some (.slice bo l rcap)) ∧ (w'.cell? ⟨w.heap.size + 1, 0, none⟩ = some (.slice uo n uc) ∧ w'.cell? ⟨w.heap.size + 1, 1, none⟩ = some (.slice vo n vc) ∧ w'.cell? ⟨w.heap.size + 1, 2, none⟩ = some (.slice fo L fc) ∧ w'.cell? ⟨w.heap.size + 1, 3, none⟩ = some (.slice (some ⟨gb, goff, none⟩) L gc) ∧ w'.cell? ⟨w.heap.size + 1, 4, none⟩ = some (.int .u64 (D : Int))))
    (((try dsimp only); (repeat' apply And.intro) <;> first | (with_reducible assumption) | (with_reducible refine keep5 ?_ ?_; (with_reducible assumption); (dsimp only; omega)) | (go_keep; done)))
    (first
    | (go_at_call 149; refine (J1.out _ ?_).mono ?_; (exact kdrew (kself _)); rintro e w2 ⟨uo', uc', vo', vc', rfl, U', V', o2, q2, nu2, nv2, s2⟩; obtain ⟨⟨p0, p1, p2⟩, p3, p4, p5, p6, p7⟩ := JC.out w2 _ o2 s2.did)
    | (go_at_call 127; refine (J2.out _ o2 s2).mono ?_; rintro e w3 ⟨fo', fc', rfl, Z3, o3, q3, n3, d3, s3⟩; obtain ⟨⟨r0, r1, r2⟩, r3, r4, r5, r6, r7⟩ := JC.out w3 _ o3 s3.did)
    | (go_at_call 151; refine (J3.out _ o3 _ s3).mono ?_; rintro e w4 ⟨v4, rfl, Z4, o4, q4, n4, d4, s4⟩; obtain ⟨⟨t0, t1, t2⟩, t3, t4, t5, t6, t7⟩ := JC.out w4 _ o4 s4.did)
    | (go_at_call 150; refine (J4.out _ o4 _ _ s4 (by rw [← q4.out]; exact n4)).mono ?_; rintro e w5 ⟨go', gc', rfl, o5, n5, d5, s5⟩; obtain ⟨⟨x0, x1, x2⟩, x3, x4, x5, x6, x7⟩ := JC.out w5 _ o5 s5.did; have hR5 := JR.out w5 _ o5 s5.did; obtain ⟨f0, f1, f2, f3, f4⟩ := frees5 hR5; obtain ⟨g0, g1, g2, g3, g4⟩ := cells5 hR5))
  all_goals
    have nu5 := ((nu2.did d3 s2.room.1).did d4 s3.room.1).did d5 s4.room.1
    have nv5 := ((nv2.did d3 s2.room.1).did d4 s3.room.1).did d5 s4.room.1
    have nf5 := (n3.did d4 s3.room.1).did d5 s4.room.1
    have c5' := put5 hR5 (.slice uo' n uc') (.slice vo' n vc') (.slice fo' L fc') (.slice go' L gc') (.int .u64 (D' : Int))
    obtain ⟨y0, y1, y2, y3, y4⟩ := cells5 c5'
    have kp := kept5 w5 (w.heap.size + 1 + 1) (.slice uo' n uc') (.slice vo' n vc') (.slice fo' L fc') (.slice go' L gc') (.int .u64 (D' : Int))
    have hap := cells_apart hR5 s5.room.1 (by decide) (by decide)
    have NU := toHid (nu5.put hR5 (by decide) kp)
    have NV := toHid (nv5.put hR5 (by decide) kp)
    have NF := toHid (nf5.put hR5 (by decide) kp)
    have NG := toHid (n5.put hR5 (by decide) kp)
    have d5w := s5.did
    rw [List.append_assoc, List.append_assoc, ← List.append_assoc [(1, (L : Int), 0)], ← HE.out] at d5w
    have D8 := toHid ((Did.after HK.out d5w).wroteNew kp (by omega) hap)
    have Q3 := Z2.out
    rw [← q3.out] at Q3
    have HQ3 := toHid Q3
    clear nu5 nv5 nf5 c5' kp hap hR5 Q3 d5w nu2 nv2 n3 n4 n5 d3 d4 d5 s2 s3 s4 s5 x0 x1 x2 x3 x4 x5 x6 x7 p0 p1 p2 p3 p4 p5 p6 p7 r0 r1 r2 r3 r4 r5 r6 r7 t0 t1 t2 t3 t4 t5 t6 t7 J1 J2 J3 J4 hA h1 hC hD'
    go_wp2_with fail
    refine bodyPost_ret (v := .agg #[.slice uo' n uc', .slice vo' n vc', .slice fo' L fc', .slice go' L gc', .int .u64 (D' : Int)]) (by simp [results, Tryz.results125, go_sem, y0, y1, y2, y3, y4]) rfl ⟨_, _, _, _, rfl, U', V', o5, ?_, NU.out, NV.out, ?_, NG.out, D8.out, HS.out.next D8.out (by rw [stEvs_length]; omega)⟩
    · have := HCo.out V' q2.out.2
      rw [← q2.out.1] at this
      exact this
    · have := NF.out
      rw [HQ3.out] at this
      exact this

end Go.Proofs.YtiljkgoafknefaaGreat

/- Package inverse: what stands ahead of all steps; how many there are. -/
namespace Go.Proofs.YtiljkgoafknefaaGreat
open Go.RowKit

set_option maxHeartbeats 400000 in
/-- Steps. -/
theorem iSteps (b : Int) (w : World) : Calls Tryz.prog 124 #[.int .i64 b] w fun e w' => e = .returned (.int .i64 (stepsN b)) ∧ w' = w := by
  have h0 : 1 ≤ stepBits b := by unfold stepBits; omega
  have h1 : stepBits b ≤ 8320 := by unfold stepBits; omega
  have hb : min (max b 1) 8320 = stepBits b := rfl
  unfold stepsN
  generalize stepBits b = c at *
  by_cases h : c < 46
  · rw [if_pos h]
    go_enter Tryz.func124, Tryz.ntmps124
    go_wp2
    go_ret
    exact ⟨rfl, rfl⟩
  · rw [if_neg h]
    go_enter Tryz.func124, Tryz.ntmps124
    go_wp2
    go_ret
    exact ⟨rfl, rfl⟩

theorem steps_stp {n : Nat} (h0 : 0 < n) (hn : n ≤ 130) : stepsN (64 * (n : Int)) = ((stp n : Nat) : Int) := by
  unfold stepsN stepBits stp
  have e : min (max (64 * (n : Int)) 1) 8320 = 64 * (n : Int) := by omega
  rw [e, if_neg (by omega)]
  omega

set_option maxHeartbeats 400000 in
/-- Word, with the block that it lies in. -/
theorem nWordO (x : Nat) (hx : x < 18446744073709551616) (n : Int) (m : Nat) (hm : clampN n = m + 1) (w : World) :
    Calls Tryz.prog 75 #[.int .u64 x, .int .i64 n] w fun r w' => r = .returned (.slice (some ⟨w.heap.size, 0, none⟩) (m + 1) (m + 1)) ∧ OwnN .u64 24 w' w.heap.size (.slice (some ⟨w.heap.size, 0, none⟩) (m + 1) (m + 1)) (m + 1) (digs 18446744073709551616 x (m + 1)) ∧ Kept Nought w w' := by
  obtain ⟨i0, hi0, hz0, hz1, hz2⟩ := info_parts Tryz.info24
  have hb : m + 1 ≤ 300 := by rw [← hm]; unfold clampN; omega
  have hc : min (max n 1) 300 = ((m + 1 : Nat) : Int) := by rw [← hm]; unfold clampN; omega
  rw [word_digs x m hx]
  clear hm
  go_enter Tryz.func75, Tryz.ntmps75
  go_wp2_with (at_make; refine wpList_make_full _ rfl _ _ 23 rfl w.heap.size 24 i0 _ 1 Tryz.underlying23 hi0 hz0 hz1 _ _ _ _ (m + 1) rfl rfl (by first | exact hc | rfl) (by first | exact hc | rfl) (by rw [hz2]; omega) (by unfold maxLen; omega) (Nat.le_refl _) ?_; intro w1 ho1 hg1; rw [zeros_map] at ho1; have k1 := grown_kept hg1; have hc1 : w1.cell? ⟨w.heap.size, 0, none⟩ = some (.int .u64 0) := (by rw [World.ownsRow.cellAt ho1 0 (by omega)]; rfl); have hf := World.ownsRow.frozenAt ho1 0; have hst := (World.ownsRow.stored ho1 0 (.int .u64 (x : Nat))).1)
  go_ret
  refine ⟨rfl, ?_, k1.setCell _ (fun h => by simp at h) _⟩
  simpa [OwnN, List.replicate_succ] using hst

theorem nWordU (x : Nat) (hx : x < 18446744073709551616) (n : Nat) (hn0 : 0 < n) (hn : n ≤ 300) (w : World) :
    Calls Tryz.prog 75 #[.int .u64 x, .int .i64 (n : Nat)] w fun r w' => r = .returned (.slice (some ⟨w.heap.size, 0, none⟩) n n) ∧ OwnN .u64 24 w' w.heap.size (.slice (some ⟨w.heap.size, 0, none⟩) n n) n (digs 18446744073709551616 x n) ∧ Kept Nought w w' := by
  obtain ⟨m, rfl⟩ : ∃ m, n = m + 1 := ⟨n - 1, by omega⟩
  exact nWordO x hx _ m (by unfold clampN; omega) w

theorem NumN.grew {w w' : World} {o : Tr} {v : Value} {n X : Nat} (h : NumN w o v n X) (k : Kept Nought w w') : NumN w' o v n X := ⟨h.1.grew k, h.2.grew k⟩

theorem keepA {W : World} {a : Addr} {O : Obj} {v : Value} (h : W.cell? a = some v) : (W.alloc O).cell? a = some v := ((Kept.refl Nought W).alloc O).cellN h

theorem keepD {W : World} {a : Addr} {v : Value} (h : W.cell? a = some v) : W.drew.cell? a = some v := ((Kept.refl Nought W).drew).cellN h

/-- Noughts that were made lie in a block of words. -/
theorem made_num {W : World} {g n : Nat} {CL : Array Value} (hCL : CL = madeCells #[Value.int .u64 0] n) (h : W.heap[g]? = some (.cells CL 24 (0, 0))) (hn : n ≤ 1000) (o : Tr) (ti : TrIn W o) : NumN W o (.slice (some ⟨g, 0, none⟩) n n) n 0 := by
  have hCLa : CL = ((List.replicate n 0).map fun z : Nat => Value.int .u64 (z : Int)).toArray := by
    have h := zeros_map .u64 n
    rw [Nat.mul_one] at h
    rw [← h, hCL]
    simp [Value.cells]
  rw [hCLa] at h
  have hz : digs 18446744073709551616 0 n = List.replicate n 0 := by
    have := fill_digs (ys := []) (V := 0) (m := n) (Digs.nil _) rfl (Nat.zero_le _)
    simpa using this
  have hown : OwnN .u64 24 W g (.slice (some ⟨g, 0, none⟩) n n) n (digs 18446744073709551616 0 n) := by rw [hz]; exact own_of_block h (by simp) (by unfold maxLen; omega) (Nat.le_refl _)
  exact NumN.own hown (Nat.pow_pos (by omega)) ti

set_option maxRecDepth 40000 in
set_option maxHeartbeats 8000000 in
/-- beginning. -/
theorem iBeg (n M A : Nat) (ao bo xo : Option Addr) (mcap l K rcap xc : Nat) (w : World) (o : Tr) (ti : TrIn w o) (hm : NumT w o (.slice ao n mcap) n M) (hx : NumT w o (.slice xo n xc) n A) (hn0 : 0 < n) (hn : n ≤ 130) :
    Calls Tryz.prog 123 #[.agg #[.slice ao n mcap, .int .u64 (K : Nat), .slice bo l rcap], .slice xo n xc] w fun e w' => ∃ (uo : Option Addr) (uc : Nat) (vo : Option Addr) (vc : Nat) (fo : Option Addr) (fc : Nat) (go : Option Addr) (gc : Nat), e = .returned (.agg #[.slice uo n uc, .slice vo n vc, .slice fo (n + 1) fc, .slice go (n + 1) gc, .int .u64 1]) ∧ NumN w' o (.slice uo n uc) n 0 ∧ NumN w' o (.slice vo n vc) n 1 ∧ NumN w' o (.slice fo (n + 1) fc) (n + 1) M ∧ NumN w' o (.slice go (n + 1) gc) (n + 1) A ∧ Kept Nought w w' := by
  obtain ⟨i0, hi0, hz0, hz1, hz2⟩ := info_parts Tryz.info24
  obtain ⟨L, hL⟩ : ∃ L, L = n + 1 := ⟨_, rfl⟩
  have hLw : IntKind.i64.wrap ((n : Int) + 1) = (L : Int) := by rw [hL]; simp [IntKind.wrap, IntKind.bits, IntKind.signed]; omega
  have hLb : L ≤ 131 := by omega
  have lM : M < 18446744073709551616 ^ L := by have := hm.2; rw [hL, Nat.pow_succ]; omega
  have lA : A < 18446744073709551616 ^ L := by have := hx.2; rw [hL, Nat.pow_succ]; omega
  have l1 : 1 < 18446744073709551616 ^ n := Nat.one_lt_pow (by omega) (by omega)
  rw [← hL]
  obtain ⟨W, hW⟩ : ∃ W, W = (w.alloc (.cells #[.slice ao n mcap, .int .u64 (K : Nat), .slice bo l rcap] 90)).alloc (.cells #[.slice none 0 0, .slice none 0 0, .slice none 0 0, .slice none 0 0, .int .u64 0] 138) := ⟨_, rfl⟩
  have k0 : Kept Nought w W := by rw [hW]; exact ((Kept.refl Nought w).alloc _).alloc _
  have b1 : W.heap[w.heap.size]? = some (.cells #[.slice ao n mcap, .int .u64 (K : Nat), .slice bo l rcap] 90 (0, 0)) := by rw [hW]; exact heapAt_alloc (heap_alloc_new _ _)
  have b2 : W.heap[w.heap.size + 1]? = some (.cells #[.slice none 0 0, .slice none 0 0, .slice none 0 0, .slice none 0 0, .int .u64 0] 138 (0, 0)) := by
    rw [hW]
    have := heap_alloc_new (w.alloc (.cells #[.slice ao n mcap, .int .u64 (K : Nat), .slice bo l rcap] 90)) (.cells #[.slice none 0 0, .slice none 0 0, .slice none 0 0, .slice none 0 0, .int .u64 0] 138)
    simpa using this
  obtain ⟨CL, hCL⟩ : ∃ CL, CL = madeCells #[Value.int .u64 0] n := ⟨_, rfl⟩
  have hmk : ∀ W, (Instr.makeSlice 23 (.int .i64 (n : Int)) (.int .i64 (n : Int))).run Tryz.prog W = .ok (.slice (some ⟨W.heap.size, 0, none⟩) n n) (W.alloc (.cells CL 24)) := fun W => by rw [hCL]; exact run_make_row (P := Tryz.prog) _ _ i0 _ Tryz.underlying23 hi0 hz0 hz1 rfl _ _ n (by rw [hz2]; omega) (by omega) W
  have c0 := (cells3 b1).1
  have JC : Hid (∀ W', Kept Nought W W' → W'.cell? ⟨w.heap.size, 0, none⟩ = some (.slice ao n mcap)) := fun W' k => k.cellN c0
  have JB : Hid (∀ W', Kept Nought W W' → W'.heap[w.heap.size + 1]? = some (.cells #[.slice none 0 0, .slice none 0 0, .slice none 0 0, .slice none 0 0, .int .u64 0] 138 (0, 0))) := fun W' k => (k.block _ (lt_of_block b2) (fun f => f)).trans b2
  have J1 : Hid (∀ W', Kept Nought W W' → Calls Tryz.prog 75 #[.int .u64 1, .int .i64 (n : Nat)] W' fun r w' => ∃ vo vc, r = .returned (.slice vo n vc) ∧ NumN w' o (.slice vo n vc) n 1 ∧ Kept Nought W' w' ∧ Kept Nought W w') := fun W' k => by
    refine (nWordU 1 (by omega) n hn0 (by omega) W').mono ?_
    rintro e w' ⟨rfl, ho, k'⟩
    exact ⟨_, _, rfl, NumN.own ho l1 (ti.grew (k0.trans (k.trans k'))), k', k.trans k'⟩
  have J2 : Hid (∀ W', Kept Nought W W' → Calls Tryz.prog 98 #[.slice ao n mcap, .int .i64 (L : Nat)] W' fun r w' => ∃ fo fc, r = .returned (.slice fo L fc) ∧ NumN w' o (.slice fo L fc) L M ∧ Kept Nought W' w' ∧ Kept Nought W w') := fun W' k => by
    refine (iFit _ _ L W' (hm.1.1.grew (k0.trans k)) (digs_digs (by omega) _ _) (by omega)).mono ?_
    rintro e w' ⟨rfl, ho, k'⟩
    rw [num_val hm.2] at ho
    exact ⟨_, _, rfl, NumN.own ho lM (ti.grew (k0.trans (k.trans k'))), k', k.trans k'⟩
  have J3 : Hid (∀ W', Kept Nought W W' → Calls Tryz.prog 98 #[.slice xo n xc, .int .i64 (L : Nat)] W' fun r w' => ∃ fo fc, r = .returned (.slice fo L fc) ∧ NumN w' o (.slice fo L fc) L A ∧ Kept Nought W' w' ∧ Kept Nought W w') := fun W' k => by
    refine (iFit _ _ L W' (hx.1.1.grew (k0.trans k)) (digs_digs (by omega) _ _) (by omega)).mono ?_
    rintro e w' ⟨rfl, ho, k'⟩
    rw [num_val hx.2] at ho
    exact ⟨_, _, rfl, NumN.own ho lA (ti.grew (k0.trans (k.trans k'))), k', k.trans k'⟩
  have JM : Hid (∀ W' g, Kept Nought W W' → W'.heap[g]? = some (.cells CL 24 (0, 0)) → NumN W' o (.slice (some ⟨g, 0, none⟩) n n) n 0) := fun W' g k h => made_num hCL h (by omega) o (ti.grew (k0.trans k))
  have JF : Hid (∀ (W' : World) uo uc vo vc fo fc go gc, Kept Nought W W' → NumN W' o (.slice uo n uc) n 0 → NumN W' o (.slice vo n vc) n 1 → NumN W' o (.slice fo L fc) L M → NumN W' o (.slice go L gc) L A → ∃ W2, W2 = ((((W'.setCell ⟨w.heap.size + 1, 0, none⟩ (.slice uo n uc)).setCell ⟨w.heap.size + 1, 1, none⟩ (.slice vo n vc)).setCell ⟨w.heap.size + 1, 2, none⟩ (.slice fo L fc)).setCell ⟨w.heap.size + 1, 3, none⟩ (.slice go L gc)).setCell ⟨w.heap.size + 1, 4, none⟩ (.int .u64 1) ∧ (W2.heap[w.heap.size + 1]? = some (.cells #[.slice uo n uc, .slice vo n vc, .slice fo L fc, .slice go L gc, .int .u64 1] 138 (0, 0))) ∧ Hid (NumN W2 o (.slice uo n uc) n 0 ∧ NumN W2 o (.slice vo n vc) n 1 ∧ NumN W2 o (.slice fo L fc) L M ∧ NumN W2 o (.slice go L gc) L A ∧ Kept Nought w W2)) := fun W' uo uc vo vc fo fc go gc k h1 h2 h3 h4 => by
    have hb := JB.out W' k
    have kp := kept5 W' (w.heap.size + 1) (.slice uo n uc) (.slice vo n vc) (.slice fo L fc) (.slice go L gc) (.int .u64 1)
    exact ⟨_, rfl, put5 hb _ _ _ _ _, h1.put hb (by decide) kp, h2.put hb (by decide) kp, h3.put hb (by decide) kp, h4.put hb (by decide) kp, (k0.trans k).next kp (fun x hx e => by omega)⟩
  have HW := toHid hW
  clear hm hx hW k0 b1 b2 lM lA l1 ti hi0 hz0 hz1 hz2 hL hCL
  go_enter Tryz.func123, Tryz.ntmps123
  go_wp2_with fail
  rw [← HW.out]
  go_region_held3 (fun w' => w'.cell? ⟨w.heap.size, 0, none⟩ = some (.slice ao n mcap))
    (((try dsimp only); first | (with_reducible assumption) | (with_reducible refine keep5 ?_ ?_; (with_reducible assumption); (dsimp only; omega)) | (with_reducible refine keepA ?_; first | (with_reducible assumption) | (with_reducible refine keepD ?_; (with_reducible assumption))) | (with_reducible refine keepD ?_; (with_reducible assumption)) | (go_keep; done)))
    (first
    | (go_at_call 75; refine (J1.out _ ?_).mono ?_; (first | exact kdrew (kself _) | exact kalloc _ (kdrew (kself _))); rintro e w2 ⟨vo, vc, rfl, n2, k2, K2⟩; have p2 := JC.out w2 K2)
    | (go_at_call_of 98 (Value.slice ao n mcap); refine (J2.out _ ?_).mono ?_; (first | exact K2 | exact kalloc _ K2); rintro e w3 ⟨fo, fc, rfl, n3, k3, K3⟩; have p3 := JC.out w3 K3)
    | (go_at_call_of 98 (Value.slice xo n xc); refine (J3.out _ ?_).mono ?_; (first | exact K3 | exact kalloc _ K3); rintro e w4 ⟨go, gc, rfl, n4, k4, K4⟩; have p4 := JC.out w4 K4; have hB4 := JB.out w4 K4; have hB5 := JB.out (w4.alloc (.cells CL 24)) (kalloc _ K4); obtain ⟨f0, f1, f2, f3, f4⟩ := frees5 hB4; obtain ⟨g0, g1, g2, g3, g4⟩ := cells5 hB4; obtain ⟨F0, F1, F2, F3, F4⟩ := frees5 hB5; obtain ⟨G0, G1, G2, G3, G4⟩ := cells5 hB5))
  · have hz0 : (W.drew.alloc (.cells CL 24)).heap[W.heap.size]? = some (.cells CL 24 (0, 0)) := heap_alloc_new W.drew _
    have hz := ((k2.trans (k3.trans k4)).block _ (lt_of_block hz0) (fun f => f)).trans hz0
    have nz := JM.out w4 _ K4 hz
    obtain ⟨W2, hW2, hB2, HN⟩ := JF.out w4 _ _ _ _ _ _ _ _ K4 nz (n2.grew (k3.trans k4)) (n3.grew k4) n4
    obtain ⟨y0, y1, y2, y3, y4⟩ := cells5 hB2
    rw [← hW2]
    clear hW2
    go_wp2_with fail
    exact bodyPost_ret (v := .agg #[.slice (some ⟨W.heap.size, 0, none⟩) n n, .slice vo n vc, .slice fo L fc, .slice go L gc, .int .u64 1]) (by simp [results, Tryz.results123, go_sem, y0, y1, y2, y3, y4]) rfl ⟨_, _, _, _, _, _, _, _, rfl, HN.out⟩
  · have hz0 := heap_alloc_new w2 (.cells CL 24)
    have hz := ((k3.trans k4).block _ (lt_of_block hz0) (fun f => f)).trans hz0
    have kA := (Kept.refl Nought w2).alloc (.cells CL 24)
    have nz := JM.out w4 _ K4 hz
    obtain ⟨W2, hW2, hB2, HN⟩ := JF.out w4 _ _ _ _ _ _ _ _ K4 nz (n2.grew (kA.trans (k3.trans k4))) (n3.grew k4) n4
    obtain ⟨y0, y1, y2, y3, y4⟩ := cells5 hB2
    rw [← hW2]
    clear hW2
    go_wp2_with fail
    exact bodyPost_ret (v := .agg #[.slice (some ⟨w2.heap.size, 0, none⟩) n n, .slice vo n vc, .slice fo L fc, .slice go L gc, .int .u64 1]) (by simp [results, Tryz.results123, go_sem, y0, y1, y2, y3, y4]) rfl ⟨_, _, _, _, _, _, _, _, rfl, HN.out⟩
  · have hz0 := heap_alloc_new w3 (.cells CL 24)
    have hz := (k4.block _ (lt_of_block hz0) (fun f => f)).trans hz0
    have kA := (Kept.refl Nought w3).alloc (.cells CL 24)
    have nz := JM.out w4 _ K4 hz
    obtain ⟨W2, hW2, hB2, HN⟩ := JF.out w4 _ _ _ _ _ _ _ _ K4 nz (n2.grew (k3.trans (kA.trans k4))) (n3.grew (kA.trans k4)) n4
    obtain ⟨y0, y1, y2, y3, y4⟩ := cells5 hB2
    rw [← hW2]
    clear hW2
    go_wp2_with fail
    exact bodyPost_ret (v := .agg #[.slice (some ⟨w3.heap.size, 0, none⟩) n n, .slice vo n vc, .slice fo L fc, .slice go L gc, .int .u64 1]) (by simp [results, Tryz.results123, go_sem, y0, y1, y2, y3, y4]) rfl ⟨_, _, _, _, _, _, _, _, rfl, HN.out⟩
  · have hz := heap_alloc_new w4 (.cells CL 24)
    have kA := (Kept.refl Nought w4).alloc (.cells CL 24)
    have nz := JM.out (w4.alloc (.cells CL 24)) _ (kalloc _ K4) hz
    obtain ⟨W2, hW2, hB2, HN⟩ := JF.out (w4.alloc (.cells CL 24)) _ _ _ _ _ _ _ _ (kalloc _ K4) nz (n2.grew (k3.trans (k4.trans kA))) (n3.grew (k4.trans kA)) (n4.grew kA)
    obtain ⟨y0, y1, y2, y3, y4⟩ := cells5 hB2
    rw [← hW2]
    clear hW2
    go_wp2_with fail
    exact bodyPost_ret (v := .agg #[.slice (some ⟨w4.heap.size, 0, none⟩) n n, .slice vo n vc, .slice fo L fc, .slice go L gc, .int .u64 1]) (by simp [results, Tryz.results123, go_sem, y0, y1, y2, y3, y4]) rfl ⟨_, _, _, _, _, _, _, _, rfl, HN.out⟩

end Go.Proofs.YtiljkgoafknefaaGreat

