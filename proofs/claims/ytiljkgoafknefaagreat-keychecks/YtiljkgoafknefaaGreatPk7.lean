/- Put together of: Key5. -/
import Derived.Test.YtiljkgoafknefaaGreatPk6

/- The plain side of layer 19 (package sconceref18): Of. -/
namespace Go.Proofs.YtiljkgoafknefaaGreat
open Go.RowKit

/-- A struct of eight cells that is stored into. -/
def put8w (w : World) (p : Nat) (x0 x1 x2 x3 x4 x5 x6 x7 : Value) : World := ((((((((w.setCell ⟨p, 0, none⟩ x0).setCell ⟨p, 1, none⟩ x1).setCell ⟨p, 2, none⟩ x2).setCell ⟨p, 3, none⟩ x3).setCell ⟨p, 4, none⟩ x4).setCell ⟨p, 5, none⟩ x5).setCell ⟨p, 6, none⟩ x6).setCell ⟨p, 7, none⟩ x7)

theorem stored8 {w w3 : World} {p : Nat} {a0 a1 a2 a3 a4 a5 a6 a7 : Value} {t : TypeId} (hk : Kept Nought w w3) (hp : w.heap.size ≤ p) (hbx : w3.heap[p]? = some (.cells #[a0, a1, a2, a3, a4, a5, a6, a7] t (0, 0))) (x0 x1 x2 x3 x4 x5 x6 x7 : Value) :
    (put8w w3 p x0 x1 x2 x3 x4 x5 x6 x7).heap[p]? = some (.cells #[x0, x1, x2, x3, x4, x5, x6, x7] t (0, 0)) ∧ Kept Nought w (put8w w3 p x0 x1 x2 x3 x4 x5 x6 x7) ∧ Kept (fun q => q = p) w3 (put8w w3 p x0 x1 x2 x3 x4 x5 x6 x7) := by
  unfold put8w
  refine ⟨?_, ?_, ?_⟩
  · have h0 := heap_setCell_same w3 p 0 _ _ x0 hbx
    have h1 := heap_setCell_same _ p 1 _ _ x1 h0
    have h2 := heap_setCell_same _ p 2 _ _ x2 h1
    have h3 := heap_setCell_same _ p 3 _ _ x3 h2
    have h4 := heap_setCell_same _ p 4 _ _ x4 h3
    have h5 := heap_setCell_same _ p 5 _ _ x5 h4
    have h6 := heap_setCell_same _ p 6 _ _ x6 h5
    have h7 := heap_setCell_same _ p 7 _ _ x7 h6
    simpa using h7
  · exact ((((((((hk.setCell ⟨p, 0, none⟩ (fun h => by simp at h; omega) _).setCell ⟨p, 1, none⟩ (fun h => by simp at h; omega) _).setCell ⟨p, 2, none⟩ (fun h => by simp at h; omega) _).setCell ⟨p, 3, none⟩ (fun h => by simp at h; omega) _).setCell ⟨p, 4, none⟩ (fun h => by simp at h; omega) _).setCell ⟨p, 5, none⟩ (fun h => by simp at h; omega) _).setCell ⟨p, 6, none⟩ (fun h => by simp at h; omega) _).setCell ⟨p, 7, none⟩ (fun h => by simp at h; omega) _)
  · exact ((((((((Kept.refl (fun q => q = p) w3).setCell ⟨p, 0, none⟩ (fun _ => rfl) _).setCell ⟨p, 1, none⟩ (fun _ => rfl) _).setCell ⟨p, 2, none⟩ (fun _ => rfl) _).setCell ⟨p, 3, none⟩ (fun _ => rfl) _).setCell ⟨p, 4, none⟩ (fun _ => rfl) _).setCell ⟨p, 5, none⟩ (fun _ => rfl) _).setCell ⟨p, 6, none⟩ (fun _ => rfl) _).setCell ⟨p, 7, none⟩ (fun _ => rfl) _

theorem frees8 {W : World} {p : Nat} {cs : Array Value} {t : TypeId} (h : W.heap[p]? = some (.cells cs t (0, 0))) (j : Nat) : W.frozen? ⟨p, j, none⟩ = false := frozen_of_row W _ j _ _ h

/-- The zero key. -/
abbrev zeroKey : Array Value := #[.slice none 0 0, .int .u64 0, .slice none 0 0, .slice none 0 0, .slice none 0 0, .slice none 0 0, .slice none 0 0, .slice none 0 0]

theorem words_of_bits {X n : Nat} (h : blen X ≤ 64 * n) : wordsN X ≤ n := (wordsN_le X n).2 (by
  have := (blen_le X (64 * n)).1 h
  rw [Nat.pow_mul] at this
  exact this)

theorem dlen_of_bits {X n : Nat} (h : blen X ≤ 32 * n) : dlen X ≤ n := (dlen_le X n).2 (by
  have := (blen_le X (32 * n)).1 h
  rw [Nat.pow_mul] at this
  exact this)

theorem words_le_dlen {X n : Nat} (h : dlen X ≤ n) : wordsN X ≤ n := (wordsN_le X n).2 (Nat.lt_of_lt_of_le ((dlen_le X n).1 h) (Nat.pow_le_pow_left (by omega) n))

/-- Whether a number may be one of a key's two. -/
def halfOk (P : Nat) : Prop := 3 ≤ P ∧ P % 2 = 1 ∧ blen P ≤ 8192

/-- The words of a key's modulus. -/
def keyWords (P Q : Nat) : List Nat := digs 18446744073709551616 (P * Q) (max (wordsN (P * Q)) 1)

def keyOk (L M P Q e : Nat) : Prop := (L ≤ 300 ∧ M ≤ 300) ∧ halfOk P ∧ halfOk Q ∧ Nat.gcd P Q = 1 ∧ pubE (keyWords P Q) e = 0 ∧ Nat.gcd e (comN P Q) = 1

/-- A key in memory, made of P, Q and e. -/
def KeyAt (w : World) (P Q e : Nat) (kv : Array Value) : Prop :=
  ∃ (vn vd vp vq vdp vdq vqi : Value) (d u : Nat), kv = #[vn, .int .u64 (e : Nat), vd, vp, vq, vdp, vdq, vqi] ∧ Row .u64 w vn (keyWords P Q) ∧ d < comN P Q ∧ e * d % comN P Q = 1 ∧ Row .u64 w vd (digs 18446744073709551616 d (keyWords P Q).length) ∧
    Row .u64 w vp (digs 18446744073709551616 P (max (wordsN P) (wordsN Q))) ∧ Row .u64 w vq (digs 18446744073709551616 Q (max (wordsN P) (wordsN Q))) ∧ Row .u64 w vdp (digs 18446744073709551616 (d % (P - 1)) (max (wordsN P) (wordsN Q))) ∧ Row .u64 w vdq (digs 18446744073709551616 (d % (Q - 1)) (max (wordsN P) (wordsN Q))) ∧ u < P ∧ Q * u % P = 1 ∧ Row .u64 w vqi (digs 18446744073709551616 u (max (wordsN P) (wordsN Q)))

/-- What a key's cells show lies in new memory. -/
def KeyFar (B : Nat) (kv : Array Value) : Prop := ∀ v ∈ kv.toList, ∀ x, v.ownBlock = some x → B < x

theorem zeroKey_far (B : Nat) : KeyFar B zeroKey := by
  intro v hv x hx
  have hv' : v ∈ [Value.slice none 0 0, .int .u64 0, .slice none 0 0, .slice none 0 0, .slice none 0 0, .slice none 0 0, .slice none 0 0, .slice none 0 0] := hv
  simp only [List.mem_cons, List.not_mem_nil, or_false] at hv'
  rcases hv' with rfl | rfl | rfl | rfl | rfl | rfl | rfl | rfl <;> cases hx

theorem key_far {B : Nat} {v0 v2 v3 v4 v5 v6 v7 : Value} {e : Int} (h0 : ∀ x, v0.ownBlock = some x → B < x) (h2 : ∀ x, v2.ownBlock = some x → B < x) (h3 : ∀ x, v3.ownBlock = some x → B < x) (h4 : ∀ x, v4.ownBlock = some x → B < x) (h5 : ∀ x, v5.ownBlock = some x → B < x) (h6 : ∀ x, v6.ownBlock = some x → B < x) (h7 : ∀ x, v7.ownBlock = some x → B < x) : KeyFar B #[v0, .int .u64 e, v2, v3, v4, v5, v6, v7] := by
  intro v hv x hx
  have hv' : v ∈ [v0, .int .u64 e, v2, v3, v4, v5, v6, v7] := hv
  simp only [List.mem_cons, List.not_mem_nil, or_false] at hv'
  rcases hv' with rfl | rfl | rfl | rfl | rfl | rfl | rfl | rfl
  · exact h0 x hx
  · cases hx
  · exact h2 x hx
  · exact h3 x hx
  · exact h4 x hx
  · exact h5 x hx
  · exact h6 x hx
  · exact h7 x hx

theorem com_ge {P Q : Nat} (hP : 3 ≤ P) (hQ : 3 ≤ Q) : 2 ≤ comN P Q := by
  unfold comN
  have hg : Nat.gcd (P - 1) (Q - 1) ∣ P - 1 := Nat.gcd_dvd_left _ _
  have h1 : 1 ≤ (P - 1) / Nat.gcd (P - 1) (Q - 1) := Nat.div_pos (Nat.le_of_dvd (by omega) hg) (Nat.gcd_pos_of_pos_left _ (by omega))
  have := Nat.mul_le_mul_right (Q - 1) h1
  omega

set_option maxRecDepth 40000 in
set_option maxHeartbeats 8000000 in
/-- Of. -/
theorem r18Of (ao bo : Option Addr) (L M cap dap : Nat) (xs ys : List Nat) (P Q e : Nat) (hP : P = val 18446744073709551616 xs) (hQ : Q = val 18446744073709551616 ys) (he : e < 18446744073709551616) (w : World) (hu : Row .u64 w (.slice ao L cap) xs) (hv : Row .u64 w (.slice bo M dap) ys) (hdx : Digs 18446744073709551616 xs) (hdy : Digs 18446744073709551616 ys) (hLb : L ≤ 1000000) (hMb : M ≤ 1000000) :
    Calls Tryz.prog 13 #[.slice ao L cap, .slice bo M dap, .int .u64 (e : Nat)] w fun r w' => ∃ kv E, r = .returned (.tuple #[.agg kv, .int .i64 ((E : Nat) : Int)]) ∧ ((E = 0 ∧ keyOk L M P Q e ∧ KeyAt w' P Q e kv) ∨ (E = 190 ∧ ¬ keyOk L M P Q e ∧ kv = zeroKey)) ∧ KeyFar w.heap.size kv ∧ Kept Nought w w' := by
  obtain ⟨_, _, _, e1, hL, -, -, -, -⟩ := hu.open
  cases e1
  obtain ⟨_, _, _, e1, hM, -, -, -, -⟩ := hv.open
  cases e1
  obtain ⟨W0, hW0⟩ : ∃ W0, W0 = w.alloc (.cells #[.slice none 0 0, .int .u64 0, .slice none 0 0, .slice none 0 0, .slice none 0 0, .slice none 0 0, .slice none 0 0, .slice none 0 0] 32) := ⟨_, rfl⟩
  have k0 : Kept Nought w W0 := by rw [hW0]; exact (Kept.refl Nought w).alloc _
  have hx0 : W0.heap[w.heap.size]? = some (.cells #[.slice none 0 0, .int .u64 0, .slice none 0 0, .slice none 0 0, .slice none 0 0, .slice none 0 0, .slice none 0 0, .slice none 0 0] 32 (0, 0)) := by rw [hW0]; exact heap_alloc_new _ _
  have HBX : Hid (∀ W, Kept Nought W0 W → W.heap[w.heap.size]? = some (.cells #[.slice none 0 0, .int .u64 0, .slice none 0 0, .slice none 0 0, .slice none 0 0, .slice none 0 0, .slice none 0 0, .slice none 0 0] 32 (0, 0))) := fun W k => (k.block _ (lt_of_block hx0) (fun f => f)).trans hx0
  have JX : Hid (∀ W, Kept Nought W0 W → Calls Tryz.prog 24 #[.slice ao L cap] W fun r w' => ∃ v', r = .returned v' ∧ IsBig w' v' P ∧ (∀ b, v'.ownBlock = some b → W.heap.size ≤ b) ∧ Kept Nought W w') := fun W k => by rw [hP]; exact rOf _ xs W (hu.grew (k0.trans k)) hdx (by rw [hL.out]; omega)
  have JY : Hid (∀ W, Kept Nought W0 W → Calls Tryz.prog 24 #[.slice bo M dap] W fun r w' => ∃ v', r = .returned v' ∧ IsBig w' v' Q ∧ (∀ b, v'.ownBlock = some b → W.heap.size ≤ b) ∧ Kept Nought W w') := fun W k => by rw [hQ]; exact rOf _ ys W (hv.grew (k0.trans k)) hdy (by rw [hM.out]; omega)
  have hdP : dlen P ≤ 2 * L := by rw [hP]; exact (dlen_le _ _).2 (by rw [Nat.pow_mul, ← hL.out]; exact val_lt (by omega) hdx)
  have hdQ : dlen Q ≤ 2 * M := by rw [hQ]; exact (dlen_le _ _).2 (by rw [Nat.pow_mul, ← hM.out]; exact val_lt (by omega) hdy)
  have HW0 := toHid hW0
  have HSZ0 : Hid (w.heap.size < W0.heap.size) := lt_of_block hx0
  have HK0 := toHid k0
  have KR : Kept Nought W0 W0 := Kept.refl _ _
  clear hu hv hdx hdy hL hM hP hQ hW0 k0 hx0
  by_cases c1 : 300 < L
  · have HN : Hid (¬ keyOk L M P Q e) := fun h => by have := h.1.1; omega
    have g1 : (300 : Int) < (L : Int) := by omega
    have hh := HW0.out
    subst hh
    go_enter Tryz.func13, Tryz.ntmps13
    go_wp2_with fail
    exact bodyPost_ret (v := .tuple #[.agg zeroKey, .int .i64 190]) (by simp [results, Tryz.results13, go_sem]) rfl ⟨_, 190, rfl, .inr ⟨rfl, HN.out, rfl⟩, zeroKey_far _, HK0.out⟩
  have g1 : ¬ (300 : Int) < (L : Int) := by omega
  have q1 : decide ((300 : Int) < (L : Int)) = false := decide_eq_false g1
  by_cases c2 : 300 < M
  · have HN : Hid (¬ keyOk L M P Q e) := fun h => by have := h.1.2; omega
    have g2 : (300 : Int) < (M : Int) := by omega
    have hh := HW0.out
    subst hh
    go_enter Tryz.func13, Tryz.ntmps13
    go_wp2_with fail
    exact bodyPost_ret (v := .tuple #[.agg zeroKey, .int .i64 190]) (by simp [results, Tryz.results13, go_sem]) rfl ⟨_, 190, rfl, .inr ⟨rfl, HN.out, rfl⟩, zeroKey_far _, HK0.out⟩
  have g2 : ¬ (300 : Int) < (M : Int) := by omega
  have q2 : decide ((300 : Int) < (M : Int)) = false := decide_eq_false g2
  go_enter Tryz.func13, Tryz.ntmps13
  go_wp2_with (rw [← HW0.out])
  have h1 := JX.out _ KR
  refine h1.mono ?_
  rintro r w1 ⟨v1, rfl, b1, _, K1⟩
  have h2 := JY.out _ K1
  clear h1
  go_wp2_with fail
  refine h2.mono ?_
  rintro r w2 ⟨v2, rfl, b2, _, k2⟩
  have K2 := K1.trans k2
  have b1 := b1.grew k2
  clear h2 k2
  obtain ⟨a1, n1, d1, rfl, -, -⟩ := b1.length
  obtain ⟨a2, n2, d2, rfl, -, -⟩ := b2.length
  obtain ⟨W3, hW3⟩ : ∃ W3, W3 = w2.alloc (.cells #[.slice a1 n1 d1, .slice a2 n2 d2] 49) := ⟨_, rfl⟩
  have k3 : Kept Nought w2 W3 := by rw [hW3]; exact (Kept.refl Nought w2).alloc _
  have hx3 : W3.heap[w2.heap.size]? = some (.cells #[.slice a1 n1 d1, .slice a2 n2 d2] 49 (0, 0)) := by rw [hW3]; exact heap_alloc_new _ _
  have HX3 : Hid (∀ W, Kept Nought W3 W → W.cell? ⟨w2.heap.size, 0, none⟩ = some (.slice a1 n1 d1) ∧ W.cell? ⟨w2.heap.size, 0 + 1, none⟩ = some (.slice a2 n2 d2)) := fun W k => by
    have hh := (k.block _ (lt_of_block hx3) (fun f => f)).trans hx3
    exact ⟨(cell_of_row W _ 0 _ _ _ hh).trans rfl, (cell_of_row W _ 1 _ _ _ hh).trans rfl⟩
  have HW3 := toHid hW3
  have HK3 := toHid (K2.trans k3)
  have HP3 := toHid (b1.grew k3)
  have HQ3 := toHid (b2.grew k3)
  clear hW3 hx3 k3 b1 b2 K1 K2
  go_wp2_with (rw [← HW3.out])
  go_loopw [37] (fun iv wr => ∃ k : Nat, k ≤ 2 ∧ iv = .int .i64 (k : Int) ∧ Hid (0 < k → halfOk P) ∧ Hid (1 < k → halfOk Q) ∧ Hid (Kept Nought W3 wr)) (fun iv _ => 2 - (intOf iv).toNat)
  case atStart => exact ⟨0, by omega, rfl, (fun h => absurd h (by omega)), (fun h => absurd h (by omega)), Kept.refl _ _⟩
  case round =>
    obtain ⟨k, hk, rfl, hkP, hkQ, hkp⟩ := hrel
    obtain ⟨l0, l1⟩ := HX3.out _ hkp.out
    rcases (show k = 0 ∨ k = 1 ∨ k = 2 by omega) with rfl | rfl | rfl
    · have bx := HP3.out.grew hkp.out
      have h4 := rSmall 3 (by omega) wr
      go_wp2_with fail
      refine h4.mono ?_
      rintro r w4 ⟨v4, rfl, b4, _, k4⟩
      have K4 := hkp.out.trans k4
      have bx := bx.grew k4
      have h5 := rCmp _ v4 P 3 w4 bx b4
      clear h4 b4 l0 l1
      by_cases c3 : P < 3
      · have HN : Hid (¬ keyOk L M P Q e) := fun h => by have := h.2.1.1; omega
        rw [cmpN_lt c3] at h5
        go_wp2_with fail
        refine h5.mono ?_
        rintro r w5' ⟨rfl, m5, rfl⟩
        have K5 := HK3.out.trans (K4.drewN m5)
        obtain ⟨w5, hw5⟩ : ∃ w5, w5 = w4.drewN m5 := ⟨_, rfl⟩
        rw [← hw5] at K5 ⊢
        clear h5 hw5
        have hbx := HBX.out _ K5
        obtain ⟨c0, c1, c2, c3, c4, c5, c6, c7⟩ := cells8 hbx
        have f := frees8 hbx
        have HKz := toHid (HK0.out.trans K5)
        go_wp2_with fail
        obtain ⟨z1, z2, _⟩ := stored8 HKz.out (Nat.le_refl _) hbx (.slice none 0 0) (.int .u64 0) (.slice none 0 0) (.slice none 0 0) (.slice none 0 0) (.slice none 0 0) (.slice none 0 0) (.slice none 0 0)
        unfold put8w at z1 z2
        generalize ((((((((w5.setCell ⟨w.heap.size, 0, none⟩ (.slice none 0 0)).setCell ⟨w.heap.size, 1, none⟩ (.int .u64 0)).setCell ⟨w.heap.size, 2, none⟩ (.slice none 0 0)).setCell ⟨w.heap.size, 3, none⟩ (.slice none 0 0)).setCell ⟨w.heap.size, 4, none⟩ (.slice none 0 0)).setCell ⟨w.heap.size, 5, none⟩ (.slice none 0 0)).setCell ⟨w.heap.size, 6, none⟩ (.slice none 0 0)).setCell ⟨w.heap.size, 7, none⟩ (.slice none 0 0)) = Wf at *
        obtain ⟨r0, r1, r2, r3, r4, r5, r6, r7⟩ := cells8 z1
        exact bodyPost_ret (v := .tuple #[.agg zeroKey, .int .i64 190]) (by simp [results, Tryz.results13, go_sem, r0, r1, r2, r3, r4, r5, r6, r7]) rfl ⟨_, 190, rfl, .inr ⟨rfl, HN.out, rfl⟩, zeroKey_far _, z2⟩
      have hc5 := cmpN_nn (show 3 ≤ P by omega)
      have q5 : decide (cmpN P 3 < 0) = false := decide_eq_false hc5
      generalize cmpN P 3 = c5 at *
      obtain ⟨lb5, lo5, ln5, lc5, d5, el5, hn5, hc6, hd5, hd6⟩ := bigLow bx (by omega)
      cases el5
      have gn5 : (0 : Int) < (n1 : Int) := by omega
      have hm5 : (d5 : Int).tmod 2 = ((d5 % 2 : Nat) : Int) := by rw [Int.tmod_eq_emod_of_nonneg (by omega)]; omega
      go_wp2_with fail
      refine h5.mono ?_
      rintro r w5' ⟨rfl, m5, rfl⟩
      have kd := (Kept.refl Nought w4).drewN m5
      obtain ⟨w5, hw5⟩ : ∃ w5, w5 = w4.drewN m5 := ⟨_, rfl⟩
      rw [← hw5] at kd ⊢
      have K5 := K4.trans kd
      have bx := bx.grew kd
      have l5 : w5.cell? ⟨lb5, lo5, none⟩ = some (.int .u32 (d5 : Int)) := kd.cellN hc6
      clear h5 hw5 hc6 K4 k4
      by_cases c6 : P % 2 = 0
      · have HN : Hid (¬ keyOk L M P Q e) := fun h => by have := h.2.1.2.1; omega
        have hz5 : (d5 : Int) % 2 = 0 := by omega
        rw [show d5 % 2 = 0 by omega] at hm5
        have K5' := HK3.out.trans K5
        have hbx := HBX.out _ K5'
        obtain ⟨c0, c1, c2, c3, c4, c5, c6, c7⟩ := cells8 hbx
        have f := frees8 hbx
        have HKz := toHid (HK0.out.trans K5')
        go_wp2_with fail
        obtain ⟨z1, z2, _⟩ := stored8 HKz.out (Nat.le_refl _) hbx (.slice none 0 0) (.int .u64 0) (.slice none 0 0) (.slice none 0 0) (.slice none 0 0) (.slice none 0 0) (.slice none 0 0) (.slice none 0 0)
        unfold put8w at z1 z2
        generalize ((((((((w5.setCell ⟨w.heap.size, 0, none⟩ (.slice none 0 0)).setCell ⟨w.heap.size, 1, none⟩ (.int .u64 0)).setCell ⟨w.heap.size, 2, none⟩ (.slice none 0 0)).setCell ⟨w.heap.size, 3, none⟩ (.slice none 0 0)).setCell ⟨w.heap.size, 4, none⟩ (.slice none 0 0)).setCell ⟨w.heap.size, 5, none⟩ (.slice none 0 0)).setCell ⟨w.heap.size, 6, none⟩ (.slice none 0 0)).setCell ⟨w.heap.size, 7, none⟩ (.slice none 0 0)) = Wf at *
        obtain ⟨r0, r1, r2, r3, r4, r5, r6, r7⟩ := cells8 z1
        exact bodyPost_ret (v := .tuple #[.agg zeroKey, .int .i64 190]) (by simp [results, Tryz.results13, go_sem, r0, r1, r2, r3, r4, r5, r6, r7]) rfl ⟨_, 190, rfl, .inr ⟨rfl, HN.out, rfl⟩, zeroKey_far _, z2⟩
      have hz5 : (d5 : Int) % 2 = 1 := by omega
      rw [show d5 % 2 = 1 by omega] at hm5
      have h6 := rBitLen _ P w5 bx
      have hbl := blen_b bx
      obtain ⟨t, ht⟩ : ∃ t, t = blen P := ⟨_, rfl⟩
      rw [← ht] at h6 hbl
      have HTT := toHid ht
      clear ht
      go_wp2_with fail
      refine h6.mono ?_
      rintro r w6 ⟨rfl, rfl⟩
      clear h6
      by_cases c7 : 8192 < t
      · have HN : Hid (¬ keyOk L M P Q e) := fun h => by have := h.2.1.2.2; have := HTT.out; omega
        have g7 : (8192 : Int) < (t : Int) := by omega
        have K5' := HK3.out.trans K5
        have hbx := HBX.out _ K5'
        obtain ⟨c0, c1, c2, c3, c4, c5, c6, c7⟩ := cells8 hbx
        have f := frees8 hbx
        have HKz := toHid (HK0.out.trans K5')
        go_wp2_with fail
        obtain ⟨z1, z2, _⟩ := stored8 HKz.out (Nat.le_refl _) hbx (.slice none 0 0) (.int .u64 0) (.slice none 0 0) (.slice none 0 0) (.slice none 0 0) (.slice none 0 0) (.slice none 0 0) (.slice none 0 0)
        unfold put8w at z1 z2
        generalize ((((((((w6.setCell ⟨w.heap.size, 0, none⟩ (.slice none 0 0)).setCell ⟨w.heap.size, 1, none⟩ (.int .u64 0)).setCell ⟨w.heap.size, 2, none⟩ (.slice none 0 0)).setCell ⟨w.heap.size, 3, none⟩ (.slice none 0 0)).setCell ⟨w.heap.size, 4, none⟩ (.slice none 0 0)).setCell ⟨w.heap.size, 5, none⟩ (.slice none 0 0)).setCell ⟨w.heap.size, 6, none⟩ (.slice none 0 0)).setCell ⟨w.heap.size, 7, none⟩ (.slice none 0 0)) = Wf at *
        obtain ⟨r0, r1, r2, r3, r4, r5, r6, r7⟩ := cells8 z1
        exact bodyPost_ret (v := .tuple #[.agg zeroKey, .int .i64 190]) (by simp [results, Tryz.results13, go_sem, r0, r1, r2, r3, r4, r5, r6, r7]) rfl ⟨_, 190, rfl, .inr ⟨rfl, HN.out, rfl⟩, zeroKey_far _, z2⟩
      have g7 : ¬ (8192 : Int) < (t : Int) := by omega
      have q7 : decide ((8192 : Int) < (t : Int)) = false := decide_eq_false g7
      have HOK : Hid (halfOk P) := ⟨by omega, by omega, by have := HTT.out; omega⟩
      clear l5 bx hm5 hz5
      go_wp2_with fail
      go_roundw
      case rel => exact ⟨1, by omega, by go_num, (fun _ => HOK.out), (fun h => absurd h (by omega)), K5⟩
      case measure => simp [intOf]
    · have bx := HQ3.out.grew hkp.out
      have h4 := rSmall 3 (by omega) wr
      go_wp2_with fail
      refine h4.mono ?_
      rintro r w4 ⟨v4, rfl, b4, _, k4⟩
      have K4 := hkp.out.trans k4
      have bx := bx.grew k4
      have h5 := rCmp _ v4 Q 3 w4 bx b4
      clear h4 b4 l0 l1
      by_cases c3 : Q < 3
      · have HN : Hid (¬ keyOk L M P Q e) := fun h => by have := h.2.2.1.1; omega
        rw [cmpN_lt c3] at h5
        go_wp2_with fail
        refine h5.mono ?_
        rintro r w5' ⟨rfl, m5, rfl⟩
        have K5 := HK3.out.trans (K4.drewN m5)
        obtain ⟨w5, hw5⟩ : ∃ w5, w5 = w4.drewN m5 := ⟨_, rfl⟩
        rw [← hw5] at K5 ⊢
        clear h5 hw5
        have hbx := HBX.out _ K5
        obtain ⟨c0, c1, c2, c3, c4, c5, c6, c7⟩ := cells8 hbx
        have f := frees8 hbx
        have HKz := toHid (HK0.out.trans K5)
        go_wp2_with fail
        obtain ⟨z1, z2, _⟩ := stored8 HKz.out (Nat.le_refl _) hbx (.slice none 0 0) (.int .u64 0) (.slice none 0 0) (.slice none 0 0) (.slice none 0 0) (.slice none 0 0) (.slice none 0 0) (.slice none 0 0)
        unfold put8w at z1 z2
        generalize ((((((((w5.setCell ⟨w.heap.size, 0, none⟩ (.slice none 0 0)).setCell ⟨w.heap.size, 1, none⟩ (.int .u64 0)).setCell ⟨w.heap.size, 2, none⟩ (.slice none 0 0)).setCell ⟨w.heap.size, 3, none⟩ (.slice none 0 0)).setCell ⟨w.heap.size, 4, none⟩ (.slice none 0 0)).setCell ⟨w.heap.size, 5, none⟩ (.slice none 0 0)).setCell ⟨w.heap.size, 6, none⟩ (.slice none 0 0)).setCell ⟨w.heap.size, 7, none⟩ (.slice none 0 0)) = Wf at *
        obtain ⟨r0, r1, r2, r3, r4, r5, r6, r7⟩ := cells8 z1
        exact bodyPost_ret (v := .tuple #[.agg zeroKey, .int .i64 190]) (by simp [results, Tryz.results13, go_sem, r0, r1, r2, r3, r4, r5, r6, r7]) rfl ⟨_, 190, rfl, .inr ⟨rfl, HN.out, rfl⟩, zeroKey_far _, z2⟩
      have hc5 := cmpN_nn (show 3 ≤ Q by omega)
      have q5 : decide (cmpN Q 3 < 0) = false := decide_eq_false hc5
      generalize cmpN Q 3 = c5 at *
      obtain ⟨lb5, lo5, ln5, lc5, d5, el5, hn5, hc6, hd5, hd6⟩ := bigLow bx (by omega)
      cases el5
      have gn5 : (0 : Int) < (n2 : Int) := by omega
      have hm5 : (d5 : Int).tmod 2 = ((d5 % 2 : Nat) : Int) := by rw [Int.tmod_eq_emod_of_nonneg (by omega)]; omega
      go_wp2_with fail
      refine h5.mono ?_
      rintro r w5' ⟨rfl, m5, rfl⟩
      have kd := (Kept.refl Nought w4).drewN m5
      obtain ⟨w5, hw5⟩ : ∃ w5, w5 = w4.drewN m5 := ⟨_, rfl⟩
      rw [← hw5] at kd ⊢
      have K5 := K4.trans kd
      have bx := bx.grew kd
      have l5 : w5.cell? ⟨lb5, lo5, none⟩ = some (.int .u32 (d5 : Int)) := kd.cellN hc6
      clear h5 hw5 hc6 K4 k4
      by_cases c6 : Q % 2 = 0
      · have HN : Hid (¬ keyOk L M P Q e) := fun h => by have := h.2.2.1.2.1; omega
        have hz5 : (d5 : Int) % 2 = 0 := by omega
        rw [show d5 % 2 = 0 by omega] at hm5
        have K5' := HK3.out.trans K5
        have hbx := HBX.out _ K5'
        obtain ⟨c0, c1, c2, c3, c4, c5, c6, c7⟩ := cells8 hbx
        have f := frees8 hbx
        have HKz := toHid (HK0.out.trans K5')
        go_wp2_with fail
        obtain ⟨z1, z2, _⟩ := stored8 HKz.out (Nat.le_refl _) hbx (.slice none 0 0) (.int .u64 0) (.slice none 0 0) (.slice none 0 0) (.slice none 0 0) (.slice none 0 0) (.slice none 0 0) (.slice none 0 0)
        unfold put8w at z1 z2
        generalize ((((((((w5.setCell ⟨w.heap.size, 0, none⟩ (.slice none 0 0)).setCell ⟨w.heap.size, 1, none⟩ (.int .u64 0)).setCell ⟨w.heap.size, 2, none⟩ (.slice none 0 0)).setCell ⟨w.heap.size, 3, none⟩ (.slice none 0 0)).setCell ⟨w.heap.size, 4, none⟩ (.slice none 0 0)).setCell ⟨w.heap.size, 5, none⟩ (.slice none 0 0)).setCell ⟨w.heap.size, 6, none⟩ (.slice none 0 0)).setCell ⟨w.heap.size, 7, none⟩ (.slice none 0 0)) = Wf at *
        obtain ⟨r0, r1, r2, r3, r4, r5, r6, r7⟩ := cells8 z1
        exact bodyPost_ret (v := .tuple #[.agg zeroKey, .int .i64 190]) (by simp [results, Tryz.results13, go_sem, r0, r1, r2, r3, r4, r5, r6, r7]) rfl ⟨_, 190, rfl, .inr ⟨rfl, HN.out, rfl⟩, zeroKey_far _, z2⟩
      have hz5 : (d5 : Int) % 2 = 1 := by omega
      rw [show d5 % 2 = 1 by omega] at hm5
      have h6 := rBitLen _ Q w5 bx
      have hbl := blen_b bx
      obtain ⟨t, ht⟩ : ∃ t, t = blen Q := ⟨_, rfl⟩
      rw [← ht] at h6 hbl
      have HTT := toHid ht
      clear ht
      go_wp2_with fail
      refine h6.mono ?_
      rintro r w6 ⟨rfl, rfl⟩
      clear h6
      by_cases c7 : 8192 < t
      · have HN : Hid (¬ keyOk L M P Q e) := fun h => by have := h.2.2.1.2.2; have := HTT.out; omega
        have g7 : (8192 : Int) < (t : Int) := by omega
        have K5' := HK3.out.trans K5
        have hbx := HBX.out _ K5'
        obtain ⟨c0, c1, c2, c3, c4, c5, c6, c7⟩ := cells8 hbx
        have f := frees8 hbx
        have HKz := toHid (HK0.out.trans K5')
        go_wp2_with fail
        obtain ⟨z1, z2, _⟩ := stored8 HKz.out (Nat.le_refl _) hbx (.slice none 0 0) (.int .u64 0) (.slice none 0 0) (.slice none 0 0) (.slice none 0 0) (.slice none 0 0) (.slice none 0 0) (.slice none 0 0)
        unfold put8w at z1 z2
        generalize ((((((((w6.setCell ⟨w.heap.size, 0, none⟩ (.slice none 0 0)).setCell ⟨w.heap.size, 1, none⟩ (.int .u64 0)).setCell ⟨w.heap.size, 2, none⟩ (.slice none 0 0)).setCell ⟨w.heap.size, 3, none⟩ (.slice none 0 0)).setCell ⟨w.heap.size, 4, none⟩ (.slice none 0 0)).setCell ⟨w.heap.size, 5, none⟩ (.slice none 0 0)).setCell ⟨w.heap.size, 6, none⟩ (.slice none 0 0)).setCell ⟨w.heap.size, 7, none⟩ (.slice none 0 0)) = Wf at *
        obtain ⟨r0, r1, r2, r3, r4, r5, r6, r7⟩ := cells8 z1
        exact bodyPost_ret (v := .tuple #[.agg zeroKey, .int .i64 190]) (by simp [results, Tryz.results13, go_sem, r0, r1, r2, r3, r4, r5, r6, r7]) rfl ⟨_, 190, rfl, .inr ⟨rfl, HN.out, rfl⟩, zeroKey_far _, z2⟩
      have g7 : ¬ (8192 : Int) < (t : Int) := by omega
      have q7 : decide ((8192 : Int) < (t : Int)) = false := decide_eq_false g7
      have HOK : Hid (halfOk Q) := ⟨by omega, by omega, by have := HTT.out; omega⟩
      clear l5 bx hm5 hz5
      go_wp2_with fail
      go_roundw
      case rel => exact ⟨2, by omega, by go_num, (fun _ => hkP.out (by omega)), (fun _ => HOK.out), K5⟩
      case measure => simp [intOf]
    · skip
      have hP := hkP.out (by omega)
      have hQ := hkQ.out (by omega)
      obtain ⟨w10, rfl⟩ : ∃ w10, w10 = wr := ⟨_, rfl⟩
      have K10 := HK3.out.trans hkp.out
      have b1 := HP3.out.grew hkp.out
      have b2 := HQ3.out.grew hkp.out
      have hdP' : dlen P ≤ 256 := dlen_of_bits hP.2.2
      have hdQ' : dlen Q ≤ 256 := dlen_of_bits hQ.2.2
      have hwP : wordsN P ≤ 128 := words_of_bits hP.2.2
      have hwQ : wordsN Q ≤ 128 := words_of_bits hQ.2.2
      have hP3 := hP.1
      have hQ3 := hQ.1
      have HPH := toHid hP
      have HQH := toHid hQ
      clear l0 l1 hkP hkQ hkp hP hQ HX3 HP3 HQ3
      have h11 := rGcd _ _ P Q w10 b1 b2 (by omega) (by omega)
      go_wp2_with fail
      refine h11.mono ?_
      rintro e w11 ⟨v11, rfl, b11, _, k11⟩
      have K11 := K10.trans k11
      have b1 := b1.grew k11
      have b2 := b2.grew k11
      clear h11
      have h12 := r18one w11
      go_wp2_with fail
      refine h12.mono ?_
      rintro e w12 ⟨v12, rfl, b12, _, k12⟩
      have K12 := K11.trans k12
      have b1 := b1.grew k12
      have b2 := b2.grew k12
      have b11 := b11.grew k12
      clear h12
      have h13 := rCmp v11 v12 _ 1 w12 b11 b12
      by_cases c8 : Nat.gcd P Q = 1
      case neg =>
        have HN : Hid (¬ keyOk L M P Q e) := fun h => c8 h.2.2.2.1
        have hne := cmpNne c8
        have hq : (cmpN (Nat.gcd P Q) 1 == 0) = false := by simpa using hne
        generalize cmpN (Nat.gcd P Q) 1 = c13 at *
        go_wp2_with fail
        refine h13.mono ?_
        rintro r w13' ⟨rfl, m13, rfl⟩
        have K13 := K12.drewN m13
        obtain ⟨w13, hw13⟩ : ∃ w13, w13 = w12.drewN m13 := ⟨_, rfl⟩
        rw [← hw13] at K13 ⊢
        clear h13 hw13
        have hbx := HBX.out _ K13
        obtain ⟨c0, c1, c2, c3, c4, c5, c6, c7⟩ := cells8 hbx
        have f := frees8 hbx
        have HKz := toHid (HK0.out.trans K13)
        go_wp2_with fail
        obtain ⟨z1, z2, _⟩ := stored8 HKz.out (Nat.le_refl _) hbx (.slice none 0 0) (.int .u64 0) (.slice none 0 0) (.slice none 0 0) (.slice none 0 0) (.slice none 0 0) (.slice none 0 0) (.slice none 0 0)
        unfold put8w at z1 z2
        generalize ((((((((w13.setCell ⟨w.heap.size, 0, none⟩ (.slice none 0 0)).setCell ⟨w.heap.size, 1, none⟩ (.int .u64 0)).setCell ⟨w.heap.size, 2, none⟩ (.slice none 0 0)).setCell ⟨w.heap.size, 3, none⟩ (.slice none 0 0)).setCell ⟨w.heap.size, 4, none⟩ (.slice none 0 0)).setCell ⟨w.heap.size, 5, none⟩ (.slice none 0 0)).setCell ⟨w.heap.size, 6, none⟩ (.slice none 0 0)).setCell ⟨w.heap.size, 7, none⟩ (.slice none 0 0)) = Wf at *
        obtain ⟨r0, r1, r2, r3, r4, r5, r6, r7⟩ := cells8 z1
        exact bodyPost_ret (v := .tuple #[.agg zeroKey, .int .i64 190]) (by simp [results, Tryz.results13, go_sem, r0, r1, r2, r3, r4, r5, r6, r7]) rfl ⟨_, 190, rfl, .inr ⟨rfl, HN.out, rfl⟩, zeroKey_far _, z2⟩
      rw [cmpN_eq c8] at h13
      have HG8 := toHid c8
      clear c8
      go_wp2_with fail
      refine h13.mono ?_
      rintro r w13' ⟨rfl, m13, rfl⟩
      have k13 := (Kept.refl Nought w12).drewN m13
      obtain ⟨w13, hw13⟩ : ∃ w13, w13 = w12.drewN m13 := ⟨_, rfl⟩
      rw [← hw13] at k13 ⊢
      have K13 := K12.trans k13
      have b1 := b1.grew k13
      have b2 := b2.grew k13
      clear h13 hw13 b11 b12
      have h14 := rMul _ _ P Q w13 b1 b2 (by omega) (by omega)
      go_wp2_with fail
      refine h14.mono ?_
      rintro e w14 ⟨v14, rfl, b14, _, k14⟩
      have K14 := K13.trans k14
      have b1 := b1.grew k14
      have b2 := b2.grew k14
      clear h14
      have h15 := rLeast v14 _ w14 b14
      go_wp2_with fail
      refine h15.mono ?_
      rintro r w15 ⟨v15, rfl, rn, on, k15⟩
      have K15 := K14.trans k15
      have b1 := b1.grew k15
      have b2 := b2.grew k15
      obtain ⟨no, nl, nc, rfl, hnl, -, -, -, -⟩ := rn.open
      have HON : Hid (∀ x, (Value.slice no nl nc).ownBlock = some x → w.heap.size < x) := fun x hx => by
        rw [on] at hx
        cases hx
        have := K14.size
        have := HSZ0.out
        omega
      have hnl' : nl = (keyWords P Q).length := by rw [keyWords, digs_length]; have := hnl.out; rw [digs_length] at this; omega
      have hdPQ : dlen (P * Q) ≤ 512 := by have := dlen_mul P Q; omega
      have hwPQ : wordsN (P * Q) ≤ 512 := words_le_dlen hdPQ
      have hnb : nl ≤ 512 := by rw [hnl', keyWords, digs_length]; omega
      have rn : Row .u64 w15 (.slice no nl nc) (keyWords P Q) := rn
      have HNL := toHid hnl'
      clear h15 b14 hnl hnl' on
      obtain ⟨EP, hEP⟩ : ∃ EP, EP = pubE (keyWords P Q) e := ⟨_, rfl⟩
      have h16 := r18Public no nl nc (keyWords P Q) e he EP hEP w15 rn (digs_digs (by omega) _ _) (by omega)
      have HEP := toHid hEP
      clear hEP
      by_cases c9 : EP = 0
      case neg =>
        have HN : Hid (¬ keyOk L M P Q e) := fun h => c9 (HEP.out.trans h.2.2.2.2.1)
        have g9 : ¬ (EP : Int) = 0 := by omega
        go_wp2_with fail
        refine h16.mono ?_
        rintro r w16 ⟨rfl, k16⟩
        have K16 := K15.trans k16
        clear h16
        have hbx := HBX.out _ K16
        obtain ⟨c0, c1, c2, c3, c4, c5, c6, c7⟩ := cells8 hbx
        have f := frees8 hbx
        have HKz := toHid (HK0.out.trans K16)
        go_wp2_with fail
        obtain ⟨z1, z2, _⟩ := stored8 HKz.out (Nat.le_refl _) hbx (.slice none 0 0) (.int .u64 0) (.slice none 0 0) (.slice none 0 0) (.slice none 0 0) (.slice none 0 0) (.slice none 0 0) (.slice none 0 0)
        unfold put8w at z1 z2
        generalize ((((((((w16.setCell ⟨w.heap.size, 0, none⟩ (.slice none 0 0)).setCell ⟨w.heap.size, 1, none⟩ (.int .u64 0)).setCell ⟨w.heap.size, 2, none⟩ (.slice none 0 0)).setCell ⟨w.heap.size, 3, none⟩ (.slice none 0 0)).setCell ⟨w.heap.size, 4, none⟩ (.slice none 0 0)).setCell ⟨w.heap.size, 5, none⟩ (.slice none 0 0)).setCell ⟨w.heap.size, 6, none⟩ (.slice none 0 0)).setCell ⟨w.heap.size, 7, none⟩ (.slice none 0 0)) = Wf at *
        obtain ⟨r0, r1, r2, r3, r4, r5, r6, r7⟩ := cells8 z1
        exact bodyPost_ret (v := .tuple #[.agg zeroKey, .int .i64 190]) (by simp [results, Tryz.results13, go_sem, r0, r1, r2, r3, r4, r5, r6, r7]) rfl ⟨_, 190, rfl, .inr ⟨rfl, HN.out, rfl⟩, zeroKey_far _, z2⟩
      subst c9
      go_wp2_with fail
      refine h16.mono ?_
      rintro r w16 ⟨rfl, k16⟩
      have K16 := K15.trans k16
      have b1 := b1.grew k16
      have b2 := b2.grew k16
      have rn := rn.grew k16
      clear h16
      have h17 := rLeast _ P w16 b1
      go_wp2_with fail
      refine h17.mono ?_
      rintro r w17 ⟨v17, rfl, rp, _, k17⟩
      have K17 := K16.trans k17
      have b1 := b1.grew k17
      have b2 := b2.grew k17
      have rn := rn.grew k17
      clear h17
      have h18 := rLeast _ Q w17 b2
      go_wp2_with fail
      refine h18.mono ?_
      rintro r w18 ⟨v18, rfl, rq, _, k18⟩
      have K18 := K17.trans k18
      have b1 := b1.grew k18
      have b2 := b2.grew k18
      have rn := rn.grew k18
      have rp := rp.grew k18
      clear h18
      obtain ⟨po, pl, pc, rfl, hpl, -, -, -, -⟩ := rp.open
      obtain ⟨qo, ql, qc, rfl, hql, -, -, -, -⟩ := rq.open
      have hpl' : pl = max (wordsN P) 1 := by have := hpl.out; rw [digs_length] at this; omega
      have hql' : ql = max (wordsN Q) 1 := by have := hql.out; rw [digs_length] at this; omega
      have hvP : val 18446744073709551616 (digs 18446744073709551616 P (max (wordsN P) 1)) = P := by rw [val_digs, Nat.mod_eq_of_lt ((wordsN_le P _).1 (by omega))]
      have hvQ : val 18446744073709551616 (digs 18446744073709551616 Q (max (wordsN Q) 1)) = Q := by rw [val_digs, Nat.mod_eq_of_lt ((wordsN_le Q _).1 (by omega))]
      have hCE : 0 = comE P Q pl ql := by unfold comE; rw [if_neg (by omega), if_neg (by omega)]
      obtain ⟨cw, hcw⟩ : ∃ cw, cw = digs 18446744073709551616 (comN P Q) (max (wordsN (comN P Q)) 1) := ⟨_, rfl⟩
      obtain ⟨pw, hpw⟩ : ∃ pw, pw = digs 18446744073709551616 P (max (wordsN P) 1) := ⟨_, rfl⟩
      obtain ⟨qw, hqw⟩ : ∃ qw, qw = digs 18446744073709551616 Q (max (wordsN Q) 1) := ⟨_, rfl⟩
      have hdpw : Digs 18446744073709551616 pw := by rw [hpw]; exact digs_digs (by omega) _ _
      have hdqw : Digs 18446744073709551616 qw := by rw [hqw]; exact digs_digs (by omega) _ _
      rw [← hpw] at rp hvP
      rw [← hqw] at rq hvQ
      have h19 := r18Common po qo pl ql pc qc pw qw 0 cw (by rw [hvP, hvQ]; exact hCE) (by rw [hvP, hvQ]; exact hcw) w18 rp rq hdpw hdqw (by omega) (by omega)
      have HCW := toHid hcw
      clear hpl hql hpl' hql' hpw hqw hcw hCE hvP hvQ
      go_wp2_with fail
      refine h19.mono ?_
      rintro r w19 ⟨v19, rfl, rl, _, k19⟩
      have K19 := K18.trans k19
      have b1 := b1.grew k19
      have b2 := b2.grew k19
      have rn := rn.grew k19
      have hcom : comN P Q ≤ P * Q := by
        unfold comN
        exact Nat.mul_le_mul (Nat.le_trans (Nat.div_le_self _ _) (by omega)) (by omega)
      have hcom2 := com_ge hP3 hQ3
      have hdc : dlen (comN P Q) ≤ 512 := Nat.le_trans (dlen_mono hcom) hdPQ
      rw [HCW.out] at rl
      clear h19 rp rq hdpw hdqw
      have h20 := rSmall e he w19
      go_wp2_with fail
      refine h20.mono ?_
      rintro e w20 ⟨v20, rfl, b20, _, k20⟩
      have K20 := K19.trans k20
      have b1 := b1.grew k20
      have b2 := b2.grew k20
      have rn := rn.grew k20
      have rl := rl.grew k20
      clear h20
      obtain ⟨lo9, ll9, lc9, rfl, hll, -, -, -, -⟩ := rl.open
      have hll' : (digs 18446744073709551616 (comN P Q) (max (wordsN (comN P Q)) 1)).length ≤ 100000000 := by
        rw [digs_length]
        have : wordsN (comN P Q) ≤ 512 := words_le_dlen hdc
        omega
      have hvl : val 18446744073709551616 (digs 18446744073709551616 (comN P Q) (max (wordsN (comN P Q)) 1)) = comN P Q := by rw [val_digs, Nat.mod_eq_of_lt ((wordsN_le _ _).1 (by omega))]
      have h21 := rOf _ _ w20 rl (digs_digs (by omega) _ _) hll'
      go_wp2_with fail
      refine h21.mono ?_
      rintro e w21 ⟨v21, rfl, b21, _, k21⟩
      have K21 := K20.trans k21
      have b1 := b1.grew k21
      have b2 := b2.grew k21
      have rn := rn.grew k21
      have rl := rl.grew k21
      have b20 := b20.grew k21
      clear h21
      rw [hvl] at b21
      clear hvl hll hll' rl
      have h22 := rInverse v20 v21 e (comN P Q) w21 b20 b21 (by omega) (by have := (dlen_le e 2).2 (by omega); omega) (by omega)
      by_cases c10 : Nat.gcd e (comN P Q) = 1
      case neg =>
        have HN : Hid (¬ keyOk L M P Q e) := fun h => c10 h.2.2.2.2.2
        rw [decide_eq_false c10] at h22
        go_wp2_with fail
        refine h22.mono ?_
        rintro r w22 ⟨v22, rfl, _, hnil, _, k22⟩
        obtain rfl := hnil c10
        have K22 := K21.trans k22
        clear h22
        have hbx := HBX.out _ K22
        obtain ⟨c0, c1, c2, c3, c4, c5, c6, c7⟩ := cells8 hbx
        have f := frees8 hbx
        have HKz := toHid (HK0.out.trans K22)
        go_wp2_with fail
        obtain ⟨z1, z2, _⟩ := stored8 HKz.out (Nat.le_refl _) hbx (.slice none 0 0) (.int .u64 0) (.slice none 0 0) (.slice none 0 0) (.slice none 0 0) (.slice none 0 0) (.slice none 0 0) (.slice none 0 0)
        unfold put8w at z1 z2
        generalize ((((((((w22.setCell ⟨w.heap.size, 0, none⟩ (.slice none 0 0)).setCell ⟨w.heap.size, 1, none⟩ (.int .u64 0)).setCell ⟨w.heap.size, 2, none⟩ (.slice none 0 0)).setCell ⟨w.heap.size, 3, none⟩ (.slice none 0 0)).setCell ⟨w.heap.size, 4, none⟩ (.slice none 0 0)).setCell ⟨w.heap.size, 5, none⟩ (.slice none 0 0)).setCell ⟨w.heap.size, 6, none⟩ (.slice none 0 0)).setCell ⟨w.heap.size, 7, none⟩ (.slice none 0 0)) = Wf at *
        obtain ⟨r0, r1, r2, r3, r4, r5, r6, r7⟩ := cells8 z1
        exact bodyPost_ret (v := .tuple #[.agg zeroKey, .int .i64 190]) (by simp [results, Tryz.results13, go_sem, r0, r1, r2, r3, r4, r5, r6, r7]) rfl ⟨_, 190, rfl, .inr ⟨rfl, HN.out, rfl⟩, zeroKey_far _, z2⟩
      rw [decide_eq_true c10] at h22
      go_wp2_with fail
      refine h22.mono ?_
      rintro r w22 ⟨v22, rfl, hT, _, _, k22⟩
      obtain ⟨d, hd1, hd2, b22⟩ := hT c10
      obtain ⟨do2, dn2, dc2, rfl, -, -⟩ := b22.length
      have K22 := K21.trans k22
      have b1 := b1.grew k22
      have b2 := b2.grew k22
      have rn := rn.grew k22
      have HG10 := toHid c10
      clear h22 hT b20 b21 c10
      have h23 := rWordsBig _ P w22 b1
      go_wp2_with fail
      refine h23.mono ?_
      rintro r w23 ⟨rfl, rfl⟩
      clear h23
      have h24 := rWordsBig _ Q w23 b2
      go_wp2_with fail
      refine h24.mono ?_
      rintro r w24 ⟨rfl, rfl⟩
      clear h24
      have K24 := K22
      obtain ⟨ww, hww⟩ : ∃ ww, ww = max (wordsN P) (wordsN Q) := ⟨_, rfl⟩
      have gmax : max ((wordsN P : Nat) : Int) ((wordsN Q : Nat) : Int) = (ww : Int) := by omega
      have hwwb : ww ≤ 128 := by omega
      have HWW := toHid hww
      have HD1 := toHid hd1
      have HD2 := toHid hd2
      have h25 := rInverse _ _ Q P w24 b2 b1 (by omega) (by omega) (by omega)
      have hgc : Nat.gcd Q P = 1 := by rw [Nat.gcd_comm]; exact HG8.out
      rw [decide_eq_true hgc] at h25
      clear hww hd1 hd2
      go_wp2_with fail
      refine h25.mono ?_
      rintro r w25 ⟨v25, rfl, hT, _, _, k25⟩
      obtain ⟨u, hu1, hu2, b25⟩ := hT hgc
      obtain ⟨uo2, un2, uc2, rfl, -, -⟩ := b25.length
      have K25 := K24.trans k25
      have b1 := b1.grew k25
      have b2 := b2.grew k25
      have b22 := b22.grew k25
      have rn := rn.grew k25
      have HU1 := toHid hu1
      have HU2 := toHid hu2
      clear h25 hT hu1 hu2 hgc
      have hdd : dlen d ≤ 512 := Nat.le_trans (dlen_mono (Nat.le_of_lt HD1.out)) hdc
      have h26 := rNat _ d nl w25 b22 (by omega)
      go_wp2_with fail
      refine h26.mono ?_
      rintro r w26 ⟨v26, rfl, r26, o26, k26⟩
      obtain ⟨so26, sl26, sc26, rfl, -, -, -, -, -⟩ := r26.open
      have H26 : Hid (∀ x, (Value.slice so26 sl26 sc26).ownBlock = some x → w.heap.size < x) := fun x hx => by
        rw [o26] at hx
        cases hx
        have := K25.size
        have := HSZ0.out
        omega
      have K26 := K25.trans k26
      have b1 := b1.grew k26
      have b2 := b2.grew k26
      have b22 := b22.grew k26
      have b25 := b25.grew k26
      have rn := rn.grew k26
      clear h26 o26
      have h27 := rNat _ P ww w26 b1 (by omega)
      go_wp2_with fail
      refine h27.mono ?_
      rintro r w27 ⟨v27, rfl, r27, o27, k27⟩
      obtain ⟨so27, sl27, sc27, rfl, -, -, -, -, -⟩ := r27.open
      have H27 : Hid (∀ x, (Value.slice so27 sl27 sc27).ownBlock = some x → w.heap.size < x) := fun x hx => by
        rw [o27] at hx
        cases hx
        have := K26.size
        have := HSZ0.out
        omega
      have K27 := K26.trans k27
      have b1 := b1.grew k27
      have b2 := b2.grew k27
      have b22 := b22.grew k27
      have b25 := b25.grew k27
      have rn := rn.grew k27
      have r26 := r26.grew k27
      clear h27 o27
      have h28 := rNat _ Q ww w27 b2 (by omega)
      go_wp2_with fail
      refine h28.mono ?_
      rintro r w28 ⟨v28, rfl, r28, o28, k28⟩
      obtain ⟨so28, sl28, sc28, rfl, -, -, -, -, -⟩ := r28.open
      have H28 : Hid (∀ x, (Value.slice so28 sl28 sc28).ownBlock = some x → w.heap.size < x) := fun x hx => by
        rw [o28] at hx
        cases hx
        have := K27.size
        have := HSZ0.out
        omega
      have K28 := K27.trans k28
      have b1 := b1.grew k28
      have b2 := b2.grew k28
      have b22 := b22.grew k28
      have b25 := b25.grew k28
      have rn := rn.grew k28
      have r26 := r26.grew k28
      have r27 := r27.grew k28
      clear h28 o28
      have h29 := r18one w28
      go_wp2_with fail
      refine h29.mono ?_
      rintro e w29 ⟨v29, rfl, b29, _, k29⟩
      have K29 := K28.trans k29
      have b1 := b1.grew k29
      have b2 := b2.grew k29
      have b22 := b22.grew k29
      have b25 := b25.grew k29
      have rn := rn.grew k29
      have r26 := r26.grew k29
      have r27 := r27.grew k29
      have r28 := r28.grew k29
      clear h29
      have h30 := rSub _ v29 P 1 w29 b1 b29 (by omega)
      go_wp2_with fail
      refine h30.mono ?_
      rintro e w30 ⟨v30, rfl, b30, _, k30⟩
      have K30 := K29.trans k30
      have b1 := b1.grew k30
      have b2 := b2.grew k30
      have b22 := b22.grew k30
      have b25 := b25.grew k30
      have rn := rn.grew k30
      have r26 := r26.grew k30
      have r27 := r27.grew k30
      have r28 := r28.grew k30
      have b29 := b29.grew k30
      clear h30
      have h31 := rMod _ v30 d (P - 1) w30 b22 b30 (by omega) (by omega)
      go_wp2_with fail
      refine h31.mono ?_
      rintro e w31 ⟨v31, rfl, b31, _, k31⟩
      have K31 := K30.trans k31
      have b1 := b1.grew k31
      have b2 := b2.grew k31
      have b22 := b22.grew k31
      have b25 := b25.grew k31
      have rn := rn.grew k31
      have r26 := r26.grew k31
      have r27 := r27.grew k31
      have r28 := r28.grew k31
      have b29 := b29.grew k31
      have b30 := b30.grew k31
      clear h31
      have h32 := rNat v31 _ ww w31 b31 (by omega)
      go_wp2_with fail
      refine h32.mono ?_
      rintro r w32 ⟨v32, rfl, r32, o32, k32⟩
      obtain ⟨so32, sl32, sc32, rfl, -, -, -, -, -⟩ := r32.open
      have H32 : Hid (∀ x, (Value.slice so32 sl32 sc32).ownBlock = some x → w.heap.size < x) := fun x hx => by
        rw [o32] at hx
        cases hx
        have := K31.size
        have := HSZ0.out
        omega
      have K32 := K31.trans k32
      have b1 := b1.grew k32
      have b2 := b2.grew k32
      have b22 := b22.grew k32
      have b25 := b25.grew k32
      have rn := rn.grew k32
      have r26 := r26.grew k32
      have r27 := r27.grew k32
      have r28 := r28.grew k32
      have b29 := b29.grew k32
      have b30 := b30.grew k32
      have b31 := b31.grew k32
      clear h32 o32
      have h33 := r18one w32
      go_wp2_with fail
      refine h33.mono ?_
      rintro e w33 ⟨v33, rfl, b33, _, k33⟩
      have K33 := K32.trans k33
      have b1 := b1.grew k33
      have b2 := b2.grew k33
      have b22 := b22.grew k33
      have b25 := b25.grew k33
      have rn := rn.grew k33
      have r26 := r26.grew k33
      have r27 := r27.grew k33
      have r28 := r28.grew k33
      have b29 := b29.grew k33
      have b30 := b30.grew k33
      have b31 := b31.grew k33
      have r32 := r32.grew k33
      clear h33
      have h34 := rSub _ v33 Q 1 w33 b2 b33 (by omega)
      go_wp2_with fail
      refine h34.mono ?_
      rintro e w34 ⟨v34, rfl, b34, _, k34⟩
      have K34 := K33.trans k34
      have b1 := b1.grew k34
      have b2 := b2.grew k34
      have b22 := b22.grew k34
      have b25 := b25.grew k34
      have rn := rn.grew k34
      have r26 := r26.grew k34
      have r27 := r27.grew k34
      have r28 := r28.grew k34
      have b29 := b29.grew k34
      have b30 := b30.grew k34
      have b31 := b31.grew k34
      have r32 := r32.grew k34
      have b33 := b33.grew k34
      clear h34
      have h35 := rMod _ v34 d (Q - 1) w34 b22 b34 (by omega) (by omega)
      go_wp2_with fail
      refine h35.mono ?_
      rintro e w35 ⟨v35, rfl, b35, _, k35⟩
      have K35 := K34.trans k35
      have b1 := b1.grew k35
      have b2 := b2.grew k35
      have b22 := b22.grew k35
      have b25 := b25.grew k35
      have rn := rn.grew k35
      have r26 := r26.grew k35
      have r27 := r27.grew k35
      have r28 := r28.grew k35
      have b29 := b29.grew k35
      have b30 := b30.grew k35
      have b31 := b31.grew k35
      have r32 := r32.grew k35
      have b33 := b33.grew k35
      have b34 := b34.grew k35
      clear h35
      have h36 := rNat v35 _ ww w35 b35 (by omega)
      go_wp2_with fail
      refine h36.mono ?_
      rintro r w36 ⟨v36, rfl, r36, o36, k36⟩
      obtain ⟨so36, sl36, sc36, rfl, -, -, -, -, -⟩ := r36.open
      have H36 : Hid (∀ x, (Value.slice so36 sl36 sc36).ownBlock = some x → w.heap.size < x) := fun x hx => by
        rw [o36] at hx
        cases hx
        have := K35.size
        have := HSZ0.out
        omega
      have K36 := K35.trans k36
      have b1 := b1.grew k36
      have b2 := b2.grew k36
      have b22 := b22.grew k36
      have b25 := b25.grew k36
      have rn := rn.grew k36
      have r26 := r26.grew k36
      have r27 := r27.grew k36
      have r28 := r28.grew k36
      have b29 := b29.grew k36
      have b30 := b30.grew k36
      have b31 := b31.grew k36
      have r32 := r32.grew k36
      have b33 := b33.grew k36
      have b34 := b34.grew k36
      have b35 := b35.grew k36
      clear h36 o36
      have h37 := rNat _ u ww w36 b25 (by omega)
      go_wp2_with fail
      refine h37.mono ?_
      rintro r w37 ⟨v37, rfl, r37, o37, k37⟩
      obtain ⟨so37, sl37, sc37, rfl, -, -, -, -, -⟩ := r37.open
      have H37 : Hid (∀ x, (Value.slice so37 sl37 sc37).ownBlock = some x → w.heap.size < x) := fun x hx => by
        rw [o37] at hx
        cases hx
        have := K36.size
        have := HSZ0.out
        omega
      have K37 := K36.trans k37
      have b1 := b1.grew k37
      have b2 := b2.grew k37
      have b22 := b22.grew k37
      have b25 := b25.grew k37
      have rn := rn.grew k37
      have r26 := r26.grew k37
      have r27 := r27.grew k37
      have r28 := r28.grew k37
      have b29 := b29.grew k37
      have b30 := b30.grew k37
      have b31 := b31.grew k37
      have r32 := r32.grew k37
      have b33 := b33.grew k37
      have b34 := b34.grew k37
      have b35 := b35.grew k37
      have r36 := r36.grew k37
      clear h37 o37
      have HROWS := toHid (⟨rn, r26, r27, r28, r32, r36, r37⟩ : _ ∧ _ ∧ _ ∧ _ ∧ _ ∧ _ ∧ _)
      clear b1 b2 b22 b25 b29 b30 b31 b33 b34 b35 rn r26 r27 r28 r32 r36 r37
      have hbx := HBX.out _ K37
      obtain ⟨c0, c1', c2', c3, c4, c5, c6, c7⟩ := cells8 hbx
      have f := frees8 hbx
      have HKz := toHid (HK0.out.trans K37)
      go_wp2_with fail
      obtain ⟨z1, z2, z3⟩ := stored8 HKz.out (Nat.le_refl _) hbx (.slice no nl nc) (.int .u64 (e : Nat)) (.slice so26 sl26 sc26) (.slice so27 sl27 sc27) (.slice so28 sl28 sc28) (.slice so32 sl32 sc32) (.slice so36 sl36 sc36) (.slice so37 sl37 sc37)
      unfold put8w at z1 z2 z3
      generalize ((((((((w37.setCell ⟨w.heap.size, 0, none⟩ (.slice no nl nc)).setCell ⟨w.heap.size, 1, none⟩ (.int .u64 (e : Nat))).setCell ⟨w.heap.size, 2, none⟩ (.slice so26 sl26 sc26)).setCell ⟨w.heap.size, 3, none⟩ (.slice so27 sl27 sc27)).setCell ⟨w.heap.size, 4, none⟩ (.slice so28 sl28 sc28)).setCell ⟨w.heap.size, 5, none⟩ (.slice so32 sl32 sc32)).setCell ⟨w.heap.size, 6, none⟩ (.slice so36 sl36 sc36)).setCell ⟨w.heap.size, 7, none⟩ (.slice so37 sl37 sc37)) = Wf at *
      obtain ⟨r0, r1, r2, r3, r4, r5, r6, r7⟩ := cells8 z1
      obtain ⟨y0, y1, y2, y3, y4, y5, y6⟩ := HROWS.out
      exact bodyPost_ret (v := .tuple #[.agg #[.slice no nl nc, .int .u64 (e : Nat), .slice so26 sl26 sc26, .slice so27 sl27 sc27, .slice so28 sl28 sc28, .slice so32 sl32 sc32, .slice so36 sl36 sc36, .slice so37 sl37 sc37], .int .i64 0]) (by simp [results, Tryz.results13, go_sem, r0, r1, r2, r3, r4, r5, r6, r7]) rfl ⟨_, 0, rfl, .inl ⟨rfl, ⟨⟨by omega, by omega⟩, HPH.out, HQH.out, HG8.out, HEP.out.symm, HG10.out⟩, _, _, _, _, _, _, _, d, u, rfl, y0.kept z3 (fun x hx ex => by have := HON.out x hx; omega), HD1.out, HD2.out, (by rw [← HNL.out]; exact y1.kept z3 (fun x hx ex => by have := H26.out x hx; omega)), (by rw [← HWW.out]; exact y2.kept z3 (fun x hx ex => by have := H27.out x hx; omega)), (by rw [← HWW.out]; exact y3.kept z3 (fun x hx ex => by have := H28.out x hx; omega)), (by rw [← HWW.out]; exact y4.kept z3 (fun x hx ex => by have := H32.out x hx; omega)), (by rw [← HWW.out]; exact y5.kept z3 (fun x hx ex => by have := H36.out x hx; omega)), HU1.out, HU2.out, (by rw [← HWW.out]; exact y6.kept z3 (fun x hx ex => by have := H37.out x hx; omega))⟩, key_far HON.out H26.out H27.out H28.out H32.out H36.out H37.out, z2⟩

end Go.Proofs.YtiljkgoafknefaaGreat

