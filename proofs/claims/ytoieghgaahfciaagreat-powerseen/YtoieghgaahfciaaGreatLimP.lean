/- Package limbs: Pick: what it answers and writes down, for any list of numbers. -/
import Derived.Test.YtoieghgaahfciaaGreatLim2
namespace Go.Proofs.YtoieghgaahfciaaGreat
open Go.RowKit

theorem Slots.did {w w' : World} {o o' : Tr} {m : List Ev} {ao : Option Addr} {n : Nat} {A : Nat → Option Addr} {L C : Nat → Nat} (h : Slots w ao n A L C) (d : Did w o m w' o') (hap : ∀ a, ao = some a → ¬ trFoot o a.block) : Slots w' ao n A L C := by
  intro i hi
  obtain ⟨b, off, rfl, hc⟩ := h i hi
  exact ⟨b, off, rfl, (World.cell?_of_block (a := ⟨b, off + i, none⟩) (d.kept.block b (World.block_lt_of_cell? w _ hc) (hap _ rfl))).trans hc⟩

theorem set_mid (V U n q : Nat) (h : q < n) : (digs 18446744073709551616 V q ++ (digs 18446744073709551616 U n).drop q).set q (dig 18446744073709551616 V q) = digs 18446744073709551616 V (q + 1) ++ (digs 18446744073709551616 U n).drop (q + 1) := by
  rw [List.set_append_right _ _ (by rw [digs_length]; omega), digs_length, Nat.sub_self, List.drop_eq_getElem_cons (show q < (digs 18446744073709551616 U n).length by rw [digs_length]; exact h), digs, List.set_cons_zero, List.append_assoc]
  rfl

theorem mid_cell {w : World} {base g n q V U : Nat} {t : TypeId} (h : OwnN .u64 t w base (.slice (some ⟨g, 0, none⟩) n n) n (digs 18446744073709551616 V q ++ (digs 18446744073709551616 U n).drop q)) (hq : q < n) : w.cell? ⟨g, q, none⟩ = some (.int .u64 (dig 18446744073709551616 U q : Nat)) := by
  rw [World.ownsRow.cellAt h q (by omega), List.getElem?_map, List.getElem?_append_right (by rw [digs_length]; omega), digs_length, Nat.sub_self, List.getElem?_drop, Nat.add_zero, ← digs_getD 18446744073709551616 U n q hq, List.getD_eq_getElem?_getD, List.getElem?_eq_getElem (show q < (digs 18446744073709551616 U n).length by rw [digs_length]; exact hq)]
  rfl

/-- What Pick has gathered when it has gone over p numbers. -/
def pickN (X : Nat → Nat) (i p : Nat) : Nat := if i < p then X i else 0

theorem pick_dig (X : Nat → Nat) (i p q : Nat) : bits .or .u64 (dig 18446744073709551616 (pickN X i p) q : Nat) (bits .and .u64 (dig 18446744073709551616 (X p) q : Nat) (msk (eqw (p : Int) (i : Int)))) = (dig 18446744073709551616 (pickN X i (p + 1)) q : Nat) := by
  have hx : ∀ Y, dig 18446744073709551616 Y q < 18446744073709551616 := fun Y => Nat.mod_lt _ (by omega)
  unfold eqw
  by_cases h : p = i
  · subst h
    rw [if_pos rfl, show (1 : Int) = ((1 : Nat) : Int) from rfl, and_msk _ 1 (hx _)]
    unfold pickN
    rw [if_neg (by omega), if_pos (by omega), show dig 18446744073709551616 0 q = 0 by simp [dig], u64_or_nat 0 _ (by omega) (by have := hx (X p); omega)]
    simp
  · rw [if_neg (by omega), show (0 : Int) = ((0 : Nat) : Int) from rfl, and_msk _ 0 (hx _)]
    have e : pickN X i (p + 1) = pickN X i p := by
      unfold pickN
      by_cases hi : i < p
      · rw [if_pos (by omega), if_pos hi]
      · rw [if_neg (by omega), if_neg hi]
    rw [e, show dig 18446744073709551616 (X p) q * (0 % 2) = 0 by simp, u64_or_nat _ 0 (hx _) (by omega)]
    simp

set_option maxRecDepth 20000 in
set_option maxHeartbeats 4000000 in
/-- Pick. -/
theorem lPick (o : Tr) (ao : Option Addr) (m cap : Nat) (A : Nat → Option Addr) (L C : Nat → Nat) (xss : Nat → List Nat) (i : Nat) (hi : i < 18446744073709551616) (w : World) (ht : TrRoom w o m) (hs : Slots w ao m A L C) (hap : 0 < m → ∀ a, ao = some a → ¬ trFoot o a.block) (hr : ∀ p, p < m → RowT w o (.slice (A p) (L p) (C p)) (xss p)) (hd : ∀ p, p < m → Digs 18446744073709551616 (xss p)) (hL : ∀ p, p < m → L p ≤ 100000000) (hm : m ≤ 100000000) :
    Calls Tryz.prog 58 #[trPtr o, .slice ao m cap, .int .u64 (i : Nat)] w fun e w' => ∃ v', e = .returned v' ∧
      OwnN .u64 24 w' w.heap.size v' (maxOf L m) (digs 18446744073709551616 (pickN (fun p => val 18446744073709551616 (xss p)) i m) (maxOf L m)) ∧ ∃ o', Did w o (List.replicate m (1, (maxOf L m : Nat), 0)) w' o' := by
  obtain ⟨i0, hi0, hz0, hz1, hz2⟩ := info_parts Tryz.info24
  have hC := lCommon ao m cap A L C w (by omega) hs
  have hnb : maxOf L m ≤ 100000000 := maxOf_le L _ m hL
  obtain ⟨X, hX⟩ : ∃ X : Nat → Nat, X = fun p => val 18446744073709551616 (xss p) := ⟨_, rfl⟩
  rw [← hX]
  have hF : Hid (∀ o' W g p, p < m → TrIn W o' → RowT W o' (.slice (A p) (L p) (C p)) (xss p) → W.heap[g]? = some (.cells #[.int .i64 (maxOf L m : Nat)] 3 (0, 0)) → Calls Tryz.prog 101 #[.slice (A p) (L p) (C p), .pointer (some ⟨g, 0, none⟩)] W fun e w' => ∃ v', e = .returned v' ∧ RowT w' o' v' (digs 18446744073709551616 (X p) (maxOf L m)) ∧ Kept Nought W w' ∧ (v' = .slice (A p) (L p) (C p) ∨ ∀ b, v'.ownBlock = some b → W.heap.size ≤ b)) := fun o' W g p hp t r hg => by
    rw [hX]
    refine lFitN o' _ (xss p) (maxOf L m) g W t r (hd p hp) ?_ (by omega) hg
    obtain ⟨_, _, _, e, h, _⟩ := r.1.open
    simp only [Value.slice.injEq] at e
    have h1 := h.out
    have h2 := le_maxOf L m p hp
    omega
  have HLen : Hid (∀ p, p < m → (xss p).length = L p) := fun p hp => by
    obtain ⟨_, _, _, e, h, _⟩ := (hr p hp).1.open
    simp only [Value.slice.injEq] at e
    have h1 := h.out
    omega
  have HT := toHid ht
  have HS := toHid hs
  have HAP := toHid hap
  have HR := toHid hr
  obtain ⟨tp, htp⟩ : ∃ tp, tp = trPtr o := ⟨_, rfl⟩
  rw [← htp]
  have HTP := toHid htp
  clear ht hs hap hr hd hL htp hX
  generalize maxOf L m = n at *
  go_enter Tryz.func58, Tryz.ntmps58
  go_wp2_with fail
  refine hC.mono ?_
  rintro e w1 ⟨rfl, hw1⟩
  have hg1 : w1.heap[w.heap.size]? = some (.cells #[.int .i64 (n : Nat)] 3 (0, 0)) := by rw [hw1]; exact heap_alloc_new _ _
  have k1 : Kept Nought w w1 := by rw [hw1]; exact (Kept.refl Nought w).alloc _
  have hs1 : w1.heap.size = w.heap.size + 1 := by rw [hw1]; simp
  obtain ⟨g, hg⟩ : ∃ g, g = w.heap.size := ⟨_, rfl⟩
  rw [← hg] at hg1 ⊢
  have HG : Hid (g = w.heap.size ∧ w1.heap.size = w.heap.size + 1) := ⟨hg, hs1⟩
  clear hC hw1 hs1 hg
  go_wp2_with (at_make; refine wpList_make_full _ rfl _ _ 23 rfl w1.heap.size 24 i0 _ 1 Tryz.underlying23 hi0 hz0 hz1 _ _ _ _ n rfl rfl rfl rfl (by rw [hz2]; omega) (by unfold maxLen; omega) (Nat.le_refl _) ?_; intro w5 ho5 hg5)
  rw [zeros_map] at ho5
  have k5 := grown_kept hg5
  have hg5' := (k5.block g (lt_of_block hg1) (fun f => f)).trans hg1
  have ho5' : OwnN .u64 24 w5 w.heap.size (.slice (some ⟨w1.heap.size, 0, none⟩) n n) n (digs 18446744073709551616 (pickN X i 0) n) := by
    have e : digs 18446744073709551616 (pickN X i 0) n = List.replicate n 0 := by
      have := fill_digs (ys := []) (V := 0) (m := n) (Digs.nil _) rfl (Nat.zero_le _)
      simpa [pickN] using this
    rw [e]
    exact own_base ho5 (fun b hb => Nat.le_trans k1.size (ho5.lt b hb).1)
  have d5 : Did w o (List.replicate 0 (1, (n : Int), 0)) w5 o := Did.of_kept (k1.trans k5) HT.out.1
  obtain ⟨h, hh⟩ : ∃ h, h = w1.heap.size := ⟨_, rfl⟩
  rw [← hh] at ho5' ⊢
  have HH : Hid (h = g + 1 ∧ w.heap.size ≤ h) := by have := HG.out; unfold Hid; omega
  clear hg5 ho5 k5 k1 hg1 hh
  go_loopw [23] (fun ii wr => ∃ (p : Nat) (o' : Tr), p ≤ m ∧ ii = .int .i64 (p : Int) ∧ Hid (Did w o (List.replicate p (1, (n : Int), 0)) wr o') ∧ Hid (wr.heap[g]? = some (.cells #[.int .i64 (n : Nat)] 3 (0, 0))) ∧ Hid (OwnN .u64 24 wr w.heap.size (.slice (some ⟨h, 0, none⟩) n n) n (digs 18446744073709551616 (pickN X i p) n))) (fun ii _ => m - (intOf ii).toNat)
  case atStart => exact ⟨0, o, Nat.zero_le _, rfl, d5, hg5', ho5'⟩
  case round =>
    clear d5 hg5' ho5'
    obtain ⟨p, o1, hp, rfl, hd1, hg1, ho1⟩ := hrel
    by_cases hpm : p < m
    · have g1 : (p : Int) < (m : Int) := by omega
      have ht1 : TrRoom wr o1 (m - p) := hd1.out.room (by rw [List.length_replicate, show p + (m - p) = m by omega]; exact HT.out)
      have hS := tSpanDid o1 n wr ht1.1
      rw [hd1.out.ptr, ← HTP.out] at hS
      go_wp2_with fail
      refine hS.mono ?_
      rintro e w2 ⟨rfl, o2, dd⟩
      have d2 : Hid (Did w o (List.replicate (p + 1) (1, (n : Int), 0)) w2 o2) := by
        have := hd1.out.trans dd
        rw [List.replicate_succ']
        exact this
      have ht2 : TrIn w2 o2 := (d2.out.room (k := m - (p + 1)) (by rw [List.length_replicate, show p + 1 + (m - (p + 1)) = m by omega]; exact HT.out)).1
      have hg2 := (dd.kept.block g (lt_of_block hg1.out) (cells_apart hg1.out ht1.1 (by decide) (by decide))).trans hg1.out
      have ho2 := dd.kept.own ho1.out (own_apart ho1.out ht1.1)
      have hr2 := (HR.out p hpm).did d2.out
      obtain ⟨bb, off, rfl, hcell⟩ := (HS.out.did d2.out (HAP.out (by omega))) p hpm
      have hF2 := hF.out o2 w2 g p hpm ht2 hr2 hg2
      have hlen := HLen.out p hpm
      have hold : Hid (n ≠ 0 → L p = n → ∀ b, (Value.slice (A p) (L p) (C p)).ownBlock = some b → b < w.heap.size) := fun h0 h1 b hb => (HR.out p hpm).1.lt (fun e => by rw [e] at hlen; simp at hlen; omega) b hb
      clear hS dd ht1 hd1 hg1 ho1 hr2 hlen
      generalize A p = a0 at *
      generalize L p = l0 at *
      generalize C p = c0 at *
      go_wp2_with fail
      refine hF2.mono ?_
      rintro e w3 ⟨v1, rfl, hr3, k3, hnew⟩
      have hne : Hid (n ≠ 0 → ∀ b, v1.ownBlock = some b → b ≠ h) := by
        intro h0 b hb e
        subst e
        have hHH := HH.out
        rcases hnew with rfl | hnew
        · obtain ⟨_, _, _, e, hl, _⟩ := hr3.1.open
          simp only [Value.slice.injEq] at e
          have h1 := hl.out
          rw [digs_length] at h1
          have := hold.out h0 (by omega) b hb
          omega
        · have h1 := hnew b hb
          have h2 := (ho2.lt b rfl).2
          omega
      have ho3 := k3.own ho2 (fun _ _ f => f)
      have hg3 := toHid ((k3.block g (lt_of_block hg2) (fun f => f)).trans hg2)
      have d3 := toHid (d2.out.grew k3)
      have ht3 := toHid (ht2.grew k3)
      obtain ⟨a1, n1, c1, rfl, hN1, _, _, _, hn1⟩ := hr3.1.open
      obtain rfl : n1 = n := by rw [← hN1.out, digs_length]
      have hE := fun W => wEqual (p : Int) (i : Int) (by omega) (by omega) (by omega) (by omega) W
      have hq01 : 0 ≤ eqw (p : Int) (i : Int) ∧ eqw (p : Int) (i : Int) ≤ 1 := by
        unfold eqw
        by_cases h : (p : Int) = (i : Int)
        · rw [if_pos h]; omega
        · rw [if_neg h]; omega
      have hK := fun W => wMask (eqw (p : Int) (i : Int)) hq01.1 (by omega) W
      have hPD : Hid (∀ q, bits .or .u64 (dig 18446744073709551616 (pickN X i p) q : Nat) (bits .and .u64 (dig 18446744073709551616 (X p) q : Nat) (msk (eqw (p : Int) (i : Int)))) = (dig 18446744073709551616 (pickN X i (p + 1)) q : Nat)) := fun q => pick_dig X i p q
      clear hF2 hnew hold hg2 ht2 d2 ho2 k3 hcell hr3 hN1 hq01
      generalize eqw (p : Int) (i : Int) = eq at *
      generalize msk eq = mk at *
      go_wp2_with fail
      refine (hE _).mono ?_
      rintro e w3' ⟨rfl, rfl⟩
      go_wp2_with fail
      refine (hK _).mono ?_
      rintro e w3' ⟨rfl, rfl⟩
      clear hE hK
      generalize pickN X i p = V at *
      have hh3 : Hid (¬ trFoot o2 h) := own_apart ho3 ht3.out h rfl
      go_wp2_with fail
      go_loopw [41] (fun jj wr => ∃ (q : Nat), q ≤ n1 ∧ jj = .int .i64 (q : Int) ∧ OwnN .u64 24 wr w.heap.size (.slice (some ⟨h, 0, none⟩) n1 n1) n1 (digs 18446744073709551616 (pickN X i (p + 1)) q ++ (digs 18446744073709551616 V n1).drop q) ∧ Kept (fun b => b = h) w3' wr) (fun jj _ => n1 - (intOf jj).toNat)
      case atStart => exact ⟨0, Nat.zero_le _, rfl, by rw [digs, List.nil_append, List.drop_zero]; exact ho3, Kept.refl _ _⟩
      case round =>
        clear ho3
        obtain ⟨q, hq, rfl, ho, hkp⟩ := hrel
        by_cases hqn : q < n1
        · have g2 : (q : Int) < (n1 : Int) := by omega
          have g0 : (0 : Int) ≤ (q : Int) := Int.natCast_nonneg _
          obtain ⟨b1, off1, rfl, hc1⟩ := digs_at ((hn1 q hqn).kept hkp (fun a ha => hne.out (by omega) _ (by rw [ha]; rfl))) hqn
          have hc0 := mid_cell ho hqn
          have hf := World.ownsRow.frozenAt ho q
          have hst := fun u => (World.ownsRow.stored ho q u).1
          have hpd := hPD.out q
          have HST : Hid (OwnN .u64 24 (wr.setCell ⟨h, q, none⟩ (.int .u64 (dig 18446744073709551616 (pickN X i (p + 1)) q : Nat))) w.heap.size (.slice (some ⟨h, 0, none⟩) n1 n1) n1 (digs 18446744073709551616 (pickN X i (p + 1)) (q + 1) ++ (digs 18446744073709551616 V n1).drop (q + 1))) := by
            have := hst (.int .u64 (dig 18446744073709551616 (pickN X i (p + 1)) q : Nat))
            unfold Hid OwnN
            rw [← set_mid _ _ n1 q hqn, List.map_set]
            exact this
          clear hst hn1 hPD
          generalize dig 18446744073709551616 (X p) q = x at *
          generalize dig 18446744073709551616 V q = y at *
          generalize dig 18446744073709551616 (pickN X i (p + 1)) q = z at *
          go_wp2_with fail
          go_region
          all_goals
            go_wp2_with fail
            go_roundw
            case rel => exact ⟨q + 1, by omega, by go_num, HST.out, (hkp.setCell _ (fun _ => rfl) _).drew⟩
            case measure => simp [intOf]; omega
        · have g2 : ¬ (q : Int) < (n1 : Int) := by omega
          have e : q = n1 := by omega
          subst e
          rw [List.drop_eq_nil_of_le (by rw [digs_length]; exact Nat.le_refl _), List.append_nil] at ho
          have hHH := HH.out
          have d4 : Hid (Did w o (List.replicate (p + 1) (1, (q : Int), 0)) wr o2) := d3.out.wroteNew hkp hHH.2 hh3.out
          have hg4 : Hid (wr.heap[g]? = some (.cells #[.int .i64 (q : Nat)] 3 (0, 0))) := (hkp.block g (lt_of_block hg3.out) (by omega)).trans hg3.out
          clear hn1 hPD
          go_wp2_with fail
          go_roundw
          case rel => exact ⟨p + 1, o2, by omega, by go_num, d4, hg4, ho⟩
          case measure => simp [intOf]; omega
    · have g1 : ¬ (p : Int) < (m : Int) := by omega
      have e : p = m := by omega
      subst e
      go_wp2_with fail
      go_ret
      exact ⟨_, rfl, ho1.out, o1, hd1.out⟩

end Go.Proofs.YtoieghgaahfciaaGreat
