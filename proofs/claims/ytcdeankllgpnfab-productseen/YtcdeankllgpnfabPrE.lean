/- Package product: MulWord. -/
import Derived.Test.YtcdeankllgpnfabPrD
namespace Go.Proofs.Ytcdeankllgpnfab
open Go.RowKit

/-- What was written into new blocks that are no part of the trace. -/
theorem Did.wroteSome {S : Nat → Prop} {w w' w2 : World} {o o' : Tr} {m : List Ev} (d : Did w o m w' o') (k : Kept S w' w2) (hS : ∀ b, S b → w.heap.size ≤ b ∧ ¬ trFoot o' b) : Did w o m w2 o' := by
  refine ⟨d.1.next k (fun x hx e => by have := (hS x e).1; omega), ?_⟩
  rcases d.2 with h1 | ⟨p, g, l, g', e1, e2, ht, hg⟩
  · exact .inl h1
  · subst e2
    exact .inr ⟨p, g, l, g', e1, rfl, ht.kept k (fun e => (hS p e).2 (.inl rfl)) (fun x hx e => (hS x e).2 (.inr hx)), hg⟩

theorem foot_lt {w : World} {o : Tr} (ht : TrIn w o) {b : Nat} (hf : trFoot o b) : b < w.heap.size := ht.foot b hf

set_option maxRecDepth 20000 in
set_option maxHeartbeats 2000000 in
/-- MulWord. -/
theorem pMulWord (o : Tr) (ao bo : Option Addr) (L M cap dap : Nat) (xs ys : List Nat) (x : Nat) (hx : x < 18446744073709551616) (c : Nat) (hc : c = mwTop (val 18446744073709551616 xs) x (val 18446744073709551616 ys) L M) (w : World) (ht : TrRoom w o 300) (hu : RowT w o (.slice ao L cap) xs) (hv : RowT w o (.slice bo M dap) ys) (hdx : Digs 18446744073709551616 xs) (hdy : Digs 18446744073709551616 ys) :
    Calls Try.prog 12 #[trPtr o, .slice ao L cap, .int .u64 (x : Nat), .slice bo M dap] w fun e w' => ∃ v', e = .returned (.tuple #[v', .int .u64 (c : Nat)]) ∧
      Row .u64 w' v' (mwAns (val 18446744073709551616 xs) x (val 18446744073709551616 ys) L M) ∧ ∃ o', Did w o (mwEvs L M) w' o' := by
  have hmf : ∀ (fn : Fn) (first cap : Array Value) (w : World), (Instr.makeFunc fn first cap).run Try.prog w = .ok (.func fn first cap) w := fun _ _ _ _ => rfl
  obtain ⟨po, hpo⟩ := trPtr_shape o
  have hbx := boxes6 w (.pointer po) (.slice ao L cap) (.int .u64 (x : Nat)) (.slice bo M dap) (.slice none 0 0) (.int .u64 0) 30 23 24 23 23 24
  have he : ∀ args w, (callFunc 26 args).run Try.prog w = .ok (.enter 26 args) w := fun _ _ => by simp [go_sem]
  obtain ⟨N, hN⟩ : ∃ N, N = max L M := ⟨_, rfl⟩
  obtain ⟨X, hX⟩ : ∃ X, X = val 18446744073709551616 xs := ⟨_, rfl⟩
  obtain ⟨Y, hY⟩ : ∃ Y, Y = val 18446744073709551616 ys := ⟨_, rfl⟩
  obtain ⟨R, hR⟩ : ∃ R, R = (Y + X * x) / 18446744073709551616 ^ N := ⟨_, rfl⟩
  rw [hpo]
  rw [← hX, ← hY] at hc ⊢
  have HC := toHid hc
  have HN := toHid hN
  have HR := toHid hR
  have HX := toHid hX
  have HY := toHid hY
  clear hc hN hR hX hY
  go_enter Try.func12, Try.ntmps12
  go_wp2_with fail
  generalize (((((w.alloc (.cells #[.pointer po] 30)).alloc (.cells #[.slice ao L cap] 23)).alloc (.cells #[.int .u64 (x : Nat)] 24)).alloc (.cells #[.slice bo M dap] 23)).alloc (.cells #[.slice none 0 0] 23)).alloc (.cells #[.int .u64 0] 24) = W at *
  obtain ⟨k0, x1, x2, x3, x4, x5, x6, hs⟩ := hbx
  have k1 := k0.alloc (.cells #[.int .i64 0] 37)
  have xe := Box.new W (.int .i64 0) 37
  have hAr : xs ≠ [] → ∀ b, (Value.slice ao L cap).ownBlock = some b → b ≠ w.heap.size + 1 + 1 + 1 + 1 := fun h b hb e => by have := hu.1.lt h b hb; omega
  have h1 := pMulWord1 o ao bo L M cap dap xs ys x hx _ _ _ _ _ _ N HN.out _ (ht.grew k1) (hu.grew k1) (hv.grew k1) hdx hdy (by rw [hpo]; exact x1.alloc _) (x2.alloc _) (x4.alloc _) (x5.alloc (.cells #[.int .i64 0] 37)) (x3.alloc _) (x6.alloc _) (by omega) (by omega) (by omega) (by omega) (by omega) hAr X Y R HX.out HY.out HR.out
  have hsz : (W.alloc (.cells #[.int .i64 0] 37)).heap.size = W.heap.size + 1 := by simp
  refine (pAttempt 26 _ W (fun n W' => (n = 0 ∧ (L ≤ 300 ∧ M ≤ 300) ∧ ∃ v' o', OwnN .u64 24 W' (W.heap.size + 1) v' N (digs 18446744073709551616 (Y + X * x) N) ∧ Did w o [(1, (N : Int), 0)] W' o' ∧ TrIn W' o' ∧ Box W' (w.heap.size + 1 + 1 + 1 + 1) v' 23 ∧ Box W' (w.heap.size + 1 + 1 + 1 + 1 + 1) (.int .u64 (R : Nat)) 24) ∨ (n = 2 ∧ ¬ (L ≤ 300 ∧ M ≤ 300) ∧ Kept Nought w W' ∧ Box W' (w.heap.size + 1 + 1 + 1 + 1) (.slice none 0 0) 23 ∧ Box W' (w.heap.size + 1 + 1 + 1 + 1 + 1) (.int .u64 0) 24)) he (h1.mono ?_)).mono ?_
  · rintro e w' (⟨hl, rfl, v', w1, o', ho, hd, hk, hb, hb2⟩ | ⟨hl, rfl, rfl⟩)
    · rw [hsz] at ho
      have hti := (hd.room (k := 0) ((ht.grew k1).less (by simp))).1
      have hxO := (x5.alloc (.cells #[.int .i64 0] 37)).did hd (ht.grew k1).1 (by decide) (by decide)
      have hxU := (x6.alloc (.cells #[.int .i64 0] 37)).did hd (ht.grew k1).1 (by decide) (by decide)
      have hw1 := hd.size
      rw [hsz] at hw1
      have hxE := (xe.did hd (ht.grew k1).1 (by decide) (by decide)).kept hk (by omega)
      have hdd := (Did.after k1 hd).wroteSome hk (fun b hb => by
        rcases hb with rfl | rfl | hb
        · exact ⟨by omega, hxO.apart hti (by decide) (by decide)⟩
        · exact ⟨by omega, hxU.apart hti (by decide) (by decide)⟩
        · exact ⟨by omega, fun f => by have := foot_lt hti f; omega⟩)
      exact ⟨hxE, .inl ⟨rfl, .inl ⟨rfl, hl, v', o', ho, hdd, (hdd.room (k := 0) (ht.less (by simp))).1, hb, hb2⟩⟩⟩
    · exact ⟨xe, .inr ⟨2, rfl, .inr ⟨rfl, hl, k1, x5.alloc _, x6.alloc _⟩⟩⟩
  · rintro e w' ⟨n, w1, rfl, ⟨hq, hbe⟩, rfl⟩
    have hbe' : Box w1 W.heap.size (.int .i64 0) 37 := hbe
    rcases hq with ⟨rfl, hl, v', o', ho, hd, hti, hb, hb2⟩ | ⟨rfl, hl, hk, hb, hb2⟩
    · have hd2 := hd.wroteNew (kept_box w1 W.heap.size (.int .i64 0)) (by omega) (hbe'.apart hti (by decide) (by decide))
      have ho2 := (kept_box w1 W.heap.size (.int .i64 0)).own ho (fun b hb' e => by have := (ho.lt b hb').1; omega)
      have hbx2 := hb.other ⟨W.heap.size, 0, none⟩ (by show _ ≠ W.heap.size; omega) (.int .i64 0)
      have hbx3 := hb2.other ⟨W.heap.size, 0, none⟩ (by show _ ≠ W.heap.size; omega) (.int .i64 0)
      have c1 := hbx2.cell
      have f1 := hbx2.free
      have c2 := hbx3.cell
      have f2 := hbx3.free
      obtain ⟨xo, xc, rfl⟩ := own_slice ho
      have hne : w.heap.size + 1 + 1 + 1 + 1 ≠ w.heap.size + 1 + 1 + 1 + 1 + 1 := by omega
      have c3 := ((hbx2.set (.slice xo N xc)).other ⟨w.heap.size + 1 + 1 + 1 + 1 + 1, 0, none⟩ hne (.int .u64 (R : Nat))).cell
      have c4 := ((hbx3.other ⟨w.heap.size + 1 + 1 + 1 + 1, 0, none⟩ hne.symm (.slice xo N xc)).set (.int .u64 (R : Nat))).cell
      have kb := (kept_box (w1.setCell ⟨W.heap.size, 0, none⟩ (.int .i64 0)) (w.heap.size + 1 + 1 + 1 + 1) (.slice xo N xc)).mono (T := fun b => b = w.heap.size + 1 + 1 + 1 + 1 ∨ b = w.heap.size + 1 + 1 + 1 + 1 + 1) (fun b _ e => .inl e)
      have kb2 := kb.next (kept_box _ (w.heap.size + 1 + 1 + 1 + 1 + 1) (.int .u64 (R : Nat))) (fun b _ e => .inr e)
      have hti2 := (hd2.room (k := 0) (ht.less (by simp))).1
      have HD := toHid (hd2.wroteSome kb2 (fun b hb => by
        rcases hb with rfl | rfl
        · exact ⟨by omega, hbx2.apart hti2 (by decide) (by decide)⟩
        · exact ⟨by omega, hbx3.apart hti2 (by decide) (by decide)⟩))
      have HO := toHid (kb2.own ho2 (fun b hb' e => by have := (ho.lt b hb').1; omega))
      have HE : Hid (c = R) := by
        unfold Hid
        rw [HC.out, HR.out, HN.out]
        unfold mwTop
        rw [if_pos hl]
      generalize w1.setCell ⟨W.heap.size, 0, none⟩ (.int .i64 0) = W2 at *
      clear h1 hb hb2 hbx2 hbx3 ho ho2 kb kb2 hd hd2 hti hti2 hbe hbe' hu hv ht x1 x2 x3 x4 x5 x6 xe k0 k1 hAr hsz he hmf
      go_wp2_with fail
      go_region
      all_goals
        go_wp2
        refine bodyPost_ret (v := .tuple #[.slice xo N xc, .int .u64 (R : Nat)]) (by simp [results, Try.results12, go_sem, c3, c4]) rfl ?_
        rw [HE.out]
        unfold mwAns mwEvs
        rw [if_pos hl, if_pos hl, ← HN.out]
        exact ⟨_, rfl, (own_row' HO.out (digs_length _ _ _)).grew (Kept.refl _ _).drew, o', HD.out.grew (Kept.refl _ _).drew⟩
    · have hbx2 := hb.other ⟨W.heap.size, 0, none⟩ (by show _ ≠ W.heap.size; omega) (.int .i64 2)
      have hbx3 := hb2.other ⟨W.heap.size, 0, none⟩ (by show _ ≠ W.heap.size; omega) (.int .i64 2)
      have c1 := hbx2.cell
      have f1 := hbx2.free
      have c2 := hbx3.cell
      have f2 := hbx3.free
      have hne : w.heap.size + 1 + 1 + 1 + 1 ≠ w.heap.size + 1 + 1 + 1 + 1 + 1 := by omega
      have c3 := ((hbx2.set (.slice none 0 0)).other ⟨w.heap.size + 1 + 1 + 1 + 1 + 1, 0, none⟩ hne (.int .u64 0)).cell
      have c4 := ((hbx3.other ⟨w.heap.size + 1 + 1 + 1 + 1, 0, none⟩ hne.symm (.slice none 0 0)).set (.int .u64 0)).cell
      have k2 := hk.next (kept_box w1 W.heap.size (.int .i64 2)) (fun x hx e => by omega)
      have k3 := (k2.next (kept_box _ (w.heap.size + 1 + 1 + 1 + 1) (.slice none 0 0)) (fun x hx e => by omega)).next (kept_box _ (w.heap.size + 1 + 1 + 1 + 1 + 1) (.int .u64 0)) (fun x hx e => by omega)
      have HD := toHid (Did.of_kept k3 ht.1)
      have HE : Hid (c = 0) := by
        unfold Hid
        rw [HC.out]
        unfold mwTop
        rw [if_neg hl]
      generalize w1.setCell ⟨W.heap.size, 0, none⟩ (.int .i64 2) = W2 at *
      clear h1 hb hb2 hbx2 hbx3 hk k2 k3 hbe hbe' hu hv ht x1 x2 x3 x4 x5 x6 xe k0 k1 hAr hsz he hmf
      go_wp2_with fail
      go_region
      all_goals
        go_wp2
        refine bodyPost_ret (v := .tuple #[.slice none 0 0, .int .u64 0]) (by simp [results, Try.results12, go_sem, c3, c4]) rfl ?_
        rw [HE.out]
        unfold mwAns mwEvs
        rw [if_neg hl, if_neg hl]
        exact ⟨_, rfl, Row.nil _ _, o, HD.out.grew (Kept.refl _ _).drew⟩

end Go.Proofs.Ytcdeankllgpnfab
