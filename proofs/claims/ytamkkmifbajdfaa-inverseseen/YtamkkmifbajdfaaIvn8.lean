/- Package inverse: Of. -/
import Derived.Test.YtamkkmifbajdfaaIvn7
import Derived.Test.YtamkkmifbajdfaaMon3
namespace Go.Proofs.Ytamkkmifbajdfaa
open Go.RowKit

/-- What Of writes down. -/
def ofEvs (n : Nat) : List Ev := (1, (n : Int), 0) :: invEvs n

/-- The inverse Y of A modulo M and whether there is one. -/
def IsInv (A M Y is : Nat) : Prop := (Nat.gcd A M = 1 → Y < M ∧ A * Y % M = 1 ∧ is = 1) ∧ (Nat.gcd A M ≠ 1 → Y = 0 ∧ is = 0)

/-- What Of answers and leaves. -/
def OfAns (w : World) (o : Tr) (P : Prop) (n A M : Nat) (w' : World) (v' : Value) (is c : Nat) : Prop :=
  ∃ (zs : List Nat) (m : List Ev) (o' : Tr), Row .u64 w' v' zs ∧ Lies true w w' v' ∧ Did w o m w' o' ∧ (P → c = 0 ∧ m = ofEvs n ∧ ∃ Y, zs = digs 18446744073709551616 Y n ∧ IsInv A M Y is) ∧ (¬ P → zs = [] ∧ is = 0 ∧ c = 1)

set_option maxRecDepth 40000 in
set_option maxHeartbeats 4000000 in
/-- Of. -/
theorem iOf (o : Tr) (ao bo xo : Option Addr) (n l K mcap rcap N1 xc : Nat) (ms rs xs : List Nat) (w : World) (ht : TrRoom w o 400000) (hm : RowT w o (.slice ao n mcap) ms) (hr : RowT w o (.slice bo l rcap) rs) (hx : RowT w o (.slice xo N1 xc) xs) (hmd : Digs 18446744073709551616 ms) (hrd : Digs 18446744073709551616 rs) (hdx : Digs 18446744073709551616 xs) (hK : K < 18446744073709551616) (hnb : n ≤ 1000000) (hPo : okMod ms K rs ∨ o = none) :
    Calls Try.prog 11 #[trPtr o, .agg #[.slice ao n mcap, .int .u64 (K : Nat), .slice bo l rcap], .slice xo N1 xc] w fun e w' => ∃ (v' : Value) (is c : Nat), e = .returned (.tuple #[v', .int .u64 (is : Nat), .int .i64 (c : Nat)]) ∧ OfAns w o (okMod ms K rs ∧ (N1 = n ∧ val 18446744073709551616 xs < val 18446744073709551616 ms)) n (val 18446744073709551616 xs) (val 18446744073709551616 ms) w' v' is c := by
  obtain ⟨po, hpo⟩ := trPtr_shape o
  obtain ⟨_, _, _, e1, hLm, _, _, _, _⟩ := hm.1.open
  cases e1
  obtain ⟨_, _, _, e1, hLx, _, _, _, _⟩ := hx.1.open
  cases e1
  obtain ⟨_, _, _, e1, hLr, _, _, _, _⟩ := hr.1.open
  cases e1
  obtain ⟨W, hW⟩ : ∃ W, W = w.alloc (.cells #[.slice ao n mcap, .int .u64 (K : Nat), .slice bo l rcap] 29) := ⟨_, rfl⟩
  have k0 : Kept Nought w W := by rw [hW]; exact (Kept.refl Nought w).alloc _
  have b1 : W.heap[w.heap.size]? = some (.cells #[.slice ao n mcap, .int .u64 (K : Nat), .slice bo l rcap] 29 (0, 0)) := by rw [hW]; exact heap_alloc_new _ _
  obtain ⟨c0, c1, c2⟩ := cells3 b1
  have HW := toHid hW
  have HK0 := toHid k0
  by_cases hok : 0 < n ∧ n ≤ 130
  · have hn0 := hok.1
    have hn := hok.2
    have g1 : ¬ (n : Int) < 1 := by omega
    have g2 : ¬ (n : Int) > 130 := by omega
    have hstp : 12 * stp n + 30 + 1 ≤ 400000 := by unfold stp; omega
    obtain ⟨M, hM⟩ : ∃ M, M = val 18446744073709551616 ms := ⟨_, rfl⟩
    have hmN : NumT w o (.slice ao n mcap) n M := by rw [hM]; exact NumT.of hm hmd hLm.out
    obtain ⟨A, hA⟩ : ∃ A, A = val 18446744073709551616 xs % 18446744073709551616 ^ n := ⟨_, rfl⟩
    have hAN : N1 = n → A = val 18446744073709551616 xs := fun h => by rw [hA, Nat.mod_eq_of_lt]; rw [← h, ← hLx.out]; exact val_lt (by omega) hdx
    have hFt := iFit _ xs n W (hx.1.grew k0) hdx (by omega)
    rw [digs_mod, ← hA] at hFt
    have lA : A < 18446744073709551616 ^ n := by rw [hA]; exact Nat.mod_lt _ (Nat.pow_pos (by omega))
    rw [← hM]
    have HM := toHid hm
    have HMN := toHid hmN
    have HR := toHid hr
    have HT := toHid ht
    have HB1 := toHid b1
    have HAN := toHid hAN
    have HA := toHid hA
    have HLA := toHid lA
    rw [hpo]
    clear hW k0 b1 hm hmN hr ht hx hLx hAN hA lA hok
    go_enter Try.func11, Try.ntmps11
    go_wp2_with (rw [← HW.out])
    refine hFt.mono ?_
    rintro e w1 ⟨rfl, ho1, k1⟩
    have k01 := HK0.out.trans k1
    have tr1 := HT.out.grew k01
    have hb1 := (k1.block _ (lt_of_block HB1.out) (fun f => f)).trans HB1.out
    obtain ⟨c0, c1, c2⟩ := cells3 hb1
    have nx := NumN.own ho1 HLA.out tr1.1
    have s1 : Wr w1 o [] w1 o (.pointer po) 400000 := ⟨Did.of_kept (Kept.refl Nought w1) tr1.1, tr1, hpo⟩
    have hLs := lLess o _ _ _ _ w1 (tr1.less (by omega)) nx.1.1 (HMN.out.grew k01).1 (digs_digs (by omega) _ _) (digs_digs (by omega) _ _) (by rw [digs_length]; omega) (by rw [digs_length]; omega)
    rw [hpo, digs_length, digs_length, Nat.max_self, num_val HLA.out, num_val HMN.out.2] at hLs
    have JB : Hid (∀ W' m' o', Did w1 o m' W' o' → W'.heap[w.heap.size]? = some (.cells #[.slice ao n mcap, .int .u64 (K : Nat), .slice bo l rcap] 29 (0, 0))) := fun W' m' o' d => d.cells hb1 tr1.1 (by decide) (by decide)
    have HNX := toHid nx
    have HS1 := toHid s1
    have K01 := toHid k01
    obtain ⟨bl, hbl⟩ : ∃ bl, bl = oneN (decide (A < M)) := ⟨_, rfl⟩
    rw [← hbl] at hLs
    have HBL := toHid hbl
    clear hFt ho1 k1 k01 tr1 hb1 nx s1 hbl
    go_wp2_with fail
    refine hLs.mono ?_
    rintro e w2 ⟨rfl, o2, d2⟩
    have s2 := HS1.out.next (k := 12 * stp n + 30) d2 (by simp; omega)
    have hIv := iInv o2 ao bo _ n l K mcap rcap n A ms rs w2 s2.room ((HM.out.grew K01.out).did d2) ((HR.out.grew K01.out).did d2) (HNX.out.1.did d2) hmd hrd hK hn0 hn (hPo.elim Or.inl (fun h => .inr (by have := d2; rw [h] at this; exact this.none.1)))
    rw [s2.ptr, ← hM] at hIv
    obtain ⟨c0, c1, c2⟩ := cells3 (JB.out w2 _ o2 d2)
    clear hLs
    go_wp2_with fail
    refine hIv.mono ?_
    rintro e w3 ⟨v3, is, rfl, Y, m3, o3, n3, f3, d3, hY⟩
    have d13 := d2.trans d3
    obtain ⟨p0, p1, p2⟩ := cells3 (JB.out w3 _ o3 d13)
    have hm3 := ((HM.out.grew K01.out).did d13).1
    have hr3 := ((HR.out.grew K01.out).did d13).1
    have HD3 := toHid (Did.after K01.out d13)
    have HBad : Hid (∀ w' : World, Kept Nought w3 w' → ¬ (okMod ms K rs ∧ (N1 = n ∧ val 18446744073709551616 xs < M)) → OfAns w o (okMod ms K rs ∧ (N1 = n ∧ val 18446744073709551616 xs < M)) n (val 18446744073709551616 xs) M w' (.slice none 0 0) 0 1) := fun w' k h => ⟨[], _, o3, Row.nil _ _, Lies.nil _ _ _, HD3.out.grew k, fun hp => absurd hp h, fun _ => ⟨rfl, rfl, rfl⟩⟩
    have HGood : Hid (∀ w' : World, Kept Nought w3 w' → okMod ms K rs → N1 = n → A < M → OfAns w o (okMod ms K rs ∧ (N1 = n ∧ val 18446744073709551616 xs < M)) n (val 18446744073709551616 xs) M w' v3 is 0) := fun w' k h1 h2 h3 => by
      have eA := HAN.out h2
      obtain ⟨e1, e2⟩ := hY h1
      refine ⟨digs 18446744073709551616 Y n, _, o3, (n3.1.grew k).1.1, fun _ => ⟨?_, n3.2.grew k⟩, HD3.out.grew k, fun _ => ⟨rfl, ?_, Y, rfl, ?_⟩, fun hp => absurd ⟨h1, h2, by rw [← eA]; exact h3⟩ hp⟩
      · intro b hb
        have q1 := f3 b hb
        have q2 := d2.size
        have q3 := K01.out.size
        omega
      · rw [e1]; rfl
      · rw [← eA]; exact e2 h3
    clear hIv c0 c1 c2 n3 f3 d3 d13 hY s2 d2
    by_cases hN : N1 = n
    · by_cases hlt : A < M
      · have hb1 : bl = 1 := by rw [HBL.out, decide_eq_true hlt]; rfl
        subst hb1
        by_cases hmd2 : okMod ms K rs
        · have hCk := mCheck ao bo n l K mcap rcap ms rs true (by simp [hmd2]) w3 hm3 hr3 hmd hrd hK hnb
          have HF := toHid (fun w' k => HGood.out w' k hmd2 hN hlt)
          have hNI : (N1 : Int) = (n : Int) := by omega
          clear HGood HBad hm3 hr3 hN
          go_wp2_with fail
          refine hCk.mono ?_
          rintro e w4 ⟨rfl, k4⟩
          clear hCk
          go_wp2_with fail
          go_ret3
          exact ⟨_, _, _, rfl, HF.out _ k4⟩
        · have hCk := mCheck ao bo n l K mcap rcap ms rs false (by simp [hmd2]) w3 hm3 hr3 hmd hrd hK hnb
          have HF := toHid (fun w' k => HBad.out w' k (fun h => hmd2 h.1))
          have hNI : (N1 : Int) = (n : Int) := by omega
          clear HGood HBad hm3 hr3 hN
          go_wp2_with fail
          refine hCk.mono ?_
          rintro e w4 ⟨rfl, k4⟩
          clear hCk
          go_wp2_with fail
          go_ret3
          exact ⟨_, 0, 1, rfl, HF.out _ k4⟩
      · have hb0 : bl = 0 := by rw [HBL.out, decide_eq_false hlt]; rfl
        subst hb0
        have HF := toHid (HBad.out w3 (Kept.refl _ _) (fun h => hlt (by rw [HAN.out h.2.1]; exact h.2.2)))
        have hNI : (N1 : Int) = (n : Int) := by omega
        clear HGood HBad hm3 hr3 hN
        go_wp2_with fail
        go_ret3
        exact ⟨_, 0, 1, rfl, HF.out⟩
    · have HF := toHid (HBad.out w3 (Kept.refl _ _) (fun h => hN h.2.1))
      have hNI : ¬ (N1 : Int) = (n : Int) := by omega
      clear HGood HBad hm3 hr3 hN
      go_wp2_with fail
      go_ret3
      exact ⟨_, 0, 1, rfl, HF.out⟩
  · have hbad : ¬ (okMod ms K rs ∧ (N1 = n ∧ val 18446744073709551616 xs < val 18446744073709551616 ms)) := fun h => by
      obtain ⟨_, f2, f3, _⟩ := h.1.facts hLm.out hLr.out hmd hrd hK
      exact hok ⟨f2, f3⟩
    have HF : Hid (OfAns w o (okMod ms K rs ∧ (N1 = n ∧ val 18446744073709551616 xs < val 18446744073709551616 ms)) n (val 18446744073709551616 xs) (val 18446744073709551616 ms) W (.slice none 0 0) 0 1) := ⟨[], [], o, Row.nil _ _, Lies.nil _ _ _, Did.of_kept k0 ht.1, fun hp => absurd hp hbad, fun _ => ⟨rfl, rfl, rfl⟩⟩
    generalize trPtr o = tp at *
    clear hm hr hx ht hmd hrd hdx hbad k0 b1 hLm hLx hLr hW
    by_cases h0 : n < 1
    · have g1 : (n : Int) < 1 := by omega
      clear hok
      go_enter Try.func11, Try.ntmps11
      go_wp2_with (rw [← HW.out])
      go_ret3
      exact ⟨_, 0, 1, rfl, HF.out⟩
    · have g1 : ¬ (n : Int) < 1 := by omega
      have g2 : (n : Int) > 130 := by omega
      clear hok h0
      go_enter Try.func11, Try.ntmps11
      go_wp2_with (rw [← HW.out])
      go_ret3
      exact ⟨_, 0, 1, rfl, HF.out⟩

end Go.Proofs.Ytamkkmifbajdfaa
