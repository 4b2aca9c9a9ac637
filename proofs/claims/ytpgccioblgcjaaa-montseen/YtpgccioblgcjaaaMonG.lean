/- Package mont: Check. -/
import Derived.Test.YtpgccioblgcjaaaMonE
import Derived.Test.YtpgccioblgcjaaaMonF
import Derived.Test.YtpgccioblgcjaaaRef6m
namespace Go.Proofs.Ytpgccioblgcjaaa
open Go.RowKit

/-- What Check tests is what a modulus should be. -/
theorem chk_iff {ms rs : List Nat} {K n l : Nat} (hn : ms.length = n) (hl : rs.length = l) (hmd : Digs 18446744073709551616 ms) (hrd : Digs 18446744073709551616 rs) (hK : K < 18446744073709551616) :
    okMod ms K rs ↔ (rfn n (val 18446744073709551616 ms) = 0 ∧ wordsN (val 18446744073709551616 ms) = n ∧ l = n ∧ prepN (val 18446744073709551616 ms) K (val 18446744073709551616 rs) n = 1) := by
  have hVn : val 18446744073709551616 ms < 18446744073709551616 ^ n := by rw [← hn]; exact val_lt (by omega) hmd
  have hB2 : 18446744073709551616 ^ (2 * n) = 2 ^ (128 * n) := by rw [B64]; congr 1; omega
  obtain ⟨V, hV⟩ : ∃ V, V = val 18446744073709551616 ms := ⟨_, rfl⟩
  unfold okMod rfn prepN
  rw [← hV] at hVn ⊢
  constructor
  · rintro ⟨h1, h2, h3, h4⟩
    obtain ⟨m1, m2, m3⟩ := montE_ok h1
    unfold modM at h2
    unfold modR at h4
    rw [if_pos h1] at h2 h4
    have hw : wordsN V = n := by rw [← hn, ← h2, digs_length]
    rw [hw] at h4 m1
    refine ⟨?_, hw, by rw [← hl, ← h4, digs_length], ?_⟩
    · rw [if_neg (by omega), if_neg (by omega), if_neg (by omega)]
    · rw [if_pos]
      refine ⟨h3.2.1 h1, ?_⟩
      rw [← h4, val_digs, hB2, Nat.mod_eq_of_lt (Nat.lt_trans (Nat.mod_lt _ (by omega)) hVn)]
  · rintro ⟨h1, h2, h3, h4⟩
    have g1 : ¬ 130 < n := fun h => by rw [if_pos h] at h1; omega
    rw [if_neg g1] at h1
    have g2 : ¬ V < 2 := fun h => by rw [if_pos h] at h1; omega
    rw [if_neg g2] at h1
    have g3 : ¬ V % 2 = 0 := fun h => by rw [if_pos h] at h1; omega
    have hE : montE V = 0 := by
      unfold montE
      rw [h2, if_neg g1, if_neg g2, if_neg g3]
    by_cases h5 : (V * K + 1) % 18446744073709551616 = 0 ∧ val 18446744073709551616 rs = 18446744073709551616 ^ (2 * n) % V
    · refine ⟨hE, ?_, ⟨hK, fun _ => h5.1, fun h => absurd hE h⟩, ?_⟩
      · unfold modM
        rw [if_pos hE, h2]
        exact (digs_val (by omega) hmd hn (by rw [← hV, Nat.mod_eq_of_lt hVn])).symm
      · unfold modR
        rw [if_pos hE, h2, ← hB2]
        exact (digs_val (by omega) hrd (hl.trans h3) (by rw [h5.2, Nat.mod_eq_of_lt (Nat.lt_trans (Nat.mod_lt _ (by omega)) hVn)])).symm
    · rw [if_neg h5] at h4
      omega

/-- A number that needs n words is above 2^(64 (n - 1)), if it is odd and not 1. -/
theorem above_top {V n : Nat} (h : wordsN V = n) (hn : 0 < n) (h2 : 2 ≤ V) (ho : V % 2 = 1) : 18446744073709551616 ^ (n - 1) < V := by
  have h1 : ¬ wordsN V ≤ n - 1 := by omega
  rw [wordsN_le] at h1
  rcases Nat.lt_or_ge (18446744073709551616 ^ (n - 1)) V with h3 | h3
  · exact h3
  · exfalso
    have e : V = 18446744073709551616 ^ (n - 1) := by omega
    rcases Nat.eq_zero_or_pos (n - 1) with h4 | h4
    · rw [h4, Nat.pow_zero] at e; omega
    · obtain ⟨k, hk⟩ : ∃ k, n - 1 = k + 1 := ⟨n - 1 - 1, by omega⟩
      rw [hk, Nat.pow_succ] at e
      omega

set_option maxRecDepth 20000 in
set_option maxHeartbeats 2000000 in
/-- What Check attempts. -/
theorem mCheck1 (ao bo : Option Addr) (n l K mcap rcap b : Nat) (ms rs : List Nat) (w : World) (hm : Row .u64 w (.slice ao n mcap) ms) (hr : Row .u64 w (.slice bo l rcap) rs) (hmd : Digs 18446744073709551616 ms) (hrd : Digs 18446744073709551616 rs) (hK : K < 18446744073709551616) (hnb : n ≤ 1000000)
    (hb : w.heap[b]? = some (.cells #[.slice ao n mcap, .int .u64 (K : Nat), .slice bo l rcap] 28 (0, 0))) :
    Calls Try.prog 45 #[.pointer (some ⟨b, 0, none⟩)] w fun e w' => Kept Nought w w' ∧ ((okMod ms K rs ∧ e = .returned (.tuple #[])) ∨ (¬ okMod ms K rs ∧ ∃ c : Nat, c ≠ 0 ∧ e = .panicked [refusal (c : Nat)])) := by
  obtain ⟨_, _, _, e1, hLm, _, _, _, _⟩ := hm.open
  cases e1
  obtain ⟨_, _, _, e1, hLr, _, _, _, _⟩ := hr.open
  cases e1
  have HI := toHid (chk_iff (K := K) hLm.out hLr.out hmd hrd hK)
  have hRN := mRefuseNumber ao n mcap ms w hm hmd (by omega)
  obtain ⟨R, hR⟩ : ∃ R, R = wordsN (val 18446744073709551616 ms) := ⟨_, rfl⟩
  have hNe := mNeeds (.slice ao n mcap) ms R hR w hm hmd (by rw [hLm.out]; omega)
  obtain ⟨E, hE⟩ : ∃ E, E = rfn n (val 18446744073709551616 ms) := ⟨_, rfl⟩
  rw [← hE] at hRN
  have hNo := mRefuseNo 1 w
  have hYes := mRefuseYes 1 w
  obtain ⟨p0, p1, p2⟩ := cells3 hb
  have HM := toHid hm
  have HR := toHid hr
  have HMD := toHid hmd
  have HRD := toHid hrd
  have HRR := toHid hR
  have HE := toHid hE
  clear hb hm hr hmd hrd hR hE
  by_cases h1 : E = 0
  · subst h1
    by_cases h2 : R = n
    · by_cases h3 : l = n
      · subst h2 h3
        have hoddV : 2 ≤ val 18446744073709551616 ms ∧ val 18446744073709551616 ms % 2 = 1 ∧ l ≤ 130 := by
          have := HE.out
          unfold rfn at this
          by_cases g1 : 130 < l
          · rw [if_pos g1] at this; omega
          · rw [if_neg g1] at this
            by_cases g2 : val 18446744073709551616 ms < 2
            · rw [if_pos g2] at this; omega
            · rw [if_neg g2] at this
              by_cases g3 : val 18446744073709551616 ms % 2 = 0
              · rw [if_pos g3] at this; omega
              · omega
        have hl0 : 0 < l := by
          rcases Nat.eq_zero_or_pos l with h0 | h0
          · have hw := HRR.out
            have h5 := (wordsN_le (val 18446744073709551616 ms) 0).1 (by omega)
            rw [Nat.pow_zero] at h5
            omega
          · exact h0
        obtain ⟨P, hP⟩ : ∃ P, P = prepN (val 18446744073709551616 ms) K (val 18446744073709551616 rs) l := ⟨_, rfl⟩
        have hPr := mPrepared ao bo l K mcap rcap ms rs P w HM.out HR.out HMD.out HRD.out hl0 hoddV.2.2 (above_top HRR.out.symm hl0 hoddV.1 hoddV.2.1) hoddV.2.1 hP
        have hP01 : P = 0 ∨ P = 1 := by rw [hP]; unfold prepN; split <;> simp
        have hok : okMod ms K rs ↔ P = 1 := by
          rw [HI.out, ← hP]
          exact ⟨fun h => h.2.2.2, fun h => ⟨HE.out.symm, HRR.out.symm, rfl, h⟩⟩
        have HOK := toHid hok
        have hNo' := fun W => mRefuseNo 1 W
        have hYes' := fun W => mRefuseYes 1 W
        clear hP hok HI hoddV
        rcases hP01 with rfl | rfl
        · go_enter Try.func45, Try.ntmps45
          go_wp2_with fail
          refine hRN.mono ?_
          rintro e w1 ⟨⟨_, rfl⟩ | ⟨h, _⟩, rfl⟩
          · go_wp2_with fail
            refine hNe.mono ?_
            rintro e w2 ⟨rfl, rfl⟩
            go_wp2_with fail
            refine (hNo' _).mono ?_
            rintro e w3 ⟨rfl, rfl⟩
            go_wp2_with fail
            refine hPr.mono ?_
            rintro e w4 ⟨rfl, k4⟩
            go_wp2_with fail
            refine (hYes' _).mono ?_
            rintro e w5 ⟨rfl, rfl⟩
            exact ⟨rfl, k4, .inr ⟨fun h => by have := HOK.out.1 h; omega, 1, by omega, rfl⟩⟩
          · exact absurd rfl h
        · go_enter Try.func45, Try.ntmps45
          go_wp2_with fail
          refine hRN.mono ?_
          rintro e w1 ⟨⟨_, rfl⟩ | ⟨h, _⟩, rfl⟩
          · go_wp2_with fail
            refine hNe.mono ?_
            rintro e w2 ⟨rfl, rfl⟩
            go_wp2_with fail
            refine (hNo' _).mono ?_
            rintro e w3 ⟨rfl, rfl⟩
            go_wp2_with fail
            refine hPr.mono ?_
            rintro e w4 ⟨rfl, k4⟩
            go_wp2_with fail
            refine (hNo' _).mono ?_
            rintro e w5 ⟨rfl, rfl⟩
            go_wp2_with fail
            go_end0
            exact ⟨k4, .inl ⟨HOK.out.2 (by first | rfl | trivial), rfl⟩⟩
          · exact absurd rfl h
      · subst h2
        have h3' : ¬ (l : Int) = (R : Int) := by omega
        have HNE : Hid ((((l : Nat) : Int) != ((R : Nat) : Int)) = true) := bne_iff_ne.2 h3'
        have HNK : Hid (¬ okMod ms K rs) := fun h => h3 (HI.out.1 h).2.2.1
        clear HI
        go_enter Try.func45, Try.ntmps45
        go_wp2_with fail
        refine hRN.mono ?_
        rintro e w1 ⟨⟨_, rfl⟩ | ⟨h, _⟩, rfl⟩
        · go_wp2_with fail
          refine hNe.mono ?_
          rintro e w2 ⟨rfl, rfl⟩
          go_wp2_with fail
          rw [HNE.out]
          refine hYes.mono ?_
          rintro e w3 ⟨rfl, rfl⟩
          exact ⟨rfl, Kept.refl _ _, .inr ⟨HNK.out, 1, by omega, rfl⟩⟩
        · exact absurd rfl h
    · have h2' : ¬ (R : Int) = (n : Int) := by omega
      have HNK : Hid (¬ okMod ms K rs) := fun h => h2 (HRR.out.trans (HI.out.1 h).2.1)
      clear HI
      go_enter Try.func45, Try.ntmps45
      go_wp2_with fail
      refine hRN.mono ?_
      rintro e w1 ⟨⟨_, rfl⟩ | ⟨h, _⟩, rfl⟩
      · go_wp2_with fail
        refine hNe.mono ?_
        rintro e w2 ⟨rfl, rfl⟩
        go_wp2_with fail
        refine hYes.mono ?_
        rintro e w3 ⟨rfl, rfl⟩
        exact ⟨rfl, Kept.refl _ _, .inr ⟨HNK.out, 1, by omega, rfl⟩⟩
      · exact absurd rfl h
  · have HNK : Hid (¬ okMod ms K rs) := fun h => h1 (HE.out.trans (HI.out.1 h).1)
    clear HI
    go_enter Try.func45, Try.ntmps45
    go_wp2_with fail
    refine hRN.mono ?_
    rintro e w1 ⟨⟨h, _⟩ | ⟨h, rfl⟩, rfl⟩
    · exact absurd h h1
    · exact ⟨rfl, Kept.refl _ _, .inr ⟨HNK.out, E, h, rfl⟩⟩

set_option maxRecDepth 20000 in
set_option maxHeartbeats 2000000 in
/-- Check. -/
theorem mCheck (ao bo : Option Addr) (n l K mcap rcap : Nat) (ms rs : List Nat) (R : Bool) (hR : R = true ↔ okMod ms K rs) (w : World) (hm : Row .u64 w (.slice ao n mcap) ms) (hr : Row .u64 w (.slice bo l rcap) rs) (hmd : Digs 18446744073709551616 ms) (hrd : Digs 18446744073709551616 rs) (hK : K < 18446744073709551616) (hnb : n ≤ 1000000) :
    Calls Try.prog 15 #[.agg #[.slice ao n mcap, .int .u64 (K : Nat), .slice bo l rcap]] w fun e w' => e = .returned (.bool R) ∧ Kept Nought w w' := by
  have hmf : ∀ (fn : Fn) (first cap : Array Value) (w : World), (Instr.makeFunc fn first cap).run Try.prog w = .ok (.func fn first cap) w := fun _ _ _ _ => rfl
  obtain ⟨W, hW⟩ : ∃ W, W = w.alloc (.cells #[.slice ao n mcap, .int .u64 (K : Nat), .slice bo l rcap] 28) := ⟨_, rfl⟩
  have k0 : Kept Nought w W := by rw [hW]; exact (Kept.refl Nought w).alloc _
  have hx0 : W.heap[w.heap.size]? = some (.cells #[.slice ao n mcap, .int .u64 (K : Nat), .slice bo l rcap] 28 (0, 0)) := by rw [hW]; exact heap_alloc_new _ _
  have he : ∀ args w, (callFunc 45 args).run Try.prog w = .ok (.enter 45 args) w := fun _ _ => by simp [go_sem]
  have k1 := k0.alloc (.cells #[.int .i64 0] 29)
  have xe := Box.new W (.int .i64 0) 29
  have h1 := mCheck1 ao bo n l K mcap rcap w.heap.size ms rs _ (hm.grew k1) (hr.grew k1) hmd hrd hK hnb (heapAt_alloc hx0)
  have hAt := mAttempt 45 #[.pointer (some ⟨w.heap.size, 0, none⟩)] W (fun c W' => Kept Nought w W' ∧ (c = 0 ↔ okMod ms K rs)) he (h1.mono (by
    rintro e w' ⟨k, (⟨h2, rfl⟩ | ⟨h2, c, hc, rfl⟩)⟩
    · exact ⟨(k.block _ xe.lt (fun f => f)).trans xe, .inl ⟨rfl, k1.trans k, ⟨fun _ => h2, fun _ => rfl⟩⟩⟩
    · exact ⟨(k.block _ xe.lt (fun f => f)).trans xe, .inr ⟨_, rfl, k1.trans k, ⟨fun h => absurd (by omega) hc, fun h => absurd h h2⟩⟩⟩))
  have HR := toHid hR
  have HW := toHid hW
  have hwW : w.heap.size ≤ W.heap.size := k0.size
  clear h1 hm hr hmd hrd hR hW k0 k1 hx0 xe he
  go_enter Try.func15, Try.ntmps15
  go_wp2_with (rw [← HW.out])
  refine hAt.mono ?_
  rintro e w' ⟨c, w1, rfl, ⟨⟨k2, h2⟩, hbe⟩, rfl⟩
  have k3 := k2.next (kept_box w1 W.heap.size (.int .i64 c)) (fun x hx e => by omega)
  have HC : Hid (decide (c = 0) = R) := by
    unfold Hid
    have h3 := HR.out
    by_cases h4 : c = 0
    · rw [decide_eq_true h4]
      exact (h3.2 (h2.1 h4)).symm
    · rw [decide_eq_false h4]
      cases R
      · rfl
      · exact absurd (h2.2 (h3.1 rfl)) h4
  clear hAt h2 k2 hbe
  generalize w1.setCell ⟨W.heap.size, 0, none⟩ (.int .i64 c) = w2 at *
  go_wp2_with fail
  go_ret
  rw [← HC.out]
  exact ⟨rfl, k3⟩

end Go.Proofs.Ytpgccioblgcjaaa
