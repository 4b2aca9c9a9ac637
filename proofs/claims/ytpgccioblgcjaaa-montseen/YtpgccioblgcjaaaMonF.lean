/- Package mont: isPrepared. -/
import Derived.Test.YtpgccioblgcjaaaMonD
namespace Go.Proofs.Ytpgccioblgcjaaa
open Go.RowKit

theorem want_list (N : Nat) : (List.replicate (N + 1) 0).set N 1 = List.replicate N 0 ++ [1] := by
  rw [List.replicate_succ', List.set_append_right _ _ (by simp)]
  simp

theorem want_val (N : Nat) : val 18446744073709551616 (List.replicate N 0 ++ [1]) = 18446744073709551616 ^ N := by
  rw [val_snoc, val_zeros _ (fun d hd => (List.mem_replicate.1 hd).2), List.length_replicate]
  omega

theorem want_digs (N : Nat) : Digs 18446744073709551616 (List.replicate N 0 ++ [1]) := fun d hd => by
  rw [List.mem_append, List.mem_replicate, List.mem_singleton] at hd
  omega

/-- What isPrepared says. -/
def prepN (V K R n : Nat) : Nat := if (V * K + 1) % 18446744073709551616 = 0 ∧ R = 18446744073709551616 ^ (2 * n) % V then 1 else 0

theorem and_bits (a b : Bool) : bits .and .u64 ((oneN a : Nat) : Int) ((oneN b : Nat) : Int) = ((oneN (a && b) : Nat) : Int) := by
  cases a <;> cases b <;> decide

theorem zer_bits (x : Nat) : zer (x : Int) = ((oneN (decide (x = 0)) : Nat) : Int) := by
  unfold zer oneN
  by_cases h : x = 0
  · rw [if_pos (by omega), decide_eq_true h, if_pos rfl]
    rfl
  · rw [if_neg (by omega), decide_eq_false h, if_neg (by decide)]
    rfl

/-- The three tests come to what isPrepared says. -/
theorem prep_bits {V K R n Q A c : Nat} (hn : 0 < n) (hV : V < 18446744073709551616 ^ n) (hV1 : 18446744073709551616 ^ (n - 1) < V) (hodd : V % 2 = 1) (hv : A + 18446744073709551616 ^ (n + (n + 1)) * c = R + V * Q) (hQ : Q < 18446744073709551616 ^ (n + 1)) (hlow : (V * K + 1) % 18446744073709551616 = 0 → 0 < n → A % 18446744073709551616 ^ (n + 1) = 0) :
    oneN (decide ((V * K + 1) % 18446744073709551616 = 0) && decide (R < V) && decide (A = 18446744073709551616 ^ (2 * n))) = prepN V K R n := by
  unfold prepN oneN
  have hV0 : 0 < V := by omega
  by_cases h1 : (V * K + 1) % 18446744073709551616 = 0
  · by_cases h2 : R < V
    · have hco : Nat.Coprime V (18446744073709551616 ^ (n + 1)) := by rw [B64]; exact odd_coprime hodd
      obtain ⟨n', rfl⟩ : ∃ n', n = n' + 1 := ⟨n - 1, by omega⟩
      have hW : 18446744073709551616 ^ (2 * (n' + 1)) % 18446744073709551616 ^ (n' + 1 + 1) = 0 := by
        rw [show 2 * (n' + 1) = (n' + 1 + 1) + n' by omega, Nat.pow_add]
        exact Nat.mul_mod_right _ _
      have hWV : 18446744073709551616 ^ (2 * (n' + 1)) / V < 18446744073709551616 ^ (n' + 1 + 1) := by
        rw [Nat.div_lt_iff_lt_mul hV0]
        rw [Nat.add_sub_cancel] at hV1
        have h3 : 18446744073709551616 ^ (n' + 1 + 1) * 18446744073709551616 ^ n' < 18446744073709551616 ^ (n' + 1 + 1) * V := Nat.mul_lt_mul_of_pos_left hV1 (Nat.pow_pos (by omega))
        rw [← Nat.pow_add, show n' + 1 + 1 + n' = 2 * (n' + 1) by omega] at h3
        exact h3
      have hE : V * 18446744073709551616 ^ (n' + 1 + 1) ≤ 18446744073709551616 ^ (n' + 1 + (n' + 1 + 1)) := by
        rw [Nat.pow_add _ (n' + 1) (n' + 1 + 1)]
        exact Nat.mul_le_mul_right _ (Nat.le_of_lt hV)
      have key := prep_num h2 hQ hE hv (hlow h1 hn) hco hW hWV
      by_cases h3 : A = 18446744073709551616 ^ (2 * (n' + 1))
      · rw [decide_eq_true h1, decide_eq_true h2, decide_eq_true h3, if_pos (by decide), if_pos ⟨h1, key.1 h3⟩]
      · rw [decide_eq_true h1, decide_eq_true h2, decide_eq_false h3, if_neg (by decide), if_neg (fun h => h3 (key.2 h.2))]
    · rw [decide_eq_true h1, decide_eq_false h2, if_neg (by simp), if_neg]
      rintro ⟨_, h3⟩
      apply h2
      rw [h3]
      exact Nat.mod_lt _ hV0
  · rw [decide_eq_false h1, if_neg (by simp), if_neg (fun h => h1 h.1)]

set_option maxRecDepth 20000 in
set_option maxHeartbeats 2000000 in
/-- isPrepared. -/
theorem mPrepared (ao bo : Option Addr) (n K mcap rcap : Nat) (ms rs : List Nat) (P : Nat) (w : World) (hm : Row .u64 w (.slice ao n mcap) ms) (hr : Row .u64 w (.slice bo n rcap) rs) (hmd : Digs 18446744073709551616 ms) (hrd : Digs 18446744073709551616 rs) (hn : 0 < n) (hn1 : n ≤ 130)
    (hV1 : 18446744073709551616 ^ (n - 1) < val 18446744073709551616 ms) (hodd : val 18446744073709551616 ms % 2 = 1) (hP : P = prepN (val 18446744073709551616 ms) K (val 18446744073709551616 rs) n) :
    Calls Try.prog 47 #[.agg #[.slice ao n mcap, .int .u64 (K : Nat), .slice bo n rcap]] w fun e w' => e = .returned (.int .u64 (P : Nat)) ∧ Kept Nought w w' := by
  obtain ⟨i0, hi0, hz0, hz1, hz2⟩ := info_parts Try.info26
  obtain ⟨_, _, _, e1, hLm, _, _, _, hnum⟩ := hm.open
  cases e1
  obtain ⟨_, _, _, e1, hLr, _, _, _, _⟩ := hr.open
  cases e1
  obtain ⟨bm, off, rfl, hc0⟩ := hnum 0 hn
  rw [Nat.add_zero] at hc0
  have hV : val 18446744073709551616 ms < 18446744073709551616 ^ n := by rw [← hLm.out]; exact val_lt (by omega) hmd
  have hRl : val 18446744073709551616 rs < 18446744073709551616 ^ n := by rw [← hLr.out]; exact val_lt (by omega) hrd
  obtain ⟨W0, hW0⟩ : ∃ W0, W0 = w.alloc (.cells #[.slice (some ⟨bm, off, none⟩) n mcap, .int .u64 (K : Nat), .slice bo n rcap] 28) := ⟨_, rfl⟩
  have k0 : Kept Nought w W0 := by rw [hW0]; exact (Kept.refl Nought w).alloc _
  have hx0 : W0.heap[w.heap.size]? = some (.cells #[.slice (some ⟨bm, off, none⟩) n mcap, .int .u64 (K : Nat), .slice bo n rcap] 28 (0, 0)) := by rw [hW0]; exact heap_alloc_new _ _
  obtain ⟨N, hN⟩ : ∃ N, N = 2 * n + 1 := ⟨_, rfl⟩
  have hF := mFit (.slice bo n rcap) rs N W0 (hr.grew k0) hrd (by omega)
  have hA := fun W (k : Kept Nought W0 W) (ho : OwnN .u64 26 W W0.heap.size (.slice (some ⟨W0.heap.size, 0, none⟩) N N) N (digs 18446744073709551616 (val 18446744073709551616 rs) N)) => mAddRows W0 none none [] W0.heap.size W0.heap.size N N n (n + 1) K mcap n rcap _ bo _ ms W (Did.of_kept k trivial) (TrRoom.none _ _ (by simp; omega)) (Nat.le_refl _) ho (digs_length _ _ _) (digs_digs (by omega) _ _) (by omega) (by omega) (RowT.none (hm.grew k0)) hmd w.heap.size _ _ ((k.block _ (lt_of_block hx0) (fun f => f)).trans hx0) (by decide) (by decide) (by have := lt_of_block hx0; omega)
  rw [val_digs, Nat.mod_eq_of_lt (Nat.lt_of_lt_of_le hRl (Nat.pow_le_pow_right (by omega) (by omega)))] at hA
  have HF := toHid hF
  have HA := toHid hA
  have HM := toHid (hm.grew k0)
  have HR := toHid (hr.grew k0)
  have HX := toHid hx0
  have HK0 := toHid k0
  have HMD := toHid hmd
  have HRD := toHid hrd
  have HW0 := toHid hW0
  have hc0' := k0.cellN hc0
  obtain ⟨p0, p1, p2⟩ := cells3 hx0
  have gN : (2 : Int) * (n : Int) + 1 = (N : Int) := by omega
  have gn1 : ((n + 1 : Nat) : Int) = (n : Int) + 1 := by omega
  have HN := toHid hN
  have hNb : N ≤ 300 := by omega
  have HVV := toHid hV
  clear hW0 hx0 k0 hm hr hA hF hnum hc0 hmd hrd hN hV hRl
  go_enter Try.func47, Try.ntmps47
  go_wp2_with (rw [← HW0.out])
  refine HF.out.mono ?_
  rintro e w1 ⟨rfl, ho1, k1⟩
  have hA1 := HA.out w1 k1 ho1
  rw [gn1, show trPtr none = .pointer none from rfl] at hA1
  have q0 := k1.cellN p0
  have q1 := k1.cellN p1
  have q2 := k1.cellN p2
  clear HF HA p0 p1 p2 ho1
  go_wp2_with fail
  refine hA1.mono ?_
  rintro e w2 ⟨c, rfl, ⟨hc, zs', Q, o1, ho2, hl2, hd2, he2, hQ2, hlow2, D2⟩, hb2⟩
  have k2 := D2.none.2
  have HE := toHid he2
  have HQ := toHid hQ2
  have HLow := toHid hlow2
  have HO2 := toHid ho2
  have HL2 := toHid hl2
  have HD2 := toHid hd2
  have hn2 : 2 * n < N := by have := HN.out; omega
  clear hA1 q0 q1 q2 he2 hQ2 hlow2 ho2 D2 hb2 hl2 hd2 k1
  have HK2 := toHid k2
  clear k2
  go_wp2_with (at_make; refine wpList_make_full _ rfl _ _ 23 rfl w2.heap.size 26 i0 _ 1 Try.underlying23 hi0 hz0 hz1 _ _ _ _ N rfl rfl (by first | exact gN | rfl) (by first | exact gN | rfl) (by rw [hz2]; omega) (by unfold maxLen; omega) (Nat.le_refl _) ?_; intro w3 ho3 hg3; rw [zeros_map] at ho3; have k3 := grown_kept hg3; have hc3 := World.ownsRow.cellAt ho3 (2 * n) (by omega); have hf3 := World.ownsRow.frozenAt ho3 (2 * n); rw [List.getElem?_map, List.getElem?_replicate, if_pos hn2] at hc3; clear hg3)
  have ho4 : OwnN .u64 26 (w3.setCell ⟨w2.heap.size, 2 * n, none⟩ (.int .u64 1)) w2.heap.size (.slice (some ⟨w2.heap.size, 0, none⟩) N N) N (List.replicate (2 * n) 0 ++ [1]) := by
    have := (World.ownsRow.stored ho3 (2 * n) (.int .u64 1)).1
    unfold OwnN
    rw [← want_list, List.map_set, ← HN.out]
    exact this
  have k4 : Kept Nought w2 (w3.setCell ⟨w2.heap.size, 2 * n, none⟩ (.int .u64 1)) := kept_new k3 ((Kept.refl (fun b => b = w2.heap.size) w3).setCell ⟨w2.heap.size, 2 * n, none⟩ (fun _ => rfl) _) (Nat.le_refl _)
  generalize w3.setCell ⟨w2.heap.size, 2 * n, none⟩ (.int .u64 1) = w4 at *
  have K4 := HK2.out.trans k4
  have hx4 := (K4.block _ (lt_of_block HX.out) (fun f => f)).trans HX.out
  obtain ⟨r0, r1, r2⟩ := cells3 hx4
  have r3 := K4.cellN hc0'
  have hwant : Row .u64 w4 (.slice (some ⟨w2.heap.size, 0, none⟩) N N) (List.replicate (2 * n) 0 ++ [1]) := own_row' ho4 (by rw [List.length_append, List.length_replicate, HN.out]; rfl)
  have hsq : Row .u64 w4 (.slice (some ⟨W0.heap.size, 0, none⟩) N N) zs' := own_row' (k4.own HO2.out (fun _ _ f => f)) HL2.out
  have hx : ms.getD 0 0 < 18446744073709551616 := HMD.out.getD (by omega) _
  have hdg : val 18446744073709551616 ms % 18446744073709551616 = ms.getD 0 0 := by
    have := dig_val (by omega) HMD.out 0
    unfold dig at this
    rwa [Nat.pow_zero, Nat.div_one] at this
  have hlx : ms.length ≤ 100000000 := by rw [hLm.out]; omega
  have hlr : rs.length ≤ 100000000 := by rw [hLr.out]; omega
  have hlz : zs'.length ≤ 100000000 := by rw [HL2.out]; omega
  have hL := fun W (k : Kept Nought w4 W) => lLess none _ _ rs ms W (TrRoom.none _ _ (by omega)) (RowT.none (HR.out.grew (K4.trans k))) (RowT.none (HM.out.grew (K4.trans k))) HRD.out HMD.out hlr hlx
  have hE := fun W (k : Kept Nought w4 W) => lEqual none _ _ zs' _ W (TrRoom.none _ _ (by omega)) (RowT.none (hsq.grew k)) (RowT.none (hwant.grew k)) HD2.out (want_digs (2 * n)) hlz (by simp; omega)
  rw [want_val] at hE
  have hbits := prep_bits (V := val 18446744073709551616 ms) (K := K) (R := val 18446744073709551616 rs) (n := n) (Q := Q) (A := val 18446744073709551616 zs') (c := c) hn HVV.out hV1 hodd (by rw [show n + (n + 1) = N by have := HN.out; omega]; exact HE.out) HQ.out HLow.out
  rw [← hP] at hbits
  obtain ⟨y, hy⟩ : ∃ y, y = K * ms.getD 0 0 % 18446744073709551616 := ⟨_, rfl⟩
  obtain ⟨z, hz⟩ : ∃ z, z = (y + 1) % 18446744073709551616 := ⟨_, rfl⟩
  have hzz : decide (z = 0) = decide ((val 18446744073709551616 ms * K + 1) % 18446744073709551616 = 0) := by
    have : z = (val 18446744073709551616 ms * K + 1) % 18446744073709551616 := by
      rw [hz, hy, ← hdg, Nat.add_mod, Nat.mod_mod, ← Nat.add_mod, Nat.mul_comm (val 18446744073709551616 ms), Nat.add_mod, Nat.mul_mod, Nat.mod_mod, ← Nat.mul_mod, ← Nat.add_mod]
    rw [this]
  rw [← hzz] at hbits
  have gy : IntKind.u64.wrap ((K : Int) * ((ms.getD 0 0 : Nat) : Int)) = (y : Int) := by rw [IntKind.wrap_u64, hy]; omega
  have gz : IntKind.u64.wrap ((y : Int) + 1) = (z : Int) := by rw [IntKind.wrap_u64, hz]; omega
  have hzb : z < 18446744073709551616 := by rw [hz]; exact Nat.mod_lt _ (by omega)
  obtain ⟨b0, hb0⟩ : ∃ b, b = oneN (decide (z = 0)) := ⟨_, rfl⟩
  obtain ⟨b1, hb1⟩ : ∃ b, b = oneN (decide (val 18446744073709551616 rs < val 18446744073709551616 ms)) := ⟨_, rfl⟩
  obtain ⟨b2, hb2⟩ : ∃ b, b = oneN (decide (val 18446744073709551616 zs' = 18446744073709551616 ^ (2 * n))) := ⟨_, rfl⟩
  obtain ⟨b3, hb3⟩ : ∃ b, b = oneN (decide (z = 0) && decide (val 18446744073709551616 rs < val 18446744073709551616 ms)) := ⟨_, rfl⟩
  have g1 : bits .and .u64 (b0 : Int) (b1 : Int) = (b3 : Int) := by rw [hb0, hb1, hb3]; exact and_bits _ _
  have g2 : bits .and .u64 (b3 : Int) (b2 : Int) = (P : Int) := by rw [hb3, hb2, ← hbits]; exact and_bits _ _
  have hZ : Hid (∀ W, Calls Try.prog 71 #[.int .u64 (z : Int)] W fun e w' => e = .returned (.int .u64 (b0 : Int)) ∧ w' = W) := fun W => by
    have := wZero (z : Int) (by omega) (by omega) W
    rw [zer_bits, ← hb0] at this
    exact this
  have JL : Hid (∀ W, Kept Nought w4 W → Calls Try.prog 72 #[.pointer none, .slice bo n rcap, .slice (some ⟨bm, off, none⟩) n mcap] W fun e w' => e = .returned (.int .u64 (b1 : Int)) ∧ Kept Nought w4 w') := fun W k => by
    refine (hL W k).mono ?_
    rintro e w' ⟨rfl, o', d⟩
    exact ⟨by rw [hb1], k.trans d.none.2⟩
  have JE : Hid (∀ W, Kept Nought w4 W → Calls Try.prog 73 #[.pointer none, .slice (some ⟨W0.heap.size, 0, none⟩) N N, .slice (some ⟨w2.heap.size, 0, none⟩) N N] W fun e w' => e = .returned (.int .u64 (b2 : Int)) ∧ Kept Nought w4 w') := fun W k => by
    refine (hE W k).mono ?_
    rintro e w' ⟨rfl, o', d⟩
    exact ⟨by rw [hb2], k.trans d.none.2⟩
  have KF := toHid (HK0.out.trans K4)
  clear hL hE hbits hzz hdg hb0 hb1 hb2 hb3 hy hz hwant hsq hx4 ho4 k4 ho3 hc3 hf3 k3 K4 hc0' hP hV1 hodd HE HLow HQ HVV
  generalize ms.getD 0 0 = x at *
  go_region_held3 (fun w' => w'.cell? ⟨w.heap.size, 0, none⟩ = some (.slice (some ⟨bm, off, none⟩) n mcap) ∧ w'.cell? ⟨w.heap.size, 1, none⟩ = some (.int .u64 (K : Int)) ∧ w'.cell? ⟨w.heap.size, 2, none⟩ = some (.slice bo n rcap) ∧ w'.cell? ⟨bm, off, none⟩ = some (.int .u64 (x : Int)))
    (((try dsimp only); (repeat' apply And.intro) <;> first | (go_keep; done) | assumption))
    (first
    | (go_at_call 71; refine (hZ.out _).mono ?_; rintro e w5 ⟨rfl, rfl⟩)
    | (go_at_call 72; refine (JL.out _ ?_).mono ?_; (exact (Kept.refl _ _).drew); rintro e w6 ⟨rfl, k6⟩; have s0 := k6.cellN r0; have s1 := k6.cellN r1; have s2 := k6.cellN r2; have s3 := k6.cellN r3)
    | (go_at_call 73; refine (JE.out _ ?_).mono ?_; (exact k6); rintro e w7 ⟨rfl, k7⟩; have t0 := k7.cellN r0; have t1 := k7.cellN r1; have t2 := k7.cellN r2; have t3 := k7.cellN r3))
  all_goals
    go_wp2_with fail
    go_ret
    exact ⟨rfl, KF.out.trans k7⟩

end Go.Proofs.Ytpgccioblgcjaaa
