/- Package mont: restOfR, squareOfR. -/
import Derived.Test.YtpgccioblgcjaaaMonH
namespace Go.Proofs.Ytpgccioblgcjaaa
open Go.RowKit

set_option maxRecDepth 20000 in
set_option maxHeartbeats 2000000 in
/-- restOfR. -/
theorem mRest (ao bo : Option Addr) (n mcap rl rcap V Y : Nat) (K : Int) (ms : List Nat) (w : World) (hm : Row .u64 w (.slice ao n mcap) ms) (hdm : Digs 18446744073709551616 ms) (hn0 : 0 < n) (hn : n ≤ 130) (hV : V = val 18446744073709551616 ms) (hV1 : 18446744073709551616 ^ (n - 1) < V) (hY : Y = 18446744073709551616 ^ n % V) :
    Calls Try.prog 82 #[.agg #[.slice ao n mcap, .int .u64 K, .slice bo rl rcap]] w fun e w' => ∃ v', e = .returned v' ∧ Row .u64 w' v' (digs 18446744073709551616 Y n) ∧ Fresh w v' ∧ Kept Nought w w' := by
  obtain ⟨i0, hi0, hz0, hz1, hz2⟩ := info_parts Try.info26
  obtain ⟨_, _, _, e1, hLm, _, _, _, _⟩ := hm.open
  cases e1
  have hVn : V < 18446744073709551616 ^ n := by rw [hV, ← hLm.out]; exact val_lt (by omega) hdm
  obtain ⟨W, hW⟩ : ∃ W, W = w.alloc (.cells #[.slice ao n mcap, .int .u64 K, .slice bo rl rcap] 28) := ⟨_, rfl⟩
  have k0 : Kept Nought w W := by rw [hW]; exact (Kept.refl Nought w).alloc _
  have hx0 : W.heap[w.heap.size]? = some (.cells #[.slice ao n mcap, .int .u64 K, .slice bo rl rcap] 28 (0, 0)) := by rw [hW]; exact heap_alloc_new _ _
  have HDb : Hid (∀ W' xo xc k, Kept Nought W W' → Row .u64 W' (.slice xo n xc) (digs 18446744073709551616 (18446744073709551616 ^ (n - 1) * 2 ^ k % V) n) → Calls Try.prog 84 #[.agg #[.slice ao n mcap, .int .u64 K, .slice bo rl rcap], .slice xo n xc] W' fun e w' => ∃ v', e = .returned v' ∧ Row .u64 w' v' (digs 18446744073709551616 (18446744073709551616 ^ (n - 1) * 2 ^ (k + 1) % V) n) ∧ Fresh W v' ∧ Kept Nought W w') := fun W' xo xc k kk hr => by
    have hlt : 18446744073709551616 ^ (n - 1) * 2 ^ k % V < V := Nat.mod_lt _ (Nat.lt_of_le_of_lt (Nat.zero_le _) hV1)
    refine (mDoubled ao bo xo n mcap rl rcap xc V (18446744073709551616 ^ (n - 1) * 2 ^ (k + 1) % V) K _ ms W' hr (hm.grew (k0.trans kk)) (digs_digs (by omega) _ _) hdm (by omega) hV (by rw [val_digs, Nat.mod_eq_of_lt (Nat.lt_trans hlt hVn)]; exact hlt) ?_).mono ?_
    · rw [val_digs, Nat.mod_eq_of_lt (Nat.lt_trans hlt hVn), dbl_num, Nat.pow_succ]
      congr 1
      generalize 18446744073709551616 ^ (n - 1) = p
      generalize 2 ^ k = q
      grind
    · rintro e w' ⟨v', rfl, h1, hf, h2⟩
      exact ⟨v', rfl, h1, hf.after kk, kk.trans h2⟩
  obtain ⟨p0, p1, p2⟩ := cells3 hx0
  have HW := toHid hW
  have HX := toHid hx0
  have HK0 := toHid k0
  have HI : Hid ((List.replicate n 0).set (n - 1) 1 = digs 18446744073709551616 (18446744073709551616 ^ (n - 1) * 2 ^ 0 % V) n) := by
    unfold Hid
    obtain ⟨m, rfl⟩ : ∃ m, n = m + 1 := ⟨n - 1, by omega⟩
    rw [Nat.add_sub_cancel] at hV1 ⊢
    rw [Nat.pow_zero, Nat.mul_one, Nat.mod_eq_of_lt hV1]
    refine digs_val (by omega) ?_ (by simp) ?_
    · intro d hd
      rcases List.mem_or_eq_of_mem_set hd with h | h
      · rw [(List.mem_replicate.1 h).2]; omega
      · omega
    · rw [List.replicate_succ', List.set_append_right _ _ (by simp), List.length_replicate, Nat.sub_self, List.set_cons_zero, val_snoc, val_zeros _ (fun d hd => (List.mem_replicate.1 hd).2), List.length_replicate, Nat.mod_eq_of_lt (Nat.pow_lt_pow_right (by omega) (by omega))]
      omega
  have HY : Hid (18446744073709551616 ^ (n - 1) * 2 ^ 64 % V = Y) := by
    unfold Hid
    obtain ⟨m, rfl⟩ : ∃ m, n = m + 1 := ⟨n - 1, by omega⟩
    rw [hY, Nat.add_sub_cancel, Nat.pow_succ 18446744073709551616 m]
  have hn1 : n - 1 < n := by omega
  have gn : (n : Int) - 1 = ((n - 1 : Nat) : Int) := by omega
  have gn2 : ((n - 1 : Nat) : Int) < (n : Int) := by omega
  clear hW hx0 k0 hm hdm hV hV1 hY hVn
  go_enter Try.func82, Try.ntmps82
  go_wp2_with (at_make; rw [← HW.out]; refine wpList_make_full _ rfl _ _ 23 rfl W.heap.size 26 i0 _ 1 Try.underlying23 hi0 hz0 hz1 _ _ _ _ n rfl rfl rfl rfl (by rw [hz2]; omega) (by unfold maxLen; omega) (Nat.le_refl _) ?_; intro w3 ho3 hg3; rw [zeros_map] at ho3; have k3 := grown_kept hg3; have hc3 := World.ownsRow.cellAt ho3 (n - 1) (by omega); have hf3 := World.ownsRow.frozenAt ho3 (n - 1); rw [List.getElem?_map, List.getElem?_replicate, if_pos hn1] at hc3; clear hg3)
  have ho4 : OwnN .u64 26 (w3.setCell ⟨W.heap.size, n - 1, none⟩ (.int .u64 1)) W.heap.size (.slice (some ⟨W.heap.size, 0, none⟩) n n) n (digs 18446744073709551616 (18446744073709551616 ^ (n - 1) * 2 ^ 0 % V) n) := by
    have := (World.ownsRow.stored ho3 (n - 1) (.int .u64 1)).1
    unfold OwnN
    rw [← HI.out, List.map_set]
    exact this
  have hr4 := own_row' ho4 (digs_length _ _ _)
  have k4 : Kept Nought W (w3.setCell ⟨W.heap.size, n - 1, none⟩ (.int .u64 1)) := kept_new k3 ((Kept.refl (fun b => b = W.heap.size) w3).setCell ⟨W.heap.size, n - 1, none⟩ (fun _ => rfl) _) (Nat.le_refl _)
  generalize w3.setCell ⟨W.heap.size, n - 1, none⟩ (.int .u64 1) = w4 at *
  have HR4 := toHid hr4
  have HF4 : Hid (Fresh W (.slice (some ⟨W.heap.size, 0, none⟩) n n)) := Fresh.own ho4 (Nat.le_refl _)
  have HK4 := toHid k4
  clear ho4 ho3 hc3 hf3 k3 p0 p1 p2 hr4 k4 HI
  go_loopw [4, 14] (fun rv i wr => ∃ (k : Nat) (xo : Option Addr) (xc : Nat), k ≤ 64 ∧ i = .int .i64 (k : Int) ∧ rv = .slice xo n xc ∧ Hid (Row .u64 wr (.slice xo n xc) (digs 18446744073709551616 (18446744073709551616 ^ (n - 1) * 2 ^ k % V) n)) ∧ Hid (Fresh W (.slice xo n xc)) ∧ Hid (Kept Nought W wr)) (fun _ i _ => 64 - (intOf i).toNat)
  case atStart => exact ⟨0, _, _, by omega, rfl, rfl, HR4.out, HF4.out, HK4.out⟩
  case round =>
    obtain ⟨k, xo, xc, hk, rfl, rfl, HR, HF, HK⟩ := hrel
    by_cases hk6 : k < 64
    · have g1 : (k : Int) < 64 := by omega
      obtain ⟨q0, q1, q2⟩ := cells3 ((HK.out.block _ (lt_of_block HX.out) (fun f => f)).trans HX.out)
      have hD := HDb.out wr xo xc k HK.out HR.out
      go_wp2_with fail
      refine hD.mono ?_
      rintro e w5 ⟨v5, rfl, hr5, f5, k5⟩
      obtain ⟨yo, yn, yc, rfl, hL5, _, _, _, _⟩ := hr5.open
      obtain rfl : yn = n := by rw [← hL5.out, digs_length]
      have HR5 := toHid hr5
      have HF5 := toHid f5
      have HK5 := toHid k5
      clear hD hr5 k5 f5 q0 q1 q2 hL5
      go_wp2_with fail
      go_roundw
      case rel => exact ⟨k + 1, yo, yc, by omega, by go_num, rfl, HR5.out, HF5.out, HK5.out⟩
      case measure => simp [intOf]; omega
    · have g1 : ¬ (k : Int) < 64 := by omega
      obtain rfl : k = 64 := by omega
      go_wp2_with fail
      go_ret
      refine ⟨_, rfl, ?_, HF.out.after HK0.out, HK0.out.trans HK.out⟩
      have := HR.out
      rw [HY.out] at this
      exact this

end Go.Proofs.Ytpgccioblgcjaaa
