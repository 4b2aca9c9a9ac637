/- Package product: rows: a row of b for each word of a. -/
import Derived.Test.YtcdeankllgpnfabPrA
import Derived.Test.YtcdeankllgpnfabDigL
namespace Go.Proofs.Ytcdeankllgpnfab
open Go.RowKit

theorem digs_zero (B : Nat) : ∀ n, digs B 0 n = List.replicate n 0
  | 0 => rfl
  | n + 1 => by rw [digs, digs_zero B n, List.replicate_succ', dig]; simp

theorem own_apart_row {w w' : World} {v : Value} {xs : List Nat} {g : Nat} (h : Row .u64 w v xs) (hg : w.heap.size ≤ g) (_ : w.heap.size ≤ w'.heap.size) : xs ≠ [] → ∀ b, v.ownBlock = some b → b ≠ g := fun hne b hb e => by
  have := h.lt hne b hb
  omega

set_option maxRecDepth 20000 in
set_option maxHeartbeats 2000000 in
/-- rows. -/
theorem pRows (o : Tr) (u v : Value) (xs ys : List Nat) (w : World) (ht : TrRoom w o xs.length) (hu : RowT w o u xs) (hv : RowT w o v ys) (hdx : Digs 18446744073709551616 xs) (hdy : Digs 18446744073709551616 ys) (hL : xs.length ≤ 100000) (hM : ys.length ≤ 100000) :
    Calls Try.prog 20 #[trPtr o, u, v] w fun e w' => ∃ v', e = .returned v' ∧
      OwnN .u64 24 w' w.heap.size v' (xs.length + ys.length) (digs 18446744073709551616 (val 18446744073709551616 xs * val 18446744073709551616 ys) (xs.length + ys.length)) ∧ ∃ o', Did w o (List.replicate xs.length (1, (ys.length : Nat), 0)) w' o' := by
  obtain ⟨i0, hi0, hz0, hz1, hz2⟩ := info_parts Try.info24
  obtain ⟨ao, L, cap, rfl, hLx, _, _, _, _⟩ := hu.1.open
  obtain ⟨bo, M, dap, rfl, hLy, _, _, _, _⟩ := hv.1.open
  have eL := hLx.out
  have eM := hLy.out
  have hX : Hid (val 18446744073709551616 xs < 18446744073709551616 ^ L) := by have := val_lt (by omega) hdx; rw [eL] at this; exact this
  have hY : Hid (val 18446744073709551616 ys < 18446744073709551616 ^ M) := by have := val_lt (by omega) hdy; rw [eM] at this; exact this
  have hdigx : Hid (∀ k, dig 18446744073709551616 (val 18446744073709551616 xs) k = xs.getD k 0) := fun k => dig_val (by omega) hdx k
  have hxb : Hid (∀ k, xs.getD k 0 < 18446744073709551616) := fun k => hdx.getD (by omega) _
  rw [eL] at hL ht ⊢
  rw [eM] at hM ⊢
  have HU := toHid hu
  have HV := toHid hv
  have HT := toHid ht
  have HM := toHid eM
  have HDY := toHid hdy
  obtain ⟨Y, hYY⟩ : ∃ Y, Y = val 18446744073709551616 ys := ⟨_, rfl⟩
  rw [← hYY] at hY ⊢
  have HYY := toHid hYY
  obtain ⟨tp, htp⟩ : ∃ tp, tp = trPtr o := ⟨_, rfl⟩
  rw [← htp]
  have HTP := toHid htp
  clear hu hv ht hLx hLy eL eM hdx hdy htp hYY
  generalize val 18446744073709551616 xs = X at *
  obtain ⟨N, hN⟩ : ∃ N, N = L + M := ⟨_, rfl⟩
  have hLM : (L : Int) + (M : Int) = (N : Int) := by omega
  rw [← hN]
  have hNb : N ≤ 200000 := by omega
  have HN := toHid hN
  clear hN
  go_enter Try.func20, Try.ntmps20
  go_wp2_with (at_make; refine wpList_make_full _ rfl _ _ 23 rfl w.heap.size 24 i0 _ 1 Try.underlying23 hi0 hz0 hz1 _ _ _ _ N rfl rfl (by first | exact hLM | rfl) (by first | exact hLM | rfl) (by rw [hz2]; omega) (by unfold maxLen; omega) (Nat.le_refl _) ?_; intro w1 ho1 hg1)
  rw [zeros_map] at ho1
  have k1 := grown_kept hg1
  clear hg1
  rw [← digs_zero 18446744073709551616 N] at ho1
  go_loopw [18] (fun i wr => ∃ (k : Nat) (o' : Tr), k ≤ L ∧ i = .int .i64 (k : Int) ∧ Hid (Did w o (List.replicate k (1, (M : Int), 0)) wr o') ∧ OwnN .u64 24 wr w.heap.size (.slice (some ⟨w.heap.size, 0, none⟩) N N) N (digs 18446744073709551616 (X % 18446744073709551616 ^ k * Y) N)) (fun i _ => L - (intOf i).toNat)
  case atStart => exact ⟨0, o, Nat.zero_le _, rfl, Did.of_kept k1 (HT.out.1), by rw [Nat.pow_zero, Nat.mod_one, Nat.zero_mul]; exact ho1⟩
  case round =>
    obtain ⟨k, o1, hk, rfl, HD, ho⟩ := hrel
    clear ho1 k1
    by_cases hkn : k < L
    · have hk0 : (0 : Int) ≤ (k : Int) := Int.natCast_nonneg _
      have hk1 : (k : Int) < (L : Int) := by omega
      have hroom : TrRoom wr o1 (L - k) := HD.out.room (by rw [List.length_replicate, show k + (L - k) = L by omega]; exact HT.out)
      have hS := tSpanDid o1 (M : Int) wr hroom.1
      rw [HD.out.ptr, ← HTP.out] at hS
      go_wp2_with fail
      refine hS.mono ?_
      rintro e w2 ⟨rfl, o2, d2⟩
      have ho2 := d2.kept.own ho (own_apart ho hroom.1)
      have HD2 := toHid (HD.out.trans d2)
      have hu2 := HU.out.did HD2.out
      have hv2 := HV.out.did HD2.out
      clear hS ho d2 hroom HD
      obtain ⟨_, _, _, e2, _, _, _, _, hnum⟩ := hu2.1.open
      cases e2
      obtain ⟨b2, off2, rfl, hc2⟩ := hnum k hkn
      have hxk := hxb.out k
      obtain ⟨zs, hzs⟩ : ∃ zs, zs = digs 18446744073709551616 (X % 18446744073709551616 ^ k * Y) N := ⟨_, rfl⟩
      rw [← hzs] at ho2
      have hzl : zs.length = N := by rw [hzs, digs_length]
      have hzd : Digs 18446744073709551616 zs := by rw [hzs]; exact digs_digs (by omega) _ _
      obtain ⟨S, hS⟩ : ∃ S, S = val 18446744073709551616 ((zs.drop k).take M) + Y * xs.getD k 0 := ⟨_, rfl⟩
      obtain ⟨R, hR⟩ : ∃ R, R = S / 18446744073709551616 ^ M := ⟨_, rfl⟩
      have hkM : k + M < N := by have := HN.out; omega
      obtain ⟨st1, st2⟩ := rows_step (S := S) (by omega) hY.out hkM hzs (by rw [hdigx.out k]; exact hS)
      rw [← hR] at st1 st2
      have hSy : S = val 18446744073709551616 ((zs.drop k).take M) + val 18446744073709551616 ys * xs.getD k 0 := by rw [← HYY.out]; exact hS
      have hap := own_apart_row (w' := w2) (g := w.heap.size) HV.out.1 (Nat.le_refl _) HD2.out.size
      have HA := fun W' (kk : Kept Nought w2 W') => pAddRow w.heap.size w.heap.size N N k M (N - k) (xs.getD k 0) zs ys (.slice bo M dap) W' (kk.own ho2 (fun _ _ f => f)) hzl hzd (by omega) (hv2.1.grew kk) HM.out HDY.out hap hxk R S hSy hR
      have hST : Hid (∀ W', OwnN .u64 24 W' w.heap.size (.slice (some ⟨w.heap.size, 0, none⟩) N N) N (zs.take k ++ (digs 18446744073709551616 S M ++ zs.drop (k + M))) → OwnN .u64 24 (W'.setCell ⟨w.heap.size, k + M, none⟩ (.int .u64 (R : Int))) w.heap.size (.slice (some ⟨w.heap.size, 0, none⟩) N N) N (digs 18446744073709551616 (X % 18446744073709551616 ^ (k + 1) * Y) N)) := fun W' h => by
        have := (World.ownsRow.stored h (k + M) (.int .u64 (R : Int))).1
        unfold OwnN
        rw [← st1, ← part_set zs _ k M R (digs_length _ _ _) (by omega), List.map_set]
        exact this
      have hCell : ∀ W', OwnN .u64 24 W' w.heap.size (.slice (some ⟨w.heap.size, 0, none⟩) N N) N (zs.take k ++ (digs 18446744073709551616 S M ++ zs.drop (k + M))) → W'.cell? ⟨w.heap.size, k + M, none⟩ = some (.int .u64 (zs.getD (k + M) 0 : Nat)) := fun W' h => part_cell h hzl (digs_length _ _ _) hkM
      have hFr : ∀ W', OwnN .u64 24 W' w.heap.size (.slice (some ⟨w.heap.size, 0, none⟩) N N) N (zs.take k ++ (digs 18446744073709551616 S M ++ zs.drop (k + M))) → W'.frozen? ⟨w.heap.size, k + M, none⟩ = false := fun W' h => World.ownsRow.frozenAt h (k + M)
      have hF2 : ¬ trFoot o2 w.heap.size := own_apart ho2 (HD2.out.room (k := 0) (by rw [List.length_append, List.length_replicate]; exact HT.out.less (by simp; omega))).1 _ rfl
      clear hS hSy hR hzs hzd hzl hu2 hv2 hnum hxb hdigx HDY HYY hap st1 ho2
      generalize xs.getD k 0 = x at *
      generalize zs.getD (k + M) 0 = zz at *
      generalize zs.take k ++ (digs 18446744073709551616 S M ++ zs.drop (k + M)) = zs' at *
      have gkM : (k : Int) + (M : Int) < (N : Int) := by omega
      have gkM0 : (0 : Int) ≤ (k : Int) + (M : Int) := by omega
      have gkM1 : ((k : Int) + (M : Int)).toNat = k + M := by omega
      go_wp2_with fail
      go_region_with (go_at_call 28; refine (HA _ ((Kept.refl _ _).drew)).mono ?_; rintro e w3 ⟨rfl, ho3, k3⟩; have hc3 := hCell _ ho3; have hf3 := hFr _ ho3)
      all_goals
        go_wp2_with fail
        go_roundw
        case rel =>
          have k4 : Kept (fun b => b = w.heap.size) w2 (w3.setCell ⟨w.heap.size, k + M, none⟩ (.int .u64 (R : Int))) := (((Kept.refl _ _).drew).trans k3).setCell _ (fun _ => rfl) _
          exact ⟨k + 1, o2, by omega, by go_num, by unfold Hid; rw [List.replicate_succ']; exact HD2.out.wroteNew k4 (Nat.le_refl _) hF2, hST.out _ ho3⟩
        case measure => simp [intOf]; omega
    · have hk1 : ¬ (k : Int) < (L : Int) := by omega
      obtain rfl : k = L := by omega
      rw [Nat.mod_eq_of_lt hX.out] at ho
      clear hxb hdigx HDY HYY
      go_wp2_with fail
      go_ret
      exact ⟨_, rfl, ho, o1, HD.out⟩

end Go.Proofs.Ytcdeankllgpnfab
