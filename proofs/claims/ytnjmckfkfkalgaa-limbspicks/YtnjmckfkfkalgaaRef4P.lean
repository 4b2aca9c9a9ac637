/- The plain side of layer 4: Pick. -/
import Derived.Test.YtnjmckfkfkalgaaLimP
namespace Go.Proofs.Ytnjmckfkfkalgaa
open Go.RowKit

set_option maxRecDepth 20000 in
set_option maxHeartbeats 2000000 in
theorem q4Pick (ao : Option Addr) (m cap : Nat) (A : Nat → Option Addr) (L C : Nat → Nat) (xss : Nat → List Nat) (i : Nat) (w : World) (hs : Slots w ao m A L C) (hr : ∀ p, p < m → Row .u64 w (.slice (A p) (L p) (C p)) (xss p)) (hd : ∀ p, p < m → Digs 18446744073709551616 (xss p)) (hL : ∀ p, p < m → L p ≤ 100000) (hm : m ≤ 100000) :
    Calls Try.prog 26 #[.slice ao m cap, .int .u64 (i : Nat)] w fun e w' => ∃ v', e = .returned v' ∧ Row .u64 w' v' (digs 18446744073709551616 (pickN (fun p => val 18446744073709551616 (xss p)) i m) (maxOf L m)) ∧ Kept Nought w w' := by
  obtain ⟨i0, hi0, hz0, hz1, hz2⟩ := info_parts Try.info26
  have hnb : maxOf L m ≤ 100000 := maxOf_le L _ m hL
  obtain ⟨n, hn⟩ : ∃ n, n = maxOf L m := ⟨_, rfl⟩
  rw [← hn] at hnb ⊢
  have HN := toHid hn
  have HS := toHid hs
  have HR := toHid hr
  have HD := toHid hd
  clear hs hr hd hn
  go_enter Try.func26, Try.ntmps26
  go_wp2_with fail
  go_loop [5, 10] (fun n ii => ∃ (k q : Nat), k ≤ m ∧ ii = .int .i64 (k : Int) ∧ n = .int .i64 (q : Int) ∧ Hid (q = maxOf L k)) (fun _ ii => ((m : Int) - intOf ii).toNat)
  case atStart => exact ⟨0, 0, Nat.zero_le _, rfl, rfl, rfl⟩
  case round =>
    obtain ⟨k, q, hk, rfl, rfl, hq⟩ := hrel
    by_cases hkm : k < m
    · have hk1 : (k : Int) < (m : Int) := by omega
      obtain ⟨b, off, rfl, hcell⟩ := HS.out k hkm
      obtain ⟨ao, hao⟩ : ∃ ao, ao = A k := ⟨_, rfl⟩
      obtain ⟨len, hlen⟩ : ∃ len, len = L k := ⟨_, rfl⟩
      obtain ⟨cp, hcap⟩ : ∃ cap, cap = C k := ⟨_, rfl⟩
      rw [← hao, ← hlen, ← hcap] at hcell
      have HLen := toHid hlen
      clear hao hlen hcap
      go_wp2_with fail
      go_round
      case rel => exact ⟨k + 1, max q len, by omega, by go_num, by rw [show ((max q len : Nat) : Int) = max (q : Int) (len : Int) by omega], by unfold Hid; rw [maxOf, ← hq.out, ← HLen.out]⟩
      case measure => simp [intOf]; omega
    · have hk1 : ¬ (k : Int) < (m : Int) := by omega
      have e : k = m := by omega
      subst e
      obtain rfl : q = n := hq.out.trans HN.out.symm
      clear hq
      by_cases him : i < k
      · have h1 : ¬ (i : Int) ≥ (k : Int) := by omega
        have h2 : (i : Int) < (k : Int) := by omega
        have h0 : (0 : Int) ≤ (i : Int) := Int.natCast_nonneg _
        obtain ⟨b, off, rfl, hcell⟩ := HS.out i him
        have hOf := rOf _ (xss i) w (HR.out i him) (HD.out i him) (by
          obtain ⟨_, _, _, e, h, _⟩ := (HR.out i him).open
          simp only [Value.slice.injEq] at e
          have := h.out
          have := hL i him
          omega)
        have hpk : Hid (pickN (fun p => val 18446744073709551616 (xss p)) i k = val 18446744073709551616 (xss i)) := by unfold Hid pickN; rw [if_pos him]
        generalize A i = a0 at *
        generalize L i = l0 at *
        generalize C i = c0 at *
        go_wp2_with fail
        refine hOf.mono ?_
        rintro e w1 ⟨v1, rfl, hb1, _, k1⟩
        have hN := rNat v1 _ q w1 hb1 (by omega)
        clear hOf
        go_wp2_with fail
        refine hN.mono ?_
        rintro e w2 ⟨v2, rfl, hr2, _, k2⟩
        go_wp2_with fail
        go_ret
        rw [hpk.out]
        exact ⟨_, rfl, hr2, k1.trans k2⟩
      · have h1 : (i : Int) ≥ (k : Int) := by omega
        have hpk : Hid (digs 18446744073709551616 (pickN (fun p => val 18446744073709551616 (xss p)) i k) q = List.replicate q 0) := by
          have := fill_digs (ys := []) (V := 0) (m := q) (Digs.nil _) rfl (Nat.zero_le _)
          unfold Hid pickN; rw [if_neg him]
          simpa using this
        go_wp2_with (at_make; refine wpList_make_full _ rfl _ _ 23 rfl w.heap.size 26 i0 _ 1 Try.underlying23 hi0 hz0 hz1 _ _ _ _ q rfl rfl rfl rfl (by rw [hz2]; omega) (by unfold maxLen; omega) (Nat.le_refl _) ?_; intro w5 ho5 hg5)
        rw [zeros_map] at ho5
        go_ret
        rw [hpk.out]
        exact ⟨_, rfl, Row.of_own (base := w.heap.size) (e := 26) (by rw [List.length_replicate]; exact ho5), grown_kept hg5⟩

end Go.Proofs.Ytnjmckfkfkalgaa
