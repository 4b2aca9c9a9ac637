/- The plain side of layer 6: shift: 2^(64 n) modulo a modulus, and its inverse. -/
import Derived.Test.YtoieghgaahfciaaGreatRef6D
namespace Go.Proofs.YtoieghgaahfciaaGreat
open Go.RowKit

theorem coprime_two {V : Nat} (h : V % 2 = 1) (k : Nat) : Nat.gcd (2 ^ k % V) V = 1 := by
  rw [← Nat.gcd_rec, Nat.gcd_comm]
  have h2 : Nat.Coprime 2 V := by
    unfold Nat.Coprime
    rw [Nat.gcd_rec, h]
    rfl
  exact Nat.Coprime.pow_left k h2

theorem dlen_two (k n : Nat) (h : k < 32 * n) : dlen (2 ^ k) ≤ n := by
  rw [dlen_le, show (4294967296 : Nat) ^ n = 2 ^ (32 * n) by rw [Nat.pow_mul]]
  exact Nat.pow_lt_pow_right (by omega) h

theorem dlen_val6 {xs : List Nat} (hd : Digs 18446744073709551616 xs) : dlen (val 18446744073709551616 xs) ≤ 2 * xs.length := by
  rw [dlen_le, show (4294967296 : Nat) ^ (2 * xs.length) = 18446744073709551616 ^ xs.length by rw [Nat.pow_mul]]
  exact val_lt (by omega) hd

set_option maxRecDepth 40000 in
set_option maxHeartbeats 1000000 in
theorem q6ShiftUp (ao : Option Addr) (L cap : Nat) (kv rv : Value) (ms : List Nat) (w : World) (hu : Row .u64 w (.slice ao L cap) ms) (hd : Digs 18446744073709551616 ms) (hL : L ≤ 100000) (hV : 0 < val 18446744073709551616 ms) :
    Calls Tryz.prog 64 #[.agg #[.slice ao L cap, kv, rv], .int .i64 1] w fun e w' => ∃ v', e = .returned v' ∧ IsBig w' v' (2 ^ (64 * L) % val 18446744073709551616 ms) ∧ Kept Nought w w' := by
  have k0 : Kept Nought w (w.alloc (.cells #[.slice ao L cap, kv, rv] 26)) := (Kept.refl Nought w).alloc _
  have hx0 : (w.alloc (.cells #[.slice ao L cap, kv, rv] 26)).heap[w.heap.size]? = some (.cells #[.slice ao L cap, kv, rv] 26 (0, 0)) := heap_alloc_new _ _
  have lm : ms.length = L := by obtain ⟨_, _, _, e, h, _⟩ := hu.open; cases e; exact h.out
  have hOm := rOf _ ms _ (hu.grew k0) hd (by omega)
  clear hu hd lm
  generalize val 18446744073709551616 ms = V at *
  go_enter Tryz.func64, Tryz.ntmps64
  go_wp2_with fail
  refine hOm.mono ?_
  rintro e w1 ⟨v1, rfl, hb1, _, k1⟩
  have hx1 := (k1.block _ (lt_of_block hx0) (fun f => f)).trans hx0
  obtain ⟨p0, _, _⟩ := box3 hx1
  have kk := k0.trans k1
  have hSh := fun W v (h : IsBig W v 1) => rShl v 1 (64 * L) W h (by decide +kernel) (by omega)
  have hS1 := fun W => rSmall 1 (by omega) W
  rw [show ((64 * L : Nat) : Int) = IntKind.i64.wrap (64 * (L : Int)) by rw [IntKind.wrap_i64]; omega, Nat.mul_one] at hSh
  have hMo := fun W u v (h1 : IsBig W u (2 ^ (64 * L))) (h2 : IsBig W v V) => rMod u v _ V W h1 h2 hV (Nat.le_trans (dlen_two (64 * L) (2 * L + 1) (by omega)) (by omega))
  clear hOm hx0 hx1 k0 k1
  go_wp2_with fail
  go_region_with (first
    | (go_at_call 32; refine (hS1 _).mono ?_; rintro e w2 ⟨v2, rfl, hb2, _, k2⟩; have hc2 := k2.cellN (show (World.drew w1).cell? _ = _ from p0))
    | (go_at_call 46; refine (hSh _ _ ?_).mono ?_; (exact hb2); rintro e w3 ⟨v3, rfl, hb3, _, k3⟩; have hc3 := k3.cellN hc2)
    | (go_at_call 45; refine (hMo _ _ _ ?_ ?_).mono ?_; (exact hb3); (exact (((hb1.grew (Kept.refl Nought w1).drew).grew k2).grew k3)); rintro e w4 ⟨v4, rfl, hb4, _, k4⟩))
  all_goals
    go_wp2
    go_ret
    exact ⟨_, rfl, hb4, ((kk.drew.trans k2).trans k3).trans k4⟩

set_option maxRecDepth 40000 in
set_option maxHeartbeats 1000000 in
theorem q6ShiftDown (ao : Option Addr) (L cap : Nat) (kv rv : Value) (ms : List Nat) (w : World) (hu : Row .u64 w (.slice ao L cap) ms) (hd : Digs 18446744073709551616 ms) (hL : L ≤ 100000) (hV : 1 < val 18446744073709551616 ms) (hodd : val 18446744073709551616 ms % 2 = 1) :
    Calls Tryz.prog 64 #[.agg #[.slice ao L cap, kv, rv], .int .i64 (-1)] w fun e w' => ∃ v', e = .returned v' ∧ (∃ T, T < val 18446744073709551616 ms ∧ 2 ^ (64 * L) * T % val 18446744073709551616 ms = 1 ∧ IsBig w' v' T) ∧ Kept Nought w w' := by
  have k0 : Kept Nought w (w.alloc (.cells #[.slice ao L cap, kv, rv] 26)) := (Kept.refl Nought w).alloc _
  have hx0 : (w.alloc (.cells #[.slice ao L cap, kv, rv] 26)).heap[w.heap.size]? = some (.cells #[.slice ao L cap, kv, rv] 26 (0, 0)) := heap_alloc_new _ _
  have lm : ms.length = L := by obtain ⟨_, _, _, e, h, _⟩ := hu.open; cases e; exact h.out
  have hOm := rOf _ ms _ (hu.grew k0) hd (by omega)
  have dV := dlen_val6 hd
  rw [lm] at dV
  clear hu hd lm
  generalize val 18446744073709551616 ms = V at *
  have hg := coprime_two hodd (64 * L)
  go_enter Tryz.func64, Tryz.ntmps64
  go_wp2_with fail
  refine hOm.mono ?_
  rintro e w1 ⟨v1, rfl, hb1, _, k1⟩
  have hx1 := (k1.block _ (lt_of_block hx0) (fun f => f)).trans hx0
  obtain ⟨p0, _, _⟩ := box3 hx1
  have kk := k0.trans k1
  have hSh := fun W v (h : IsBig W v 1) => rShl v 1 (64 * L) W h (by decide +kernel) (by omega)
  have hS1 := fun W => rSmall 1 (by omega) W
  rw [show ((64 * L : Nat) : Int) = IntKind.i64.wrap (64 * (L : Int)) by rw [IntKind.wrap_i64]; omega, Nat.mul_one] at hSh
  have hMo := fun W u v (h1 : IsBig W u (2 ^ (64 * L))) (h2 : IsBig W v V) => rMod u v _ V W h1 h2 (by omega) (Nat.le_trans (dlen_two (64 * L) (2 * L + 1) (by omega)) (by omega))
  have hIn := fun W u v (h1 : IsBig W u (2 ^ (64 * L) % V)) (h2 : IsBig W v V) => rInverse u v _ V W h1 h2 hV (Nat.le_trans (dlen_mono (Nat.mod_le _ _)) (Nat.le_trans (dlen_two (64 * L) (2 * L + 1) (by omega)) (by omega))) (by omega)
  have HG := toHid hg
  clear hOm hx0 hx1 k0 k1 hg
  go_wp2_with fail
  go_region_with (first
    | (go_at_call 32; refine (hS1 _).mono ?_; rintro e w2 ⟨v2, rfl, hb2, _, k2⟩; have hc2 := k2.cellN (show (World.drew w1).cell? _ = _ from p0))
    | (go_at_call 46; refine (hSh _ _ ?_).mono ?_; (exact hb2); rintro e w3 ⟨v3, rfl, hb3, _, k3⟩; have hc3 := k3.cellN hc2)
    | (go_at_call 45; refine (hMo _ _ _ ?_ ?_).mono ?_; (exact hb3); (exact (((hb1.grew (Kept.refl Nought w1).drew).grew k2).grew k3)); rintro e w4 ⟨v4, rfl, hb4, _, k4⟩))
  all_goals
    have hb14 := (((hb1.grew (Kept.refl Nought w1).drew).grew k2).grew k3).grew k4
    have k4' := ((kk.drew.trans k2).trans k3).trans k4
    clear hSh hMo hb2 hb3 k2 k3 k4 hc2 hc3 hb1 kk p0
    go_wp2_with fail
    refine (hIn _ _ _ hb4 hb14).mono ?_
    rintro e w5 ⟨v5, rfl, h5, _, _, k5⟩
    go_wp2
    go_ret
    obtain ⟨T, hT1, hT2, hT3⟩ := h5 HG.out
    exact ⟨_, rfl, ⟨T, hT1, by rw [← hT2, Nat.mod_mul_mod], hT3⟩, k4'.trans k5⟩

end Go.Proofs.YtoieghgaahfciaaGreat
