/- Package mont: squareOfR. -/
import Derived.Test.YtpgccioblgcjaaaMonI
import Derived.Lib.RabinKarpLaws
namespace Go.Proofs.Ytpgccioblgcjaaa
open Go.RowKit

/-- A power of 2 in Montgomery's form: one bit of the exponent more. -/
theorem sq_bit {P V Y E s : Nat} (hc : Nat.Coprime P V) (hY : Y < V) (h : P * Y % V = (P * 2 ^ (E / 2 ^ (s + 1)) % V) * (P * 2 ^ (E / 2 ^ (s + 1)) % V) % V) :
    (E / 2 ^ s % 2 = 0 → Y = P * 2 ^ (E / 2 ^ s) % V) ∧ (E / 2 ^ s % 2 = 1 → 2 * Y % V = P * 2 ^ (E / 2 ^ s) % V) := by
  have e := sq_num hc hY h
  have h2 : E / 2 ^ (s + 1) = E / 2 ^ s / 2 := by rw [Nat.pow_succ, Nat.div_div_eq_div_mul]
  rw [h2] at e
  generalize E / 2 ^ s = d at *
  constructor
  · intro h0
    rw [e, show 2 * (d / 2) = d by omega]
  · intro h1
    rw [e, dbl_num]
    rw [show d = 2 * (d / 2) + 1 by omega]
    rw [show 2 * ((2 * (d / 2) + 1) / 2) = 2 * (d / 2) by omega, Nat.pow_succ]
    congr 1
    generalize 2 ^ (2 * (d / 2)) = q
    grind

theorem and_one_i64 (i : Nat) (hi : i < 9223372036854775808) : bits BinOp.and IntKind.i64 (i : Int) 1 = ((i % 2 : Nat) : Int) := Go.Proofs.and_one i hi

set_option maxRecDepth 20000 in
set_option maxHeartbeats 2000000 in
/-- squareOfR. -/
theorem mSquare (ao bo : Option Addr) (n mcap rl rcap V Y K : Nat) (ms : List Nat) (w : World) (hm : Row .u64 w (.slice ao n mcap) ms) (hdm : Digs 18446744073709551616 ms) (hn0 : 0 < n) (hn : n ≤ 130) (hV : V = val 18446744073709551616 ms) (hV1 : 18446744073709551616 ^ (n - 1) < V) (hodd : V % 2 = 1) (hgood : (V * K + 1) % 18446744073709551616 = 0) (hY : Y = 18446744073709551616 ^ (2 * n) % V) :
    Calls Try.prog 65 #[.agg #[.slice ao n mcap, .int .u64 (K : Nat), .slice bo rl rcap]] w fun e w' => ∃ v', e = .returned v' ∧ Row .u64 w' v' (digs 18446744073709551616 Y n) ∧ Fresh w v' ∧ Kept Nought w w' := by
  obtain ⟨_, _, _, e1, hLm, _, _, _, _⟩ := hm.open
  cases e1
  have hV0 : 0 < V := Nat.lt_of_le_of_lt (Nat.zero_le _) hV1
  have hVn : V < 18446744073709551616 ^ n := by rw [hV, ← hLm.out]; exact val_lt (by omega) hdm
  have hco : Nat.Coprime (18446744073709551616 ^ n) V := by rw [B64]; exact (odd_coprime hodd).symm
  obtain ⟨W, hW⟩ : ∃ W, W = w.alloc (.cells #[.slice ao n mcap, .int .u64 (K : Nat), .slice bo rl rcap] 28) := ⟨_, rfl⟩
  have k0 : Kept Nought w W := by rw [hW]; exact (Kept.refl Nought w).alloc _
  have hx0 : W.heap[w.heap.size]? = some (.cells #[.slice ao n mcap, .int .u64 (K : Nat), .slice bo rl rcap] 28 (0, 0)) := by rw [hW]; exact heap_alloc_new _ _
  obtain ⟨E, hE⟩ : ∃ E, E = 64 * n := ⟨_, rfl⟩
  obtain ⟨l, hl⟩ : ∃ l, l = blen E := ⟨_, rfl⟩
  have hl64 : l ≤ 14 := by rw [hl]; exact (blen_le E 14).2 (by omega)
  have hEl : E < 2 ^ l := (blen_le E l).1 (by omega)
  have hRe := mRest ao bo n mcap rl rcap V _ (K : Nat) ms W (hm.grew k0) hdm hn0 hn hV hV1 rfl
  have HLen : Hid (∀ W', Calls Try.prog 83 #[.int .u64 (E : Int)] W' fun e w' => e = .returned (.int .i64 (l : Int)) ∧ w' = W') := fun W' => by
    have := bLen E (by omega) W'
    rw [← hl] at this
    exact this
  have HDb : Hid (∀ W' xo xc X, X < V → Kept Nought W W' → Row .u64 W' (.slice xo n xc) (digs 18446744073709551616 X n) → Calls Try.prog 84 #[.agg #[.slice ao n mcap, .int .u64 (K : Nat), .slice bo rl rcap], .slice xo n xc] W' fun e w' => ∃ v', e = .returned v' ∧ Row .u64 w' v' (digs 18446744073709551616 (2 * X % V) n) ∧ Fresh W v' ∧ Kept Nought W w') := fun W' xo xc X hX kk hr => by
    have hXm : val 18446744073709551616 (digs 18446744073709551616 X n) = X := by rw [val_digs, Nat.mod_eq_of_lt (Nat.lt_trans hX hVn)]
    refine (mDoubled ao bo xo n mcap rl rcap xc V (2 * X % V) K _ ms W' hr (hm.grew (k0.trans kk)) (digs_digs (by omega) _ _) hdm (by omega) hV (by rw [hXm]; exact hX) (by rw [hXm])).mono ?_
    rintro e w' ⟨v', rfl, h1, hf, h2⟩
    exact ⟨v', rfl, h1, hf.after kk, kk.trans h2⟩
  have HTi : Hid (∀ W' xo xc X, X < V → Kept Nought W W' → Row .u64 W' (.slice xo n xc) (digs 18446744073709551616 X n) → Calls Try.prog 50 #[.pointer none, .agg #[.slice ao n mcap, .int .u64 (K : Nat), .slice bo rl rcap], .slice xo n xc, .slice xo n xc] W' fun e w' => ∃ v', e = .returned v' ∧ Kept Nought W w' ∧ Fresh W v' ∧ ∃ Z, Z < V ∧ 18446744073709551616 ^ n * Z % V = X * X % V ∧ Row .u64 w' v' (digs 18446744073709551616 Z n)) := fun W' xo xc X hX kk hr => by
    have hXm : val 18446744073709551616 (digs 18446744073709551616 X n) = X := by rw [val_digs, Nat.mod_eq_of_lt (Nat.lt_trans hX hVn)]
    refine (mTimes none n K mcap rl rcap xc xc ao bo xo xo _ _ ms W' (TrRoom.none _ _ (by omega)) (RowT.none hr) (RowT.none hr) (RowT.none (hm.grew (k0.trans kk))) (digs_digs (by omega) _ _) (digs_digs (by omega) _ _) hdm hn).mono ?_
    rintro e w' ⟨v', rfl, Z, o', h1, h2, h3⟩
    rw [hXm, ← hV] at h2
    have hXX : X * X < V * 18446744073709551616 ^ n := Nat.mul_lt_mul_of_lt_of_le hX (Nat.le_of_lt (Nat.lt_trans hX hVn)) (Nat.pow_pos (by omega))
    obtain ⟨z1, z2⟩ := h2 hgood hn0 hXX
    exact ⟨v', rfl, kk.trans h3.none.2, Fresh.own h1 kk.size, Z, z1, z2, own_row' h1 (digs_length _ _ _)⟩
  obtain ⟨p0, p1, p2⟩ := cells3 hx0
  have HW := toHid hW
  have HX := toHid hx0
  have HK0 := toHid k0
  have HCo := toHid hco
  have HEl := toHid hEl
  have HY : Hid (18446744073709551616 ^ n * 2 ^ (E / 2 ^ 0) % V = Y) := by
    unfold Hid
    rw [hY, Nat.pow_zero, Nat.div_one, hE, ← B64, ← Nat.pow_add, Nat.two_mul]
  have gE : (64 : Int) * (n : Int) = (E : Int) := by omega
  have hEb : E ≤ 10000 := by omega
  clear hW hx0 k0 hm hdm hV hV1 hY hVn hl hEl hE hco hgood hodd
  go_enter Try.func65, Try.ntmps65
  go_wp2_with (rw [← HW.out])
  refine hRe.mono ?_
  rintro e w1 ⟨v1, rfl, hr1, f1, k1⟩
  obtain ⟨yo, yn, yc, rfl, hL5, _, _, _, _⟩ := hr1.open
  obtain rfl : yn = n := by rw [← hL5.out, digs_length]
  have q0 := k1.cellN p0
  have q1 := k1.cellN p1
  have q2 := k1.cellN p2
  have HR1 := toHid hr1
  have HF1 := toHid f1
  have HK1 := toHid k1
  clear hRe p0 p1 p2 hr1 k1 f1 hL5
  go_wp2_with fail
  refine (HLen.out _).mono ?_
  rintro e w2 ⟨rfl, rfl⟩
  go_wp2_with fail
  clear q0 q1 q2
  go_loopw [3, 17] (fun rv i wr => ∃ (k : Nat) (xo : Option Addr) (xc : Nat), k ≤ l ∧ i = .int .i64 (k : Int) ∧ rv = .slice xo yn xc ∧ Hid (Row .u64 wr (.slice xo yn xc) (digs 18446744073709551616 (18446744073709551616 ^ yn * 2 ^ (E / 2 ^ (l - k)) % V) yn)) ∧ Hid (Fresh W (.slice xo yn xc)) ∧ Hid (Kept Nought W wr)) (fun _ i _ => l - (intOf i).toNat)
  case atStart => exact ⟨0, _, _, by omega, rfl, rfl, by unfold Hid; rw [Nat.sub_zero, Nat.div_eq_of_lt HEl.out, Nat.pow_zero, Nat.mul_one]; exact HR1.out, HF1.out, HK1.out⟩
  case round =>
    obtain ⟨k, xo, xc, hk, rfl, rfl, HR, HF, HK⟩ := hrel
    clear HR1 HK1 HF1
    by_cases hk6 : k < l
    · have g1 : (k : Int) < (l : Int) := by omega
      obtain ⟨q0, q1, q2⟩ := cells3 ((HK.out.block _ (lt_of_block HX.out) (fun f => f)).trans HX.out)
      have hT := HTi.out wr xo xc _ (Nat.mod_lt _ hV0) HK.out HR.out
      obtain ⟨s, hs⟩ : ∃ s, s = l - 1 - k := ⟨_, rfl⟩
      rw [show l - k = s + 1 by omega] at hT
      have gs : (l : Int) - 1 - (k : Int) = (s : Int) := by omega
      go_wp2_with fail
      refine hT.mono ?_
      rintro e w5 ⟨v5, rfl, k5, f5, Z, z1, z2, hr5⟩
      obtain ⟨b0, b1⟩ := sq_bit HCo.out z1 z2
      obtain ⟨zo, zn, zc, rfl, hL5, _, _, _, _⟩ := hr5.open
      obtain rfl : zn = yn := by rw [← hL5.out, digs_length]
      obtain ⟨r0, r1, r2⟩ := cells3 ((k5.block _ (lt_of_block HX.out) (fun f => f)).trans HX.out)
      have HR5 := toHid hr5
      have HF5 := toHid f5
      have HK5 := toHid k5
      have B0 := toHid b0
      have B1 := toHid b1
      have HS := toHid hs
      clear hT q0 q1 q2 hr5 k5 f5 b0 b1 z2 hL5 hs
      have hD := HDb.out w5 zo zc Z z1 HK5.out HR5.out
      have hsk : l - (k + 1) = s := by have := HS.out; omega
      have hband := and_one_i64 (E / 2 ^ s) (by have := Nat.div_le_self E (2 ^ s); omega)
      have hcast : ((E / 2 ^ s : Nat) : Int) = (E : Int) / 2 ^ s := by simp
      rw [hcast] at hband
      clear hcast
      have hm2 : E / 2 ^ s % 2 = 0 ∨ E / 2 ^ s % 2 = 1 := by omega
      rcases hm2 with hm2 | hm2
      · rw [hm2] at hband
        have e0 := B0.out hm2
        clear hm2 B0 B1 hD
        go_wp2_with fail
        go_roundw
        case rel => exact ⟨k + 1, zo, zc, by omega, by go_num, rfl, by unfold Hid; rw [hsk, ← e0]; exact HR5.out, HF5.out, HK5.out⟩
        case measure => simp [intOf]; omega
      · rw [hm2] at hband
        have e1 := B1.out hm2
        clear hm2 B0 B1
        go_wp2_with fail
        refine hD.mono ?_
        rintro e w6 ⟨v6, rfl, hr6, f6, k6⟩
        obtain ⟨xo6, xn6, xc6, rfl, hL6, _, _, _, _⟩ := hr6.open
        obtain rfl : xn6 = zn := by rw [← hL6.out, digs_length]
        have HR6 := toHid hr6
        have HF6 := toHid f6
        have HK6 := toHid k6
        have E1 := toHid e1
        clear hD hr6 k6 f6 hL6 r0 r1 r2 e1
        go_wp2_with fail
        go_roundw
        case rel => exact ⟨k + 1, xo6, xc6, by omega, by go_num, rfl, by unfold Hid; rw [hsk, ← E1.out]; exact HR6.out, HF6.out, HK6.out⟩
        case measure => simp [intOf]; omega
    · have g1 : ¬ (k : Int) < (l : Int) := by omega
      obtain rfl : k = l := by omega
      go_wp2_with fail
      go_ret
      refine ⟨_, rfl, ?_, HF.out.after HK0.out, HK0.out.trans HK.out⟩
      have := HR.out
      rw [Nat.sub_self, HY.out] at this
      exact this

end Go.Proofs.Ytpgccioblgcjaaa
