/- Put together of: Mon4. -/
import Derived.Test.YtldbfcifoijliaaGreatDoorPk5
import Derived.Test.YtldbfcifoijliaaGreatDoorPk10
import Derived.Test.YtldbfcifoijliaaGreatDoorPk13
import Derived.Test.YtldbfcifoijliaaGreatDoorPk14
import Derived.Test.YtldbfcifoijliaaGreatDoorPk15
import Derived.Lib.SliceRun
import Derived.Lib.LazyBuf
import Derived.Lib.RabinKarpLaws

/- Melted of: MonH MonI MonJ MonK MonL. -/

/- Package mont: what Setup calls: slices.Clone, bits.Len, doubled, restOfR. -/
namespace Go.Proofs.YtldbfcifoijliaaGreatDoor
open Go.RowKit

/-- v lies in memory that is new since w. -/
def Fresh (w : World) (v : Value) : Prop := ∀ b, v.ownBlock = some b → w.heap.size ≤ b

theorem Fresh.after {w W : World} {v : Value} (h : Fresh W v) (k : Kept Nought w W) : Fresh w v := fun b hb => Nat.le_trans k.size (h b hb)

theorem Fresh.own {w W : World} {base n : Nat} {v : Value} {zs : List Nat} (h : OwnN .u64 24 W base v n zs) (hb : w.heap.size ≤ base) : Fresh w v := fun b hb' => Nat.le_trans hb (h.lt b hb').1

set_option maxHeartbeats 2000000 in
set_option maxRecDepth 20000 in
/-- slices.Clone. -/
theorem mClone (b off n c : Nat) (xs : List Nat) (w : World) (h : Row .u64 w (.slice (some ⟨b, off, none⟩) n c) xs) (hn : n ≤ 1000000) :
    Calls Tryz.prog 52 #[.slice (some ⟨b, off, none⟩) n c] w fun e w' => ∃ v', e = .returned v' ∧ Row .u64 w' v' xs ∧ Fresh w v' ∧ Kept Nought w w' := by
  obtain ⟨i0, hi0, hz0, hz1, hz2⟩ := info_parts Tryz.info24
  obtain ⟨_, _, _, e1, hL, _, _, _, _⟩ := h.open
  cases e1
  have hq : ∀ (w : World) (a : Option Addr) (n c : Nat), (binOp .eql 23 (.slice a n c) (.slice none 0 0)).run Tryz.prog w = .ok (.bool a.isNone) w := fun w a n c => Lib.run_eql_slice_nil w _ _ a n c _ _ Tryz.underlying23
  have HS : Hid (∀ W, Kept Nought w W → ∀ j u, (xs.map fun z : Nat => Value.int .u64 (z : Int))[j]? = some u → W.cell? ((⟨b, off, none⟩ : Addr).add j) = some u) := fun W k j u hj => by
    obtain ⟨ad, e, hs⟩ := h.source k (by
      rw [List.length_map]
      have := (List.getElem?_eq_some_iff.1 hj).1
      rw [List.length_map] at this
      omega)
    cases e
    exact hs j u hj
  have HO := toHid (ints_one .u64 xs)
  have k0 : Kept Nought w (w.alloc (.cells #[] 24)) := (Kept.refl Nought w).alloc _
  clear h
  go_enter Tryz.func52, Tryz.ntmps52
  go_wp2_with (at_builtin; refine wpList_append_own _ rfl _ _ 23 rfl w.heap.size 24 i0 (.int .u64 0) 1 8 Tryz.underlying23 hi0 hz0 hz1 hz2 rfl (by decide) _ _ _ rfl (World.ownsRow_made w #[] 0 (Nat.le_refl _) (Nat.zero_le _) rfl) ⟨b, off, none⟩ n c (xs.map fun z : Nat => Value.int .u64 (z : Int)) rfl ?qc1 ?qc2 ?qc3 ?qc4 ?qc5 ?qc6 ?_)
  case qc1 => rw [List.length_map, hL.out]; simp
  case qc2 => exact HS.out _ k0
  case qc3 => exact HO.out
  case qc4 => unfold maxLen; omega
  case qc5 => omega
  case qc6 => simp
  intro v' w1 hown hgrow hnil
  have k1 : Kept Nought w w1 := k0.grown hgrow (fun k hk hlt => by simp [Value.ownBlock] at hk; omega)
  go_wp2
  go_ret
  exact ⟨v', rfl, Row.of_own (base := w.heap.size) (e := 24) (by rw [hL.out]; simpa using hown), (fun b hb => (hown.lt b hb).1), k1⟩

set_option maxHeartbeats 400000 in
/-- bits.Len. -/
theorem bLen (y : Nat) (hy : y < 18446744073709551616) (w : World) :
    Calls Tryz.prog 92 #[.int .u64 (y : Nat)] w fun e w' => e = .returned (.int .i64 (blen y : Nat)) ∧ w' = w := by
  have hLen := Any.bits_Len64 l129 (y : Int) w (by omega) (by omega)
  rw [show ((y : Int).toNat) = y from rfl, bitLen_blen y hy] at hLen
  generalize blen y = M at *
  go_enter Tryz.func92, Tryz.ntmps92
  go_wp2_with fail
  refine hLen.mono ?_
  rintro e w' ⟨rfl, rfl⟩
  go_wp2
  go_ret
  exact ⟨rfl, rfl⟩

set_option maxRecDepth 20000 in
set_option maxHeartbeats 2000000 in
/-- doubled. -/
theorem mDoubled (ao bo xo : Option Addr) (n mcap rl rcap xc V Y : Nat) (K : Int) (xs ms : List Nat) (w : World) (hx : Row .u64 w (.slice xo n xc) xs) (hm : Row .u64 w (.slice ao n mcap) ms) (hdx : Digs 18446744073709551616 xs) (hdm : Digs 18446744073709551616 ms) (hn : n ≤ 100000) (hV : V = val 18446744073709551616 ms) (hX : val 18446744073709551616 xs < V) (hY : Y = 2 * val 18446744073709551616 xs % V) :
    Calls Tryz.prog 93 #[.agg #[.slice ao n mcap, .int .u64 K, .slice bo rl rcap], .slice xo n xc] w fun e w' => ∃ v', e = .returned v' ∧ Row .u64 w' v' (digs 18446744073709551616 Y n) ∧ Fresh w v' ∧ Kept Nought w w' := by
  obtain ⟨_, _, _, e1, hLx, _, _, _, _⟩ := hx.open
  cases e1
  obtain ⟨_, _, _, e1, hLm, _, _, _, _⟩ := hm.open
  cases e1
  have hVn : V < 18446744073709551616 ^ n := by rw [hV, ← hLm.out]; exact val_lt (by omega) hdm
  obtain ⟨W, hW⟩ : ∃ W, W = w.alloc (.cells #[.slice ao n mcap, .int .u64 K, .slice bo rl rcap] 52) := ⟨_, rfl⟩
  have k0 : Kept Nought w W := by rw [hW]; exact (Kept.refl Nought w).alloc _
  have hx0 : W.heap[w.heap.size]? = some (.cells #[.slice ao n mcap, .int .u64 K, .slice bo rl rcap] 52 (0, 0)) := by rw [hW]; exact heap_alloc_new _ _
  have hLf := lLeft none (.slice xo n xc) xs 0 (by omega) W (TrRoom.none _ _ (by omega)) (RowT.none (hx.grew k0)) hdx (by rw [hLx.out]; omega)
  rw [hLx.out, show (0 : Nat) % 2 = 0 from rfl, Nat.add_zero, show trPtr none = .pointer none from rfl] at hLf
  obtain ⟨X, hXX⟩ : ∃ X, X = val 18446744073709551616 xs := ⟨_, rfl⟩
  rw [← hXX] at hLf hX hY
  obtain ⟨c, hc⟩ : ∃ c, c = 2 * X / 18446744073709551616 ^ n := ⟨_, rfl⟩
  rw [← hc] at hLf
  have hc1 : c ≤ 1 := by
    have : 2 * X / 18446744073709551616 ^ n < 2 := by
      rw [Nat.div_lt_iff_lt_mul (Nat.pow_pos (by omega))]
      omega
    omega
  have hle : lesY (2 * X % 18446744073709551616 ^ n) V c n = Y := by
    have e : 2 * X % 18446744073709551616 ^ n + 18446744073709551616 ^ n * c = 2 * X := by rw [hc]; exact Nat.mod_add_div _ _
    rw [les_ok (Nat.mod_lt _ (Nat.pow_pos (by omega))) hVn hc1 (by omega), e, hY]
  have HS : Hid (∀ W' v', Kept Nought W W' → Row .u64 W' v' (digs 18446744073709551616 (2 * X) n) → Calls Tryz.prog 103 #[.pointer none, .agg #[.slice ao n mcap, .int .u64 K, .slice bo rl rcap], v', .int .u64 (c : Nat)] W' fun e w' => ∃ v2, e = .returned v2 ∧ Row .u64 w' v2 (digs 18446744073709551616 Y n) ∧ Fresh w v2 ∧ Kept Nought w w') := fun W' v' k hr => by
    have := mLess none ao bo n mcap rl rcap c K v' _ ms W' (TrRoom.none _ _ (by omega)) (RowT.none hr) (digs_length _ _ _) (RowT.none (hm.grew (k0.trans k))) (digs_digs (by omega) _ _) hdm hc1 hn
    rw [val_digs, ← hV, hle] at this
    refine this.mono ?_
    rintro e w' ⟨v2, rfl, ho, o', d⟩
    exact ⟨v2, rfl, own_row' ho (digs_length _ _ _), Fresh.own ho (k0.trans k).size, (k0.trans k).trans d.none.2⟩
  obtain ⟨p0, p1, p2⟩ := cells3 hx0
  have HW := toHid hW
  clear hx hm hdx hdm hLx hLm hV hVn hX hY hXX hc hle k0 hx0 hW
  go_enter Tryz.func93, Tryz.ntmps93
  go_wp2_with (rw [← HW.out])
  refine hLf.mono ?_
  rintro e w1 ⟨v1, rfl, ho1, o1, d1⟩
  have k1 := d1.none.2
  have q0 := k1.cellN p0
  have q1 := k1.cellN p1
  have q2 := k1.cellN p2
  have hL := HS.out w1 v1 k1 (own_row' ho1 (digs_length _ _ _))
  clear hLf p0 p1 p2 ho1 d1
  go_wp2_with fail
  refine hL.mono ?_
  rintro e w2 ⟨v2, rfl, hr2, n2, k2⟩
  go_wp2_with fail
  go_ret
  exact ⟨v2, rfl, hr2, n2, k2⟩

end Go.Proofs.YtldbfcifoijliaaGreatDoor

/- Package mont: restOfR, squareOfR. -/
namespace Go.Proofs.YtldbfcifoijliaaGreatDoor
open Go.RowKit

set_option maxRecDepth 20000 in
set_option maxHeartbeats 2000000 in
/-- restOfR. -/
theorem mRest (ao bo : Option Addr) (n mcap rl rcap V Y : Nat) (K : Int) (ms : List Nat) (w : World) (hm : Row .u64 w (.slice ao n mcap) ms) (hdm : Digs 18446744073709551616 ms) (hn0 : 0 < n) (hn : n ≤ 130) (hV : V = val 18446744073709551616 ms) (hV1 : 18446744073709551616 ^ (n - 1) < V) (hY : Y = 18446744073709551616 ^ n % V) :
    Calls Tryz.prog 91 #[.agg #[.slice ao n mcap, .int .u64 K, .slice bo rl rcap]] w fun e w' => ∃ v', e = .returned v' ∧ Row .u64 w' v' (digs 18446744073709551616 Y n) ∧ Fresh w v' ∧ Kept Nought w w' := by
  obtain ⟨i0, hi0, hz0, hz1, hz2⟩ := info_parts Tryz.info24
  obtain ⟨_, _, _, e1, hLm, _, _, _, _⟩ := hm.open
  cases e1
  have hVn : V < 18446744073709551616 ^ n := by rw [hV, ← hLm.out]; exact val_lt (by omega) hdm
  obtain ⟨W, hW⟩ : ∃ W, W = w.alloc (.cells #[.slice ao n mcap, .int .u64 K, .slice bo rl rcap] 52) := ⟨_, rfl⟩
  have k0 : Kept Nought w W := by rw [hW]; exact (Kept.refl Nought w).alloc _
  have hx0 : W.heap[w.heap.size]? = some (.cells #[.slice ao n mcap, .int .u64 K, .slice bo rl rcap] 52 (0, 0)) := by rw [hW]; exact heap_alloc_new _ _
  have HDb : Hid (∀ W' xo xc k, Kept Nought W W' → Row .u64 W' (.slice xo n xc) (digs 18446744073709551616 (18446744073709551616 ^ (n - 1) * 2 ^ k % V) n) → Calls Tryz.prog 93 #[.agg #[.slice ao n mcap, .int .u64 K, .slice bo rl rcap], .slice xo n xc] W' fun e w' => ∃ v', e = .returned v' ∧ Row .u64 w' v' (digs 18446744073709551616 (18446744073709551616 ^ (n - 1) * 2 ^ (k + 1) % V) n) ∧ Fresh W v' ∧ Kept Nought W w') := fun W' xo xc k kk hr => by
    have hlt : 18446744073709551616 ^ (n - 1) * 2 ^ k % V < V := Nat.mod_lt _ (Nat.lt_of_le_of_lt (Nat.zero_le _) hV1)
    refine (mDoubled ao bo xo n mcap rl rcap xc V (18446744073709551616 ^ (n - 1) * 2 ^ (k + 1) % V) K _ ms W' hr (hm.grew (k0.trans kk)) (digs_digs (by omega) _ _) hdm (by omega) hV (by rw [val_digs, Nat.mod_eq_of_lt (Nat.lt_trans hlt hVn)]; exact hlt) ?_).mono ?_
    · rw [val_digs, Nat.mod_eq_of_lt (Nat.lt_trans hlt hVn), dbl_num, Nat.pow_succ]
      congr 1
      generalize 18446744073709551616 ^ (n - 1) = p
      generalize 2 ^ k = q
      grind
    · rintro e w' ⟨v', rfl, h1, hf, h2⟩
      exact ⟨v', rfl, h1, hf.after kk, kk.trans h2⟩
  obtain ⟨p0, p1, p2⟩ := cells3 hx0
  have HW := toHid hW
  have HX := toHid hx0
  have HK0 := toHid k0
  have HI : Hid ((List.replicate n 0).set (n - 1) 1 = digs 18446744073709551616 (18446744073709551616 ^ (n - 1) * 2 ^ 0 % V) n) := by
    unfold Hid
    obtain ⟨m, rfl⟩ : ∃ m, n = m + 1 := ⟨n - 1, by omega⟩
    rw [Nat.add_sub_cancel] at hV1 ⊢
    rw [Nat.pow_zero, Nat.mul_one, Nat.mod_eq_of_lt hV1]
    refine digs_val (by omega) ?_ (by simp) ?_
    · intro d hd
      rcases List.mem_or_eq_of_mem_set hd with h | h
      · rw [(List.mem_replicate.1 h).2]; omega
      · omega
    · rw [List.replicate_succ', List.set_append_right _ _ (by simp), List.length_replicate, Nat.sub_self, List.set_cons_zero, val_snoc, val_zeros _ (fun d hd => (List.mem_replicate.1 hd).2), List.length_replicate, Nat.mod_eq_of_lt (Nat.pow_lt_pow_right (by omega) (by omega))]
      omega
  have HY : Hid (18446744073709551616 ^ (n - 1) * 2 ^ 64 % V = Y) := by
    unfold Hid
    obtain ⟨m, rfl⟩ : ∃ m, n = m + 1 := ⟨n - 1, by omega⟩
    rw [hY, Nat.add_sub_cancel, Nat.pow_succ 18446744073709551616 m]
  have hn1 : n - 1 < n := by omega
  have gn : (n : Int) - 1 = ((n - 1 : Nat) : Int) := by omega
  have gn2 : ((n - 1 : Nat) : Int) < (n : Int) := by omega
  clear hW hx0 k0 hm hdm hV hV1 hY hVn
  go_enter Tryz.func91, Tryz.ntmps91
  go_wp2_with (at_make; rw [← HW.out]; refine wpList_make_full _ rfl _ _ 23 rfl W.heap.size 24 i0 _ 1 Tryz.underlying23 hi0 hz0 hz1 _ _ _ _ n rfl rfl rfl rfl (by rw [hz2]; omega) (by unfold maxLen; omega) (Nat.le_refl _) ?_; intro w3 ho3 hg3; rw [zeros_map] at ho3; have k3 := grown_kept hg3; have hc3 := World.ownsRow.cellAt ho3 (n - 1) (by omega); have hf3 := World.ownsRow.frozenAt ho3 (n - 1); rw [List.getElem?_map, List.getElem?_replicate, if_pos hn1] at hc3; clear hg3)
  have ho4 : OwnN .u64 24 (w3.setCell ⟨W.heap.size, n - 1, none⟩ (.int .u64 1)) W.heap.size (.slice (some ⟨W.heap.size, 0, none⟩) n n) n (digs 18446744073709551616 (18446744073709551616 ^ (n - 1) * 2 ^ 0 % V) n) := by
    have := (World.ownsRow.stored ho3 (n - 1) (.int .u64 1)).1
    unfold OwnN
    rw [← HI.out, List.map_set]
    exact this
  have hr4 := own_row' ho4 (digs_length _ _ _)
  have k4 : Kept Nought W (w3.setCell ⟨W.heap.size, n - 1, none⟩ (.int .u64 1)) := kept_new k3 ((Kept.refl (fun b => b = W.heap.size) w3).setCell ⟨W.heap.size, n - 1, none⟩ (fun _ => rfl) _) (Nat.le_refl _)
  generalize w3.setCell ⟨W.heap.size, n - 1, none⟩ (.int .u64 1) = w4 at *
  have HR4 := toHid hr4
  have HF4 : Hid (Fresh W (.slice (some ⟨W.heap.size, 0, none⟩) n n)) := Fresh.own ho4 (Nat.le_refl _)
  have HK4 := toHid k4
  clear ho4 ho3 hc3 hf3 k3 p0 p1 p2 hr4 k4 HI
  go_loopw [4, 14] (fun rv i wr => ∃ (k : Nat) (xo : Option Addr) (xc : Nat), k ≤ 64 ∧ i = .int .i64 (k : Int) ∧ rv = .slice xo n xc ∧ Hid (Row .u64 wr (.slice xo n xc) (digs 18446744073709551616 (18446744073709551616 ^ (n - 1) * 2 ^ k % V) n)) ∧ Hid (Fresh W (.slice xo n xc)) ∧ Hid (Kept Nought W wr)) (fun _ i _ => 64 - (intOf i).toNat)
  case atStart => exact ⟨0, _, _, by omega, rfl, rfl, HR4.out, HF4.out, HK4.out⟩
  case round =>
    obtain ⟨k, xo, xc, hk, rfl, rfl, HR, HF, HK⟩ := hrel
    by_cases hk6 : k < 64
    · have g1 : (k : Int) < 64 := by omega
      obtain ⟨q0, q1, q2⟩ := cells3 ((HK.out.block _ (lt_of_block HX.out) (fun f => f)).trans HX.out)
      have hD := HDb.out wr xo xc k HK.out HR.out
      go_wp2_with fail
      refine hD.mono ?_
      rintro e w5 ⟨v5, rfl, hr5, f5, k5⟩
      obtain ⟨yo, yn, yc, rfl, hL5, _, _, _, _⟩ := hr5.open
      obtain rfl : yn = n := by rw [← hL5.out, digs_length]
      have HR5 := toHid hr5
      have HF5 := toHid f5
      have HK5 := toHid k5
      clear hD hr5 k5 f5 q0 q1 q2 hL5
      go_wp2_with fail
      go_roundw
      case rel => exact ⟨k + 1, yo, yc, by omega, by go_num, rfl, HR5.out, HF5.out, HK5.out⟩
      case measure => simp [intOf]; omega
    · have g1 : ¬ (k : Int) < 64 := by omega
      obtain rfl : k = 64 := by omega
      go_wp2_with fail
      go_ret
      refine ⟨_, rfl, ?_, HF.out.after HK0.out, HK0.out.trans HK.out⟩
      have := HR.out
      rw [HY.out] at this
      exact this

end Go.Proofs.YtldbfcifoijliaaGreatDoor

/- Package mont: squareOfR. -/
namespace Go.Proofs.YtldbfcifoijliaaGreatDoor
open Go.RowKit

/-- A power of 2 in Montgomery's form: one bit of the exponent more. -/
theorem sq_bit {P V Y E s : Nat} (hc : Nat.Coprime P V) (hY : Y < V) (h : P * Y % V = (P * 2 ^ (E / 2 ^ (s + 1)) % V) * (P * 2 ^ (E / 2 ^ (s + 1)) % V) % V) :
    (E / 2 ^ s % 2 = 0 → Y = P * 2 ^ (E / 2 ^ s) % V) ∧ (E / 2 ^ s % 2 = 1 → 2 * Y % V = P * 2 ^ (E / 2 ^ s) % V) := by
  have e := sq_num hc hY h
  have h2 : E / 2 ^ (s + 1) = E / 2 ^ s / 2 := by rw [Nat.pow_succ, Nat.div_div_eq_div_mul]
  rw [h2] at e
  generalize E / 2 ^ s = d at *
  constructor
  · intro h0
    rw [e, show 2 * (d / 2) = d by omega]
  · intro h1
    rw [e, dbl_num]
    rw [show d = 2 * (d / 2) + 1 by omega]
    rw [show 2 * ((2 * (d / 2) + 1) / 2) = 2 * (d / 2) by omega, Nat.pow_succ]
    congr 1
    generalize 2 ^ (2 * (d / 2)) = q
    grind

theorem and_one_i64 (i : Nat) (hi : i < 9223372036854775808) : bits BinOp.and IntKind.i64 (i : Int) 1 = ((i % 2 : Nat) : Int) := Go.Proofs.and_one i hi

set_option maxRecDepth 20000 in
set_option maxHeartbeats 2000000 in
/-- squareOfR. -/
theorem mSquare (ao bo : Option Addr) (n mcap rl rcap V Y K : Nat) (ms : List Nat) (w : World) (hm : Row .u64 w (.slice ao n mcap) ms) (hdm : Digs 18446744073709551616 ms) (hn0 : 0 < n) (hn : n ≤ 130) (hV : V = val 18446744073709551616 ms) (hV1 : 18446744073709551616 ^ (n - 1) < V) (hodd : V % 2 = 1) (hgood : (V * K + 1) % 18446744073709551616 = 0) (hY : Y = 18446744073709551616 ^ (2 * n) % V) :
    Calls Tryz.prog 70 #[.agg #[.slice ao n mcap, .int .u64 (K : Nat), .slice bo rl rcap]] w fun e w' => ∃ v', e = .returned v' ∧ Row .u64 w' v' (digs 18446744073709551616 Y n) ∧ Fresh w v' ∧ Kept Nought w w' := by
  obtain ⟨_, _, _, e1, hLm, _, _, _, _⟩ := hm.open
  cases e1
  have hV0 : 0 < V := Nat.lt_of_le_of_lt (Nat.zero_le _) hV1
  have hVn : V < 18446744073709551616 ^ n := by rw [hV, ← hLm.out]; exact val_lt (by omega) hdm
  have hco : Nat.Coprime (18446744073709551616 ^ n) V := by rw [B64]; exact (odd_coprime hodd).symm
  obtain ⟨W, hW⟩ : ∃ W, W = w.alloc (.cells #[.slice ao n mcap, .int .u64 (K : Nat), .slice bo rl rcap] 52) := ⟨_, rfl⟩
  have k0 : Kept Nought w W := by rw [hW]; exact (Kept.refl Nought w).alloc _
  have hx0 : W.heap[w.heap.size]? = some (.cells #[.slice ao n mcap, .int .u64 (K : Nat), .slice bo rl rcap] 52 (0, 0)) := by rw [hW]; exact heap_alloc_new _ _
  obtain ⟨E, hE⟩ : ∃ E, E = 64 * n := ⟨_, rfl⟩
  obtain ⟨l, hl⟩ : ∃ l, l = blen E := ⟨_, rfl⟩
  have hl64 : l ≤ 14 := by rw [hl]; exact (blen_le E 14).2 (by omega)
  have hEl : E < 2 ^ l := (blen_le E l).1 (by omega)
  have hRe := mRest ao bo n mcap rl rcap V _ (K : Nat) ms W (hm.grew k0) hdm hn0 hn hV hV1 rfl
  have HLen : Hid (∀ W', Calls Tryz.prog 92 #[.int .u64 (E : Int)] W' fun e w' => e = .returned (.int .i64 (l : Int)) ∧ w' = W') := fun W' => by
    have := bLen E (by omega) W'
    rw [← hl] at this
    exact this
  have HDb : Hid (∀ W' xo xc X, X < V → Kept Nought W W' → Row .u64 W' (.slice xo n xc) (digs 18446744073709551616 X n) → Calls Tryz.prog 93 #[.agg #[.slice ao n mcap, .int .u64 (K : Nat), .slice bo rl rcap], .slice xo n xc] W' fun e w' => ∃ v', e = .returned v' ∧ Row .u64 w' v' (digs 18446744073709551616 (2 * X % V) n) ∧ Fresh W v' ∧ Kept Nought W w') := fun W' xo xc X hX kk hr => by
    have hXm : val 18446744073709551616 (digs 18446744073709551616 X n) = X := by rw [val_digs, Nat.mod_eq_of_lt (Nat.lt_trans hX hVn)]
    refine (mDoubled ao bo xo n mcap rl rcap xc V (2 * X % V) K _ ms W' hr (hm.grew (k0.trans kk)) (digs_digs (by omega) _ _) hdm (by omega) hV (by rw [hXm]; exact hX) (by rw [hXm])).mono ?_
    rintro e w' ⟨v', rfl, h1, hf, h2⟩
    exact ⟨v', rfl, h1, hf.after kk, kk.trans h2⟩
  have HTi : Hid (∀ W' xo xc X, X < V → Kept Nought W W' → Row .u64 W' (.slice xo n xc) (digs 18446744073709551616 X n) → Calls Tryz.prog 83 #[.pointer none, .agg #[.slice ao n mcap, .int .u64 (K : Nat), .slice bo rl rcap], .slice xo n xc, .slice xo n xc] W' fun e w' => ∃ v', e = .returned v' ∧ Kept Nought W w' ∧ Fresh W v' ∧ ∃ Z, Z < V ∧ 18446744073709551616 ^ n * Z % V = X * X % V ∧ Row .u64 w' v' (digs 18446744073709551616 Z n)) := fun W' xo xc X hX kk hr => by
    have hXm : val 18446744073709551616 (digs 18446744073709551616 X n) = X := by rw [val_digs, Nat.mod_eq_of_lt (Nat.lt_trans hX hVn)]
    refine (mTimes none n K mcap rl rcap xc xc ao bo xo xo _ _ ms W' (TrRoom.none _ _ (by omega)) (RowT.none hr) (RowT.none hr) (RowT.none (hm.grew (k0.trans kk))) (digs_digs (by omega) _ _) (digs_digs (by omega) _ _) hdm hn).mono ?_
    rintro e w' ⟨v', rfl, Z, o', h1, h2, h3⟩
    rw [hXm, ← hV] at h2
    have hXX : X * X < V * 18446744073709551616 ^ n := Nat.mul_lt_mul_of_lt_of_le hX (Nat.le_of_lt (Nat.lt_trans hX hVn)) (Nat.pow_pos (by omega))
    obtain ⟨z1, z2⟩ := h2 hgood hn0 hXX
    exact ⟨v', rfl, kk.trans h3.none.2, Fresh.own h1 kk.size, Z, z1, z2, own_row' h1 (digs_length _ _ _)⟩
  obtain ⟨p0, p1, p2⟩ := cells3 hx0
  have HW := toHid hW
  have HX := toHid hx0
  have HK0 := toHid k0
  have HCo := toHid hco
  have HEl := toHid hEl
  have HY : Hid (18446744073709551616 ^ n * 2 ^ (E / 2 ^ 0) % V = Y) := by
    unfold Hid
    rw [hY, Nat.pow_zero, Nat.div_one, hE, ← B64, ← Nat.pow_add, Nat.two_mul]
  have gE : (64 : Int) * (n : Int) = (E : Int) := by omega
  have hEb : E ≤ 10000 := by omega
  clear hW hx0 k0 hm hdm hV hV1 hY hVn hl hEl hE hco hgood hodd
  go_enter Tryz.func70, Tryz.ntmps70
  go_wp2_with (rw [← HW.out])
  refine hRe.mono ?_
  rintro e w1 ⟨v1, rfl, hr1, f1, k1⟩
  obtain ⟨yo, yn, yc, rfl, hL5, _, _, _, _⟩ := hr1.open
  obtain rfl : yn = n := by rw [← hL5.out, digs_length]
  have q0 := k1.cellN p0
  have q1 := k1.cellN p1
  have q2 := k1.cellN p2
  have HR1 := toHid hr1
  have HF1 := toHid f1
  have HK1 := toHid k1
  clear hRe p0 p1 p2 hr1 k1 f1 hL5
  go_wp2_with fail
  refine (HLen.out _).mono ?_
  rintro e w2 ⟨rfl, rfl⟩
  go_wp2_with fail
  clear q0 q1 q2
  go_loopw [3, 17] (fun rv i wr => ∃ (k : Nat) (xo : Option Addr) (xc : Nat), k ≤ l ∧ i = .int .i64 (k : Int) ∧ rv = .slice xo yn xc ∧ Hid (Row .u64 wr (.slice xo yn xc) (digs 18446744073709551616 (18446744073709551616 ^ yn * 2 ^ (E / 2 ^ (l - k)) % V) yn)) ∧ Hid (Fresh W (.slice xo yn xc)) ∧ Hid (Kept Nought W wr)) (fun _ i _ => l - (intOf i).toNat)
  case atStart => exact ⟨0, _, _, by omega, rfl, rfl, by unfold Hid; rw [Nat.sub_zero, Nat.div_eq_of_lt HEl.out, Nat.pow_zero, Nat.mul_one]; exact HR1.out, HF1.out, HK1.out⟩
  case round =>
    obtain ⟨k, xo, xc, hk, rfl, rfl, HR, HF, HK⟩ := hrel
    clear HR1 HK1 HF1
    by_cases hk6 : k < l
    · have g1 : (k : Int) < (l : Int) := by omega
      obtain ⟨q0, q1, q2⟩ := cells3 ((HK.out.block _ (lt_of_block HX.out) (fun f => f)).trans HX.out)
      have hT := HTi.out wr xo xc _ (Nat.mod_lt _ hV0) HK.out HR.out
      obtain ⟨s, hs⟩ : ∃ s, s = l - 1 - k := ⟨_, rfl⟩
      rw [show l - k = s + 1 by omega] at hT
      have gs : (l : Int) - 1 - (k : Int) = (s : Int) := by omega
      go_wp2_with fail
      refine hT.mono ?_
      rintro e w5 ⟨v5, rfl, k5, f5, Z, z1, z2, hr5⟩
      obtain ⟨b0, b1⟩ := sq_bit HCo.out z1 z2
      obtain ⟨zo, zn, zc, rfl, hL5, _, _, _, _⟩ := hr5.open
      obtain rfl : zn = yn := by rw [← hL5.out, digs_length]
      obtain ⟨r0, r1, r2⟩ := cells3 ((k5.block _ (lt_of_block HX.out) (fun f => f)).trans HX.out)
      have HR5 := toHid hr5
      have HF5 := toHid f5
      have HK5 := toHid k5
      have B0 := toHid b0
      have B1 := toHid b1
      have HS := toHid hs
      clear hT q0 q1 q2 hr5 k5 f5 b0 b1 z2 hL5 hs
      have hD := HDb.out w5 zo zc Z z1 HK5.out HR5.out
      have hsk : l - (k + 1) = s := by have := HS.out; omega
      have hband := and_one_i64 (E / 2 ^ s) (by have := Nat.div_le_self E (2 ^ s); omega)
      have hcast : ((E / 2 ^ s : Nat) : Int) = (E : Int) / 2 ^ s := by simp
      rw [hcast] at hband
      clear hcast
      have hm2 : E / 2 ^ s % 2 = 0 ∨ E / 2 ^ s % 2 = 1 := by omega
      rcases hm2 with hm2 | hm2
      · rw [hm2] at hband
        have e0 := B0.out hm2
        clear hm2 B0 B1 hD
        go_wp2_with fail
        go_roundw
        case rel => exact ⟨k + 1, zo, zc, by omega, by go_num, rfl, by unfold Hid; rw [hsk, ← e0]; exact HR5.out, HF5.out, HK5.out⟩
        case measure => simp [intOf]; omega
      · rw [hm2] at hband
        have e1 := B1.out hm2
        clear hm2 B0 B1
        go_wp2_with fail
        refine hD.mono ?_
        rintro e w6 ⟨v6, rfl, hr6, f6, k6⟩
        obtain ⟨xo6, xn6, xc6, rfl, hL6, _, _, _, _⟩ := hr6.open
        obtain rfl : xn6 = zn := by rw [← hL6.out, digs_length]
        have HR6 := toHid hr6
        have HF6 := toHid f6
        have HK6 := toHid k6
        have E1 := toHid e1
        clear hD hr6 k6 f6 hL6 r0 r1 r2 e1
        go_wp2_with fail
        go_roundw
        case rel => exact ⟨k + 1, xo6, xc6, by omega, by go_num, rfl, by unfold Hid; rw [hsk, ← E1.out]; exact HR6.out, HF6.out, HK6.out⟩
        case measure => simp [intOf]; omega
    · have g1 : ¬ (k : Int) < (l : Int) := by omega
      obtain rfl : k = l := by omega
      go_wp2_with fail
      go_ret
      refine ⟨_, rfl, ?_, HF.out.after HK0.out, HK0.out.trans HK.out⟩
      have := HR.out
      rw [Nat.sub_self, HY.out] at this
      exact this

end Go.Proofs.YtldbfcifoijliaaGreatDoor

/- Package mont: prepared. -/
namespace Go.Proofs.YtldbfcifoijliaaGreatDoor
open Go.RowKit

theorem frees3 {W : World} {p : Nat} {a b c : Value} {t : TypeId} (h : W.heap[p]? = some (.cells #[a, b, c] t (0, 0))) : W.frozen? ⟨p, 0, none⟩ = false ∧ W.frozen? ⟨p, 1, none⟩ = false ∧ W.frozen? ⟨p, 2, none⟩ = false := by
  simp [World.frozen?, h]

theorem set3 {W : World} {p : Nat} {a b c : Value} {t : TypeId} (h : W.heap[p]? = some (.cells #[a, b, c] t (0, 0))) (x y z : Value) :
    (W.setCell ⟨p, 0, none⟩ x).heap[p]? = some (.cells #[x, b, c] t (0, 0)) ∧ (W.setCell ⟨p, 1, none⟩ y).heap[p]? = some (.cells #[a, y, c] t (0, 0)) ∧ (W.setCell ⟨p, 2, none⟩ z).heap[p]? = some (.cells #[a, b, z] t (0, 0)) := by
  refine ⟨?_, ?_, ?_⟩
  · have := heap_setCell_same W p 0 #[a, b, c] t x h
    simpa using this
  · have := heap_setCell_same W p 1 #[a, b, c] t y h
    simpa using this
  · have := heap_setCell_same W p 2 #[a, b, c] t z h
    simpa using this

theorem put3 {W : World} {p : Nat} {a b c : Value} {t : TypeId} (h : W.heap[p]? = some (.cells #[a, b, c] t (0, 0))) (x y z : Value) :
    (((W.setCell ⟨p, 0, none⟩ x).setCell ⟨p, 1, none⟩ y).setCell ⟨p, 2, none⟩ z).heap[p]? = some (.cells #[x, y, z] t (0, 0)) :=
  (set3 (set3 (set3 h x y z).1 x y z).2.1 x y z).2.2

theorem kept3 (W : World) (p : Nat) (x y z : Value) : Kept (fun b => b = p) W (((W.setCell ⟨p, 0, none⟩ x).setCell ⟨p, 1, none⟩ y).setCell ⟨p, 2, none⟩ z) :=
  (((Kept.refl (fun b => b = p) W).setCell ⟨p, 0, none⟩ (fun _ => rfl) x).setCell ⟨p, 1, none⟩ (fun _ => rfl) y).setCell ⟨p, 2, none⟩ (fun _ => rfl) z

/-- K, out of the inverse of minus the lowest word. -/
theorem prep_K {V m0 : Nat} {x : Int} (hm0 : V % 18446744073709551616 = m0) (hodd : V % 2 = 1) (h : isInv (18446744073709551616 - (m0 : Int)) x) : ∃ K : Nat, x = (K : Int) ∧ K < 18446744073709551616 ∧ (V * K + 1) % 18446744073709551616 = 0 := by
  obtain ⟨x0, x1, x2, _⟩ := h
  obtain ⟨K, rfl⟩ := Int.eq_ofNat_of_zero_le x0
  refine ⟨K, rfl, by omega, ?_⟩
  have ho : (18446744073709551616 - (m0 : Int)) % 2 = 1 := by omega
  obtain ⟨t, ht⟩ := x2 ho
  have hV : V = 18446744073709551616 * (V / 18446744073709551616) + m0 := by rw [← hm0]; exact (Nat.div_add_mod _ _).symm
  have e1 : ((V * K + 1 : Nat) : Int) = 18446744073709551616 * (((V / 18446744073709551616 : Nat) : Int) * (K : Int) + t + (K : Int)) := by
    generalize V / 18446744073709551616 = q at *
    subst hV
    have : (((18446744073709551616 * q + m0) * K + 1 : Nat) : Int) = (18446744073709551616 * (q : Int) + (m0 : Int)) * (K : Int) + 1 := by simp
    rw [this]
    grind
  have : (18446744073709551616 : Int) ∣ ((V * K + 1 : Nat) : Int) := ⟨_, e1⟩
  omega

set_option maxRecDepth 20000 in
set_option maxHeartbeats 2000000 in
/-- prepared. -/
theorem mPrep (b off n cap V : Nat) (ms : List Nat) (w : World) (hm : Row .u64 w (.slice (some ⟨b, off, none⟩) n cap) ms) (hdm : Digs 18446744073709551616 ms) (hn0 : 0 < n) (hn : n ≤ 130) (hV : V = val 18446744073709551616 ms) (hV1 : 18446744073709551616 ^ (n - 1) < V) (hodd : V % 2 = 1) :
    Calls Tryz.prog 51 #[.slice (some ⟨b, off, none⟩) n cap] w fun e w' => ∃ (K : Nat) (v : Value), e = .returned (.agg #[.slice (some ⟨b, off, none⟩) n cap, .int .u64 (K : Int), v]) ∧ K < 18446744073709551616 ∧ (V * K + 1) % 18446744073709551616 = 0 ∧ Row .u64 w' v (digs 18446744073709551616 (18446744073709551616 ^ (2 * n) % V) n) ∧ Fresh w v ∧ Kept Nought w w' := by
  obtain ⟨_, _, _, e1, hLm, _, _, _, hnum⟩ := hm.open
  cases e1
  obtain ⟨b', off', e1, hc0⟩ := hnum 0 hn0
  cases e1
  rw [Nat.add_zero] at hc0
  have hx : ms.getD 0 0 < 18446744073709551616 := hdm.getD (by omega) _
  have hdg : V % 18446744073709551616 = ms.getD 0 0 := by
    have := dig_val (by omega) hdm 0
    unfold dig at this
    rw [hV]
    rwa [Nat.pow_zero, Nat.div_one] at this
  obtain ⟨m0, hm0⟩ : ∃ m0, m0 = ms.getD 0 0 := ⟨_, rfl⟩
  rw [← hm0] at hc0 hx hdg
  obtain ⟨W, hW⟩ : ∃ W, W = w.alloc (.cells #[.slice none 0 0, .int .u64 0, .slice none 0 0] 52) := ⟨_, rfl⟩
  have k0 : Kept Nought w W := by rw [hW]; exact (Kept.refl Nought w).alloc _
  have hx0 : W.heap[w.heap.size]? = some (.cells #[.slice none 0 0, .int .u64 0, .slice none 0 0] 52 (0, 0)) := by rw [hW]; exact heap_alloc_new _ _
  have hsz : W.heap.size = w.heap.size + 1 := by rw [hW]; simp
  have gneg : IntKind.u64.wrap (-(m0 : Int)) = 18446744073709551616 - (m0 : Int) := by rw [IntKind.wrap_u64]; omega
  have hI := wInverse (18446744073709551616 - (m0 : Int)) (by omega) (by omega) W
  have hc0' := k0.cellN hc0
  have HKK : Hid (∀ x, isInv (18446744073709551616 - (m0 : Int)) x → ∃ K : Nat, x = (K : Int) ∧ K < 18446744073709551616 ∧ (V * K + 1) % 18446744073709551616 = 0) := fun x h => prep_K hdg hodd h
  have HSq : Hid (∀ K : Nat, (V * K + 1) % 18446744073709551616 = 0 → Calls Tryz.prog 70 #[.agg #[.slice (some ⟨b, off, none⟩) n cap, .int .u64 (K : Int), .slice none 0 0]] (W.alloc (.cells #[.slice (some ⟨b, off, none⟩) n cap, .int .u64 (K : Int), .slice none 0 0] 52)) fun e w' => ∃ v', e = .returned v' ∧ Row .u64 w' v' (digs 18446744073709551616 (18446744073709551616 ^ (2 * n) % V) n) ∧ Fresh (W.alloc (.cells #[.slice (some ⟨b, off, none⟩) n cap, .int .u64 (K : Int), .slice none 0 0] 52)) v' ∧ Kept Nought (W.alloc (.cells #[.slice (some ⟨b, off, none⟩) n cap, .int .u64 (K : Int), .slice none 0 0] 52)) w') := fun K hg =>
    mSquare _ _ n cap 0 0 V _ K ms _ (hm.grew (k0.alloc _)) hdm hn0 hn hV hV1 hodd hg rfl
  have HX := toHid hx0
  have HK0 := toHid k0
  have HW := toHid hW
  have HSZ := toHid hsz
  clear hm hdm hn hV hV1 hodd hnum hLm hm0 hdg hW hx0 k0 hc0 hx hsz
  go_enter Tryz.func51, Tryz.ntmps51
  go_wp2_with (rw [← HW.out])
  refine hI.mono ?_
  rintro e w1 ⟨⟨x, rfl, hx⟩, rfl⟩
  obtain ⟨K, rfl, hK, hgood⟩ := HKK.out x hx
  have hS := HSq.out K hgood
  have hB : Hid ((w1.alloc (.cells #[.slice (some ⟨b, off, none⟩) n cap, .int .u64 (K : Int), .slice none 0 0] 52)).heap[w1.heap.size]? = some (.cells #[.slice (some ⟨b, off, none⟩) n cap, .int .u64 (K : Int), .slice none 0 0] 52 (0, 0))) := heap_alloc_new _ _
  clear hI hx HKK HSq
  go_wp2_with fail
  refine hS.mono ?_
  rintro e w2 ⟨v2, rfl, hr2, f2, k2⟩
  obtain ⟨zo, zn, zc, rfl, _, _, _, _, _⟩ := hr2.open
  have kA := (Kept.refl Nought w1).alloc (.cells #[.slice (some ⟨b, off, none⟩) n cap, .int .u64 (K : Int), .slice none 0 0] 52)
  have hO2 := (k2.block _ (lt_of_block hB.out) (fun f => f)).trans hB.out
  have hR2 := ((kA.trans k2).block _ (lt_of_block HX.out) (fun f => f)).trans HX.out
  have HF := toHid f2
  clear f2
  have hne : w.heap.size ≠ w1.heap.size := by have := HSZ.out; omega
  have hne' : w1.heap.size ≠ w.heap.size := by omega
  obtain ⟨c0, c1, c2⟩ := cells3 hO2
  obtain ⟨f0, f1, f2⟩ := frees3 hO2
  have hO3 := (set3 hO2 (.slice zo zn zc) (.slice zo zn zc) (.slice zo zn zc)).2.2
  obtain ⟨d0, d1, d2⟩ := cells3 hO3
  have hR3 := heapAt_set hR2 (a := ⟨w1.heap.size, 2, none⟩) hne (.slice zo zn zc)
  obtain ⟨r0, r1, r2⟩ := cells3 hR3
  obtain ⟨s0, s1, s2⟩ := frees3 hR3
  have hR4 := put3 hR3 (.slice (some ⟨b, off, none⟩) n cap) (.int .u64 (K : Int)) (.slice zo zn zc)
  obtain ⟨t0, t1, t2⟩ := cells3 hR4
  have kk := (((HK0.out.trans (kA.trans k2)).next ((Kept.refl (fun b => b = w1.heap.size) w2).setCell ⟨w1.heap.size, 2, none⟩ (fun _ => rfl) (.slice zo zn zc)) (fun x hx e => by have := HK0.out.size; omega))).next (kept3 (w2.setCell ⟨w1.heap.size, 2, none⟩ (.slice zo zn zc)) w.heap.size (.slice (some ⟨b, off, none⟩) n cap) (.int .u64 (K : Int)) (.slice zo zn zc)) (fun x hx e => by omega)
  have HKK := toHid kk
  have hr3 : Row .u64 (w2.setCell ⟨w1.heap.size, 2, none⟩ (.slice zo zn zc)) (.slice zo zn zc) (digs 18446744073709551616 (18446744073709551616 ^ (2 * n) % V) n) := hr2.kept ((Kept.refl (fun b => b = w1.heap.size) w2).setCell ⟨w1.heap.size, 2, none⟩ (fun _ => rfl) (.slice zo zn zc)) (fun b' hb e => by
    have h1 := HF.out b' hb
    have h0 := ((Kept.refl Nought w1).alloc (.cells #[.slice (some ⟨b, off, none⟩) n cap, .int .u64 (K : Int), .slice none 0 0] 52)).size
    have h9 := lt_of_block hB.out
    omega)
  have HRF := toHid (hr3.kept (kept3 (w2.setCell ⟨w1.heap.size, 2, none⟩ (.slice zo zn zc)) w.heap.size (.slice (some ⟨b, off, none⟩) n cap) (.int .u64 (K : Int)) (.slice zo zn zc)) (fun b' hb e => by
    have h1 := HF.out b' hb
    have h2 := HSZ.out
    have h0 := ((Kept.refl Nought w1).alloc (.cells #[.slice (some ⟨b, off, none⟩) n cap, .int .u64 (K : Int), .slice none 0 0] 52)).size
    have h9 := lt_of_block hB.out
    omega))
  clear hr3
  have HKA := toHid (kA.trans k2)
  clear hS kA hO2 hR2 hO3 hR3 hR4 kk hB hr2 k2
  go_wp2_with fail
  refine bodyPost_ret (v := .agg #[.slice (some ⟨b, off, none⟩) n cap, .int .u64 (K : Int), .slice zo zn zc]) (by simp [results, Tryz.results51, go_sem, t0, t1, t2]) rfl ⟨K, _, rfl, hK, hgood, ?_, ?_, HKK.out⟩
  · exact HRF.out
  · exact HF.out.after (HK0.out.alloc _)

end Go.Proofs.YtldbfcifoijliaaGreatDoor

/- Package mont: Setup. -/
namespace Go.Proofs.YtldbfcifoijliaaGreatDoor
open Go.RowKit

/-- What a good number is set up to. -/
def SetUp (W : World) (V : Nat) (a b : Value) (K : Nat) : Prop := Row .u64 W a (modM V) ∧ Row .u64 W b (modR V) ∧ isKf V K

theorem rfn_mont (V : Nat) : rfn (wordsN V) V = montE V := rfl

set_option maxRecDepth 20000 in
set_option maxHeartbeats 2000000 in
/-- What Setup attempts. -/
theorem mSetup1 (ao : Option Addr) (L cap bM bO V E : Nat) (xs : List Nat) (w : World) (hx : Row .u64 w (.slice ao L cap) xs) (hd : Digs 18446744073709551616 xs) (hL : L ≤ 1000000) (hV : V = val 18446744073709551616 xs) (hE : E = montE V)
    (hM : Box w bM (.slice ao L cap) 23) (hO : w.heap[bO]? = some (.cells #[.slice none 0 0, .int .u64 0, .slice none 0 0] 52 (0, 0))) :
    Calls Tryz.prog 48 #[.pointer (some ⟨bM, 0, none⟩), .pointer (some ⟨bO, 0, none⟩)] w fun e w' =>
      (E = 0 ∧ e = .returned (.tuple #[]) ∧ ∃ (a b : Value) (K : Nat) (w1 : World), SetUp w1 V a b K ∧ Fresh w a ∧ Fresh w b ∧ Kept Nought w w1 ∧ w' = ((w1.setCell ⟨bO, 0, none⟩ a).setCell ⟨bO, 1, none⟩ (.int .u64 (K : Int))).setCell ⟨bO, 2, none⟩ b) ∨
      (E ≠ 0 ∧ e = .panicked [refusal (E : Nat)] ∧ Kept Nought w w') := by
  obtain ⟨_, _, _, e1, hLx, hLc, _, hnone, _⟩ := hx.open
  cases e1
  obtain ⟨R, hR⟩ : ∃ R, R = wordsN V := ⟨_, rfl⟩
  have hVL : V < 18446744073709551616 ^ L := by rw [hV, ← hLx.out]; exact val_lt (by omega) hd
  have hRL : R ≤ L := by rw [hR]; exact (wordsN_le V L).2 hVL
  have hVR : V < 18446744073709551616 ^ R := (wordsN_le V R).1 (by omega)
  have hcut := hx.cut (m := R) (by rw [hLx.out]; exact hRL)
  have hcd := hd.take R
  have hcv : val 18446744073709551616 (xs.take R) = V := by rw [val_takeB (by omega) hd, ← hV, Nat.mod_eq_of_lt hVR]
  have hcl : (xs.take R).length = R := by rw [List.length_take, hLx.out]; omega
  have hNe := fun W => mNeeds (.slice ao L cap) xs R (by rw [hR, hV]) W
  have HNe : Hid (∀ W, Kept Nought w W → Calls Tryz.prog 49 #[.slice ao L cap] W fun e w' => e = .returned (.int .i64 (R : Int)) ∧ w' = W) := fun W k => hNe W (hx.grew k) hd (by rw [hLx.out]; omega)
  have HRN : Hid (∀ W, Kept Nought w W → Calls Tryz.prog 50 #[.slice ao R cap] W fun e w' => ((E = 0 ∧ e = .returned (.tuple #[])) ∨ (E ≠ 0 ∧ e = .panicked [refusal (E : Nat)])) ∧ w' = W) := fun W k => by
    have := mRefuseNumber ao R cap (xs.take R) W (hcut.grew k) hcd (by omega)
    rw [hcv, hR, rfn_mont, ← hE, ← hR] at this
    exact this
  have hM' := hM.cell
  have gR : (R : Int) ≤ (cap : Int) := by omega
  have gR' : R ≤ cap := by omega
  have HX := toHid hcut
  have HCD := toHid hcd
  have HCV := toHid hcv
  have HCL := toHid hcl
  have HO := toHid hO
  have HR := toHid hR
  have HE := toHid hE
  have HVR := toHid hVR
  clear hx hd hV hE hVL hVR hcut hcd hcv hcl hNe hO hM hR
  go_enter Tryz.func48, Tryz.ntmps48
  go_wp2_with fail
  go_region_held3 (fun w' => w'.cell? ⟨bM, 0, none⟩ = some (.slice ao L cap))
    (((try dsimp only); first | (go_keep; done) | assumption))
    (first
    | (go_at_call 49; refine (HNe.out _ ?_).mono ?_; (exact (Kept.refl _ _).drew); rintro e w2 ⟨rfl, rfl⟩))
  go_wp2_with fail
  have kd : Kept Nought w w.drew := (Kept.refl _ _).drew
  refine (HRN.out _ kd).mono ?_
  rintro e w2 ⟨⟨h0, rfl⟩ | ⟨h0, rfl⟩, rfl⟩
  · have hmo := montE_ok (V := V) (by rw [← HE.out]; exact h0)
    have hR0 : 0 < R := by
      rcases Nat.eq_zero_or_pos R with h1 | h1
      · have h2 := HVR.out
        rw [h1, Nat.pow_zero] at h2
        omega
      · exact h1
    obtain ⟨_, _, _, e1, _, _, _, _, hnum⟩ := HX.out.open
    cases e1
    obtain ⟨b1, off1, e1, _⟩ := hnum 0 hR0
    cases e1
    have hC := mClone b1 off1 R cap (xs.take R) w.drew (HX.out.grew kd) (by omega)
    clear HNe HRN hnone hnum hM'
    go_wp2_with fail
    refine hC.mono ?_
    rintro e w3 ⟨v3, rfl, hr3, f3, k3⟩
    obtain ⟨zo, zn, zc, rfl, hL3, _, _, _, hnum3⟩ := hr3.open
    obtain rfl : zn = R := hL3.out.symm.trans HCL.out
    obtain ⟨b3, off3, e3, _⟩ := hnum3 0 hR0
    cases e3
    have hP := mPrep b3 off3 zn zc V (xs.take zn) w3 hr3 HCD.out hR0 (by have := HR.out; omega) HCV.out.symm (above_top HR.out.symm hR0 hmo.2.1 hmo.2.2) hmo.2.2
    have HR3 := toHid hr3
    have HF3 := toHid f3
    have HK3 := toHid k3
    clear hC hr3 f3 k3 hnum3 hL3
    go_wp2_with fail
    refine hP.mono ?_
    rintro e w4 ⟨K, v4, rfl, hK, hgood, hr4, f4, k4⟩
    obtain ⟨yo, yn, yc, rfl, _, _, _, _, _⟩ := hr4.open
    have kk := (kd.trans HK3.out).trans k4
    have hO4 := (kk.block _ (lt_of_block HO.out) (fun f => f)).trans HO.out
    obtain ⟨c0, c1, c2⟩ := cells3 hO4
    obtain ⟨f0, f1, f2⟩ := frees3 hO4
    have HS : Hid (SetUp w4 V (.slice (some ⟨b3, off3, none⟩) zn zc) (.slice yo yn yc) K) := by
      have hE0 : montE V = 0 := by rw [← HE.out]; exact h0
      refine ⟨?_, ?_, hK, fun _ => hgood, fun h => absurd hE0 h⟩
      · unfold modM
        rw [if_pos hE0, ← HR.out, ← digs_val (by omega) HCD.out HCL.out (by rw [HCV.out, Nat.mod_eq_of_lt HVR.out])]
        exact HR3.out.grew k4
      · unfold modR
        rw [if_pos hE0, ← HR.out]
        rw [B64, show 64 * (2 * zn) = 128 * zn by omega] at hr4
        exact hr4
    have HFA := toHid (HF3.out.after kd)
    have HFB := toHid (f4.after (kd.trans HK3.out))
    have HKK := toHid kk
    clear hP hO4 hr4 f4 k4 kk kd HR3 HF3
    go_wp2_with fail
    go_end0
    exact .inl ⟨h0, rfl, _, _, K, w4, HS.out, HFA.out, HFB.out, HKK.out, rfl⟩
  · exact ⟨rfl, .inr ⟨h0, rfl, kd⟩⟩

set_option maxRecDepth 20000 in
set_option maxHeartbeats 2000000 in
/-- Setup: its rows lie in new memory. -/
theorem mSetupF (ao : Option Addr) (L cap : Nat) (xs : List Nat) (V E : Nat) (hV : V = val 18446744073709551616 xs) (hE : E = montE V) (w : World) (hx : Row .u64 w (.slice ao L cap) xs) (hd : Digs 18446744073709551616 xs) (hL : L ≤ 1000000) :
    Calls Tryz.prog 26 #[.slice ao L cap] w fun e w' => ∃ a K b, e = .returned (.tuple #[.agg (modCells a K b), .int .i64 (E : Nat)]) ∧ Row .u64 w' a (modM V) ∧ Row .u64 w' b (modR V) ∧ isKf V K ∧ (Fresh w a ∧ Fresh w b) ∧ Kept Nought w w' := by
  have hmf : ∀ (fn : Fn) (first cap : Array Value) (w : World), (Instr.makeFunc fn first cap).run Tryz.prog w = .ok (.func fn first cap) w := fun _ _ _ _ => rfl
  have he : ∀ args w, (callFunc 48 args).run Tryz.prog w = .ok (.enter 48 args) w := fun _ _ => by simp [go_sem]
  obtain ⟨W, hW⟩ : ∃ W, W = (w.alloc (.cells #[.slice ao L cap] 23)).alloc (.cells #[.slice none 0 0, .int .u64 0, .slice none 0 0] 52) := ⟨_, rfl⟩
  have k0 : Kept Nought w W := by rw [hW]; exact ((Kept.refl Nought w).alloc _).alloc _
  have hsz : W.heap.size = w.heap.size + 1 + 1 := by rw [hW]; simp
  have hM0 : Box W w.heap.size (.slice ao L cap) 23 := by rw [hW]; exact (Box.new w _ _).alloc _
  have hO0 : W.heap[w.heap.size + 1]? = some (.cells #[.slice none 0 0, .int .u64 0, .slice none 0 0] 52 (0, 0)) := by
    rw [hW]
    have := heap_alloc_new (w.alloc (.cells #[.slice ao L cap] 23)) (.cells #[.slice none 0 0, .int .u64 0, .slice none 0 0] 52)
    rwa [show (w.alloc (.cells #[.slice ao L cap] 23)).heap.size = w.heap.size + 1 by simp] at this
  have k1 := k0.alloc (.cells #[.int .i64 0] 28)
  have xe := Box.new W (.int .i64 0) 28
  have hsz1 : (W.alloc (.cells #[.int .i64 0] 28)).heap.size = W.heap.size + 1 := by simp
  have h1 := mSetup1 ao L cap w.heap.size (w.heap.size + 1) V E xs _ (hx.grew k1) hd hL hV hE (hM0.alloc _) (heapAt_alloc hO0)
  have hAt := mAttempt 48 #[.pointer (some ⟨w.heap.size, 0, none⟩), .pointer (some ⟨w.heap.size + 1, 0, none⟩)] W
    (fun c W' => c = (E : Nat) ∧ Kept Nought w W' ∧ ∃ (a b : Value) (K : Nat), SetUp W' V a b K ∧ Fresh W a ∧ Fresh W b ∧ (∀ x, a.ownBlock = some x → x ≠ W.heap.size) ∧ (∀ x, b.ownBlock = some x → x ≠ W.heap.size) ∧ W'.heap[w.heap.size + 1]? = some (.cells #[a, .int .u64 (K : Int), b] 52 (0, 0))) he (h1.mono (by
    rintro e w' (⟨h2, rfl, a, b, K, w1, hS, fa, fb, kk, rfl⟩ | ⟨h2, rfl, kk⟩)
    · have hO1 := (kk.block _ (lt_of_block (heapAt_alloc hO0)) (fun f => f)).trans (heapAt_alloc (o := .cells #[.int .i64 0] 28) hO0)
      have hE1 := (kk.block _ xe.lt (fun f => f)).trans xe
      have k3 := kept3 w1 (w.heap.size + 1) a (.int .u64 (K : Int)) b
      have hfa : ∀ x, a.ownBlock = some x → W.heap.size + 1 ≤ x := fun x hx => by have := fa x hx; omega
      have hfb : ∀ x, b.ownBlock = some x → W.heap.size + 1 ≤ x := fun x hx => by have := fb x hx; omega
      refine ⟨(k3.block _ (lt_of_block hE1) (by omega)).trans hE1, .inl ⟨rfl, by rw [h2]; rfl, (k1.trans kk).next k3 (fun x hx e => by omega), a, b, K, ⟨hS.1.kept k3 (fun x hx e => by have := hfa x hx; omega), hS.2.1.kept k3 (fun x hx e => by have := hfb x hx; omega), hS.2.2⟩, fun x hx => by have := hfa x hx; omega, fun x hx => by have := hfb x hx; omega, fun x hx => by have := hfa x hx; omega, fun x hx => by have := hfb x hx; omega, put3 hO1 _ _ _⟩⟩
    · have hO1 := (kk.block _ (lt_of_block (heapAt_alloc hO0)) (fun f => f)).trans (heapAt_alloc (o := .cells #[.int .i64 0] 28) hO0)
      have hE1 := (kk.block _ xe.lt (fun f => f)).trans xe
      have hb := mod_bad (V := V) (by rw [← hE]; exact h2)
      exact ⟨hE1, .inr ⟨_, rfl, rfl, k1.trans kk, .slice none 0 0, .slice none 0 0, 0, ⟨by rw [hb.1]; exact Row.nil _ _, by rw [hb.2.1]; exact Row.nil _ _, hb.2.2⟩, (fun x hx => by cases hx), (fun x hx => by cases hx), (fun x hx => by cases hx), (fun x hx => by cases hx), hO1⟩⟩))
  have HW := toHid hW
  have HSZ := toHid hsz
  clear h1 hx hd hL hV hE hW k0 k1 hM0 hO0 xe he hsz hsz1
  go_enter Tryz.func26, Tryz.ntmps26
  go_wp2_with (rw [← HW.out])
  refine hAt.mono ?_
  rintro e w' ⟨c, w1, rfl, ⟨⟨rfl, k2, a, b, K, hS, fa, fb, na, nb, hO2⟩, hbe⟩, rfl⟩
  obtain ⟨ao2, an2, ac2, rfl, _, _, _, _, _⟩ := hS.1.open
  obtain ⟨bo2, bn2, bc2, rfl, _, _, _, _, _⟩ := hS.2.1.open
  have k3 := kept_box w1 W.heap.size (.int .i64 (E : Nat))
  have hne : w.heap.size + 1 ≠ W.heap.size := by have := HSZ.out; omega
  have hO3 := heapAt_set hO2 (a := ⟨W.heap.size, 0, none⟩) hne (.int .i64 (E : Nat))
  have hS3 : SetUp (w1.setCell ⟨W.heap.size, 0, none⟩ (.int .i64 (E : Nat))) V (.slice ao2 an2 ac2) (.slice bo2 bn2 bc2) K := ⟨hS.1.kept k3 na, hS.2.1.kept k3 nb, hS.2.2⟩
  have k4 := k2.next k3 (fun x hx e => by have := HSZ.out; omega)
  generalize w1.setCell ⟨W.heap.size, 0, none⟩ (.int .i64 (E : Nat)) = w2 at *
  obtain ⟨c0, c1, c2⟩ := cells3 hO3
  obtain ⟨f0, f1, f2⟩ := frees3 hO3
  have hO4 := put3 hO3 (.slice ao2 an2 ac2) (.int .u64 (K : Int)) (.slice bo2 bn2 bc2)
  obtain ⟨d0, d1, d2⟩ := cells3 hO4
  have k5 := kept3 w2 (w.heap.size + 1) (.slice ao2 an2 ac2) (.int .u64 (K : Int)) (.slice bo2 bn2 bc2)
  have HA := toHid (hS3.1.kept k5 (fun x hx e => by have := fa x hx; have := HSZ.out; omega))
  have HB := toHid (hS3.2.1.kept k5 (fun x hx e => by have := fb x hx; have := HSZ.out; omega))
  have HK := toHid hS3.2.2
  have HFF : Hid (Fresh w (.slice ao2 an2 ac2) ∧ Fresh w (.slice bo2 bn2 bc2)) := ⟨fun x hx => by have := fa x hx; have := HSZ.out; omega, fun x hx => by have := fb x hx; have := HSZ.out; omega⟩
  have HKK := toHid (k4.next k5 (fun x hx e => by omega))
  clear hAt hS hS3 hO2 hO3 hO4 k2 k3 k4 k5 hbe fa fb na nb
  go_wp2_with fail
  exact bodyPost_ret (v := .tuple #[.agg (modCells (.slice ao2 an2 ac2) K (.slice bo2 bn2 bc2)), .int .i64 (E : Nat)]) (by simp [results, Tryz.results26, go_sem, d0, d1, d2, modCells]) rfl ⟨_, K, _, rfl, HA.out, HB.out, HK.out, HFF.out, HKK.out⟩

/-- Setup. -/
theorem mSetup (ao : Option Addr) (L cap : Nat) (xs : List Nat) (V E : Nat) (hV : V = val 18446744073709551616 xs) (hE : E = montE V) (w : World) (hx : Row .u64 w (.slice ao L cap) xs) (hd : Digs 18446744073709551616 xs) (hL : L ≤ 1000000) :
    Calls Tryz.prog 26 #[.slice ao L cap] w fun e w' => ∃ a K b, e = .returned (.tuple #[.agg (modCells a K b), .int .i64 (E : Nat)]) ∧ Row .u64 w' a (modM V) ∧ Row .u64 w' b (modR V) ∧ isKf V K ∧ Kept Nought w w' := by
  refine (mSetupF ao L cap xs V E hV hE w hx hd hL).mono ?_
  rintro e w' ⟨a, K, b, rfl, h1, h2, h3, _, h4⟩
  exact ⟨a, K, b, rfl, h1, h2, h3, h4⟩

end Go.Proofs.YtldbfcifoijliaaGreatDoor

