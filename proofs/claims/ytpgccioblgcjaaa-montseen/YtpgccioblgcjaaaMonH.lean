/- Package mont: what Setup calls: slices.Clone, bits.Len, doubled, restOfR. -/
import Derived.Test.YtpgccioblgcjaaaMonD
import Derived.Test.YtpgccioblgcjaaaBase4
import Derived.Test.YtpgccioblgcjaaaLim3
import Derived.Lib.SliceRun
import Derived.Lib.LazyBuf
namespace Go.Proofs.Ytpgccioblgcjaaa
open Go.RowKit

/-- v lies in memory that is new since w. -/
def Fresh (w : World) (v : Value) : Prop := ∀ b, v.ownBlock = some b → w.heap.size ≤ b

theorem Fresh.after {w W : World} {v : Value} (h : Fresh W v) (k : Kept Nought w W) : Fresh w v := fun b hb => Nat.le_trans k.size (h b hb)

theorem Fresh.own {w W : World} {base n : Nat} {v : Value} {zs : List Nat} (h : OwnN .u64 26 W base v n zs) (hb : w.heap.size ≤ base) : Fresh w v := fun b hb' => Nat.le_trans hb (h.lt b hb').1

set_option maxHeartbeats 2000000 in
set_option maxRecDepth 20000 in
/-- slices.Clone. -/
theorem mClone (b off n c : Nat) (xs : List Nat) (w : World) (h : Row .u64 w (.slice (some ⟨b, off, none⟩) n c) xs) (hn : n ≤ 1000000) :
    Calls Try.prog 38 #[.slice (some ⟨b, off, none⟩) n c] w fun e w' => ∃ v', e = .returned v' ∧ Row .u64 w' v' xs ∧ Fresh w v' ∧ Kept Nought w w' := by
  obtain ⟨i0, hi0, hz0, hz1, hz2⟩ := info_parts Try.info26
  obtain ⟨_, _, _, e1, hL, _, _, _, _⟩ := h.open
  cases e1
  have hq : ∀ (w : World) (a : Option Addr) (n c : Nat), (binOp .eql 23 (.slice a n c) (.slice none 0 0)).run Try.prog w = .ok (.bool a.isNone) w := fun w a n c => Lib.run_eql_slice_nil w _ _ a n c _ _ Try.underlying23
  have HS : Hid (∀ W, Kept Nought w W → ∀ j u, (xs.map fun z : Nat => Value.int .u64 (z : Int))[j]? = some u → W.cell? ((⟨b, off, none⟩ : Addr).add j) = some u) := fun W k j u hj => by
    obtain ⟨ad, e, hs⟩ := h.source k (by
      rw [List.length_map]
      have := (List.getElem?_eq_some_iff.1 hj).1
      rw [List.length_map] at this
      omega)
    cases e
    exact hs j u hj
  have HO := toHid (ints_one .u64 xs)
  have k0 : Kept Nought w (w.alloc (.cells #[] 26)) := (Kept.refl Nought w).alloc _
  clear h
  go_enter Try.func38, Try.ntmps38
  go_wp2_with (at_builtin; refine wpList_append_own _ rfl _ _ 23 rfl w.heap.size 26 i0 (.int .u64 0) 1 8 Try.underlying23 hi0 hz0 hz1 hz2 rfl (by decide) _ _ _ rfl (World.ownsRow_made w #[] 0 (Nat.le_refl _) (Nat.zero_le _) rfl) ⟨b, off, none⟩ n c (xs.map fun z : Nat => Value.int .u64 (z : Int)) rfl ?qc1 ?qc2 ?qc3 ?qc4 ?qc5 ?qc6 ?_)
  case qc1 => rw [List.length_map, hL.out]; simp
  case qc2 => exact HS.out _ k0
  case qc3 => exact HO.out
  case qc4 => unfold maxLen; omega
  case qc5 => omega
  case qc6 => simp
  intro v' w1 hown hgrow hnil
  have k1 : Kept Nought w w1 := k0.grown hgrow (fun k hk hlt => by simp [Value.ownBlock] at hk; omega)
  go_wp2
  go_ret
  exact ⟨v', rfl, Row.of_own (base := w.heap.size) (e := 26) (by rw [hL.out]; simpa using hown), (fun b hb => (hown.lt b hb).1), k1⟩

set_option maxHeartbeats 400000 in
/-- bits.Len. -/
theorem bLen (y : Nat) (hy : y < 18446744073709551616) (w : World) :
    Calls Try.prog 83 #[.int .u64 (y : Nat)] w fun e w' => e = .returned (.int .i64 (blen y : Nat)) ∧ w' = w := by
  have hLen := Any.bits_Len64 l129 (y : Int) w (by omega) (by omega)
  rw [show ((y : Int).toNat) = y from rfl, bitLen_blen y hy] at hLen
  generalize blen y = M at *
  go_enter Try.func83, Try.ntmps83
  go_wp2_with fail
  refine hLen.mono ?_
  rintro e w' ⟨rfl, rfl⟩
  go_wp2
  go_ret
  exact ⟨rfl, rfl⟩

set_option maxRecDepth 20000 in
set_option maxHeartbeats 2000000 in
/-- doubled. -/
theorem mDoubled (ao bo xo : Option Addr) (n mcap rl rcap xc V Y : Nat) (K : Int) (xs ms : List Nat) (w : World) (hx : Row .u64 w (.slice xo n xc) xs) (hm : Row .u64 w (.slice ao n mcap) ms) (hdx : Digs 18446744073709551616 xs) (hdm : Digs 18446744073709551616 ms) (hn : n ≤ 100000) (hV : V = val 18446744073709551616 ms) (hX : val 18446744073709551616 xs < V) (hY : Y = 2 * val 18446744073709551616 xs % V) :
    Calls Try.prog 84 #[.agg #[.slice ao n mcap, .int .u64 K, .slice bo rl rcap], .slice xo n xc] w fun e w' => ∃ v', e = .returned v' ∧ Row .u64 w' v' (digs 18446744073709551616 Y n) ∧ Fresh w v' ∧ Kept Nought w w' := by
  obtain ⟨_, _, _, e1, hLx, _, _, _, _⟩ := hx.open
  cases e1
  obtain ⟨_, _, _, e1, hLm, _, _, _, _⟩ := hm.open
  cases e1
  have hVn : V < 18446744073709551616 ^ n := by rw [hV, ← hLm.out]; exact val_lt (by omega) hdm
  obtain ⟨W, hW⟩ : ∃ W, W = w.alloc (.cells #[.slice ao n mcap, .int .u64 K, .slice bo rl rcap] 28) := ⟨_, rfl⟩
  have k0 : Kept Nought w W := by rw [hW]; exact (Kept.refl Nought w).alloc _
  have hx0 : W.heap[w.heap.size]? = some (.cells #[.slice ao n mcap, .int .u64 K, .slice bo rl rcap] 28 (0, 0)) := by rw [hW]; exact heap_alloc_new _ _
  have hLf := lLeft none (.slice xo n xc) xs 0 (by omega) W (TrRoom.none _ _ (by omega)) (RowT.none (hx.grew k0)) hdx (by rw [hLx.out]; omega)
  rw [hLx.out, show (0 : Nat) % 2 = 0 from rfl, Nat.add_zero, show trPtr none = .pointer none from rfl] at hLf
  obtain ⟨X, hXX⟩ : ∃ X, X = val 18446744073709551616 xs := ⟨_, rfl⟩
  rw [← hXX] at hLf hX hY
  obtain ⟨c, hc⟩ : ∃ c, c = 2 * X / 18446744073709551616 ^ n := ⟨_, rfl⟩
  rw [← hc] at hLf
  have hc1 : c ≤ 1 := by
    have : 2 * X / 18446744073709551616 ^ n < 2 := by
      rw [Nat.div_lt_iff_lt_mul (Nat.pow_pos (by omega))]
      omega
    omega
  have hle : lesY (2 * X % 18446744073709551616 ^ n) V c n = Y := by
    have e : 2 * X % 18446744073709551616 ^ n + 18446744073709551616 ^ n * c = 2 * X := by rw [hc]; exact Nat.mod_add_div _ _
    rw [les_ok (Nat.mod_lt _ (Nat.pow_pos (by omega))) hVn hc1 (by omega), e, hY]
  have HS : Hid (∀ W' v', Kept Nought W W' → Row .u64 W' v' (digs 18446744073709551616 (2 * X) n) → Calls Try.prog 78 #[.pointer none, .agg #[.slice ao n mcap, .int .u64 K, .slice bo rl rcap], v', .int .u64 (c : Nat)] W' fun e w' => ∃ v2, e = .returned v2 ∧ Row .u64 w' v2 (digs 18446744073709551616 Y n) ∧ Fresh w v2 ∧ Kept Nought w w') := fun W' v' k hr => by
    have := mLess none ao bo n mcap rl rcap c K v' _ ms W' (TrRoom.none _ _ (by omega)) (RowT.none hr) (digs_length _ _ _) (RowT.none (hm.grew (k0.trans k))) (digs_digs (by omega) _ _) hdm hc1 hn
    rw [val_digs, ← hV, hle] at this
    refine this.mono ?_
    rintro e w' ⟨v2, rfl, ho, o', d⟩
    exact ⟨v2, rfl, own_row' ho (digs_length _ _ _), Fresh.own ho (k0.trans k).size, (k0.trans k).trans d.none.2⟩
  obtain ⟨p0, p1, p2⟩ := cells3 hx0
  have HW := toHid hW
  clear hx hm hdx hdm hLx hLm hV hVn hX hY hXX hc hle k0 hx0 hW
  go_enter Try.func84, Try.ntmps84
  go_wp2_with (rw [← HW.out])
  refine hLf.mono ?_
  rintro e w1 ⟨v1, rfl, ho1, o1, d1⟩
  have k1 := d1.none.2
  have q0 := k1.cellN p0
  have q1 := k1.cellN p1
  have q2 := k1.cellN p2
  have hL := HS.out w1 v1 k1 (own_row' ho1 (digs_length _ _ _))
  clear hLf p0 p1 p2 ho1 d1
  go_wp2_with fail
  refine hL.mono ?_
  rintro e w2 ⟨v2, rfl, hr2, n2, k2⟩
  go_wp2_with fail
  go_ret
  exact ⟨v2, rfl, hr2, n2, k2⟩

end Go.Proofs.Ytpgccioblgcjaaa
