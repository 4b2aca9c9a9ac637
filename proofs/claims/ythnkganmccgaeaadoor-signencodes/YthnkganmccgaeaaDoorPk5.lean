/- Put together of: Shc1 Shc3. -/
import Derived.Test.YthnkganmccgaeaaDoorPk3
import Derived.Test.YthnkganmccgaeaaDoorPk4
import Derived.Deep.RegionHeld3
import Derived.BigRegion

/- Package sha512: its tables in memory; words turned; where hashes begin. -/
namespace Go.Proofs.YthnkganmccgaeaaDoor
open Go.RowKit

/-- The package's tables, as they lie in memory. -/
structure Tab12 (w : World) : Prop where
  start : ∀ i, i < 8 → w.cell? ⟨2, i, none⟩ = some (.int .u64 (H512.getD i 0 : Nat))
  short : ∀ i, i < 8 → w.cell? ⟨1, i, none⟩ = some (.int .u64 (H384.getD i 0 : Nat))
  words : ∀ i, i < 80 → w.cell? ⟨5, i, none⟩ = some (.int .u64 (K512.getD i 0 : Nat))

theorem Tab12.grew {w w' : World} (h : Tab12 w) (k : Kept Nought w w') : Tab12 w' := ⟨fun i hi => k.cellN (h.start i hi), fun i hi => k.cellN (h.short i hi), fun i hi => k.cellN (h.words i hi)⟩

theorem and63 (M : Nat) (hM : M < 18446744073709551616) : bits .and .u64 (M : Int) 63 = ((M % 64 : Nat) : Int) := by
  have h := u64_and_nat M 63 hM (by omega)
  rw [show (63 : Int) = ((63 : Nat) : Int) from rfl, h]
  congr 1
  exact Nat.and_two_pow_sub_one_eq_mod M 6

set_option maxHeartbeats 400000 in
/-- bits.RotateLeft64 by a count below 0. -/
theorem mRot (x n : Nat) (hx : x < 18446744073709551616) (hn0 : 0 < n) (hn : n < 64) (w : World) :
    Calls Tryd.prog 63 #[.int .u64 (x : Nat), .int .i64 (-(n : Int))] w fun e w' => e = .returned (.int .u64 (rot64 x n : Nat)) ∧ w' = w := by
  have h1 : x / 2 ^ n < 18446744073709551616 := Nat.lt_of_le_of_lt (Nat.div_le_self _ _) hx
  have h2 : x * 2 ^ (64 - n) % 18446744073709551616 < 18446744073709551616 := Nat.mod_lt _ (by omega)
  have hor := u64_or_nat _ _ h2 h1
  rw [show (x * 2 ^ (64 - n) % 18446744073709551616 ||| x / 2 ^ n) = rot64 x n from Nat.or_comm _ _] at hor
  obtain ⟨k, hk⟩ : ∃ k, k = 64 - n := ⟨_, rfl⟩
  obtain ⟨M, hM⟩ : ∃ M : Nat, M = 18446744073709551616 - n := ⟨_, rfl⟩
  rw [← hk] at hor
  have hw : IntKind.u64.wrap (-(n : Int)) = (M : Int) := by rw [IntKind.wrap_u64]; omega
  have ha : bits .and .u64 (M : Int) 63 = (k : Int) := by
    rw [and63 M (by omega)]
    congr 1
    omega
  have g1 : (64 : Int) - (k : Int) = (n : Int) := by omega
  have gk : k < 64 := by omega
  have c1 : ((x / 2 ^ n : Nat) : Int) = (x : Int) / 2 ^ n := by simp
  have c2 : ((x * 2 ^ k % 18446744073709551616 : Nat) : Int) = IntKind.u64.wrap ((x : Int) * 2 ^ k) := by rw [IntKind.wrap_u64]; simp
  rw [c1, c2] at hor
  clear c1 c2 hk hM h1 h2
  go_enter Tryd.func63, Tryd.ntmps63
  go_wp2_with fail
  go_ret
  exact ⟨rfl, rfl⟩

set_option maxHeartbeats 400000 in
/-- right. -/
theorem mRight (x n : Nat) (hx : x < 18446744073709551616) (hn0 : 0 < n) (hn : n < 64) (w : World) :
    Calls Tryd.prog 61 #[.int .u64 (x : Nat), .int .i64 (n : Int)] w fun e w' => e = .returned (.int .u64 (rot64 x n : Nat)) ∧ w' = w := by
  have h := mRot x n hx hn0 hn w
  go_enter Tryd.func61, Tryd.ntmps61
  go_wp2_with fail
  refine h.mono ?_
  rintro e w1 ⟨rfl, rfl⟩
  go_wp2_with fail
  go_ret
  exact ⟨rfl, rfl⟩

theorem ch_or64 {e f g : Nat} (he : e < 18446744073709551616) : (e &&& f) ||| ((18446744073709551615 ^^^ e) &&& g) = chM e f g := by
  unfold chM
  apply Nat.eq_of_testBit_eq
  intro i
  simp only [Nat.testBit_or, Nat.testBit_xor, Nat.testBit_and]
  by_cases hi : i < 64
  · have hm : Nat.testBit 18446744073709551615 i = true := by
      have := Nat.testBit_two_pow_sub_one 64 i
      simpa [hi] using this
    rw [hm]
    cases e.testBit i <;> cases f.testBit i <;> cases g.testBit i <;> rfl
  · have h1 : e.testBit i = false := Nat.testBit_lt_two_pow (Nat.lt_of_lt_of_le he (Nat.pow_le_pow_right (n := 2) (by omega) (by omega : 64 ≤ i)))
    rw [h1]
    cases Nat.testBit 18446744073709551615 i <;> cases f.testBit i <;> cases g.testBit i <;> rfl

theorem maj_or64 (a b c : Nat) : (a &&& b) ||| (a &&& c) ||| (b &&& c) = majM a b c := by
  unfold majM
  apply Nat.eq_of_testBit_eq
  intro i
  simp only [Nat.testBit_or, Nat.testBit_xor, Nat.testBit_and]
  cases a.testBit i <;> cases b.testBit i <;> cases c.testBit i <;> rfl

theorem ch_bitsO64 {e f g : Nat} (he : e < 18446744073709551616) (hf : f < 18446744073709551616) (hg : g < 18446744073709551616) : bits .or .u64 (bits .and .u64 (e : Int) (f : Int)) (bits .and .u64 (bits .xor .u64 IntKind.u64.max (e : Int)) (g : Int)) = ((chM e f g : Nat) : Int) := by
  have h := u64_xor_nat 18446744073709551615 e (by omega) he
  rw [show IntKind.u64.max = ((18446744073709551615 : Nat) : Int) from rfl, h, u64_and_nat e f he hf, u64_and_nat _ g (xor64 (by omega) he) hg, u64_or_nat _ _ (and64 hf) (and64 hg), ch_or64 he]

theorem maj_bitsO64 {a b c : Nat} (ha : a < 18446744073709551616) (hb : b < 18446744073709551616) (hc : c < 18446744073709551616) : bits .or .u64 (bits .or .u64 (bits .and .u64 (a : Int) (b : Int)) (bits .and .u64 (a : Int) (c : Int))) (bits .and .u64 (b : Int) (c : Int)) = ((majM a b c : Nat) : Int) := by
  rw [u64_and_nat a b ha hb, u64_and_nat a c ha hc, u64_and_nat b c hb hc, u64_or_nat _ _ (and64 hb) (and64 hc), u64_or_nat _ _ (or64 (and64 hb) (and64 hc)) (and64 hc), maj_or64]

/-- A word of m bytes, the highest ahead. -/
def pwM (bs : List Nat) (q : Nat) : Nat → Nat
  | 0 => 0
  | m + 1 => pwM bs q m * 256 + bs.getD (8 * q + m) 0

theorem pwM_lt {bs : List Nat} (hd : Digs 256 bs) (q : Nat) : ∀ m, pwM bs q m < 256 ^ m
  | 0 => by simp [pwM]
  | m + 1 => by
    have h := pwM_lt hd q m
    have hb : bs.getD (8 * q + m) 0 < 256 := hd.getD (by omega) _
    unfold pwM
    rw [Nat.pow_succ]
    omega

/-- The words while a block's bytes are taken in. -/
def exM (bs : List Nat) (i : Nat) : List Nat := (List.range 80).map fun q => pwM bs q (min 8 (i - 8 * q))

theorem exM_length (bs : List Nat) (i : Nat) : (exM bs i).length = 80 := by unfold exM; simp

theorem exM_get {bs : List Nat} {i q : Nat} (h : q < (exM bs i).length) : (exM bs i)[q] = pwM bs q (min 8 (i - 8 * q)) := by simp [exM]

theorem exM_at {bs : List Nat} {i : Nat} (hi : i < 128) : (exM bs i).getD (i / 8) 0 = pwM bs (i / 8) (i % 8) := by
  unfold exM
  rw [List.getD_eq_getElem?_getD, List.getElem?_map, List.getElem?_range (by omega)]
  show pwM bs (i / 8) (min 8 (i - 8 * (i / 8))) = _
  congr 1
  omega

theorem exM_set {bs : List Nat} {i z : Nat} (hz : z = pwM bs (i / 8) (i % 8) * 256 + bs.getD i 0) : (exM bs i).set (i / 8) z = exM bs (i + 1) := by
  apply List.ext_getElem
  · simp [exM]
  · intro q h1 h2
    rw [List.getElem_set, exM_get, exM_get]
    split
    · next h =>
      subst h
      rw [hz, show min 8 (i + 1 - 8 * (i / 8)) = i % 8 + 1 by omega]
      show _ = pwM bs (i / 8) (i % 8) * 256 + bs.getD (8 * (i / 8) + i % 8) 0
      rw [show 8 * (i / 8) + i % 8 = i by omega]
    · next h =>
      congr 1
      omega

theorem w8_pw {bs : List Nat} (hd : Digs 256 bs) (q : Nat) : ∀ m, w8M bs q m = pwM bs q m
  | 0 => rfl
  | m + 1 => by
    have hb : bs.getD (8 * q + m) 0 < 256 := hd.getD (by omega) _
    have h2 := Nat.two_pow_add_eq_or_of_lt (i := 8) (b := bs.getD (8 * q + m) 0) (by omega) (pwM bs q m)
    unfold w8M pwM
    rw [w8_pw hd q m, show pwM bs q m * 256 = 2 ^ 8 * pwM bs q m by omega, ← h2]

theorem wlM_first {bs : List Nat} (hd : Digs 256 bs) : ∀ t, t ≤ 16 → wlM bs t = (List.range t).map fun q => pwM bs q 8
  | 0, _ => rfl
  | t + 1, ht => by
    rw [List.range_succ, List.map_append, ← wlM_first hd t (by omega)]
    show wlM bs t ++ [_] = _
    rw [if_pos (by omega), w8_pw hd]
    rfl

theorem exM_end {bs : List Nat} (hd : Digs 256 bs) : exM bs 128 = wlM bs 16 ++ List.replicate 64 0 := by
  rw [wlM_first hd 16 (Nat.le_refl _)]
  apply List.ext_getElem
  · simp [exM]
  · intro q h1 h2
    have hq : q < 80 := by simpa [exM] using h1
    rw [exM_get, List.getElem_append]
    split
    · next h =>
      have hq16 : q < 16 := by simpa using h
      rw [List.getElem_map, List.getElem_range, show min 8 (128 - 8 * q) = 8 by omega]
    · next h =>
      have hq16 : ¬ q < 16 := by simpa using h
      rw [List.getElem_replicate, show min 8 (128 - 8 * q) = 0 by omega]
      rfl

theorem exM_zero (bs : List Nat) : exM bs 0 = List.replicate 80 0 := by
  apply List.ext_getElem
  · simp [exM]
  · intro q h1 h2
    rw [exM_get, List.getElem_replicate, show min 8 (0 - 8 * q) = 0 by omega]
    rfl

end Go.Proofs.YthnkganmccgaeaaDoor


/- Package sha512: expand: a block's words. -/
namespace Go.Proofs.YthnkganmccgaeaaDoor
open Go.RowKit

set_option maxRecDepth 40000 in
set_option maxHeartbeats 4000000 in
/-- expand of 128 bytes. -/
theorem mExpand (ao : Option Addr) (cap : Nat) (bs : List Nat) (w : World) (hb : Row .u8 w (.slice ao 128 cap) bs) (hbd : Digs 256 bs) :
    Calls Tryd.prog 57 #[.slice ao 128 cap] w fun e w' => e = .returned (.agg ((wlM bs 80).map fun z => Value.int .u64 (z : Nat)).toArray) ∧ Kept Nought w w' := by
  obtain ⟨_, _, _, e1, hLb, _, _, _, hnum⟩ := hb.open
  cases e1
  obtain ⟨bb, off, e1, _⟩ := hnum 0 (by omega)
  cases e1
  have hne : bs ≠ [] := fun e => by have := hLb.out; rw [e] at this; simp at this
  have hbl : bb < w.heap.size := hb.lt hne bb rfl
  obtain ⟨W, hW⟩ : ∃ W, W = (w.alloc (.cells ((List.replicate 80 0).map fun z : Nat => Value.int .u64 (z : Int)).toArray 68)).alloc (.cells ((List.replicate 80 0).map fun z : Nat => Value.int .u64 (z : Int)).toArray 68) := ⟨_, rfl⟩
  have k0 : Kept Nought w W := by rw [hW]; exact ((Kept.refl Nought w).alloc _).alloc _
  have hO0 : Arr .u64 68 W w.heap.size (List.replicate 80 0) := by rw [hW]; exact heapAt_alloc (heap_alloc_new w _)
  have hA0 : Arr .u64 68 W (w.heap.size + 1) (List.replicate 80 0) := by
    rw [hW]
    have := heap_alloc_new (w.alloc (.cells ((List.replicate 80 0).map fun z : Nat => Value.int .u64 (z : Int)).toArray 68)) (.cells ((List.replicate 80 0).map fun z : Nat => Value.int .u64 (z : Int)).toArray 68)
    rwa [show (w.alloc (.cells ((List.replicate 80 0).map fun z : Nat => Value.int .u64 (z : Int)).toArray 68)).heap.size = w.heap.size + 1 by simp] at this
  have JB : Hid (∀ wr, Kept (fun b => b = w.heap.size + 1) W wr → ∀ i, i < 128 → wr.cell? ⟨bb, off + i, none⟩ = some (.int .u8 (bs.getD i 0 : Nat))) := fun wr k i hi => by
    have hr := (hb.grew k0).kept k (fun b hb' e => by
      cases hb'
      have e' : bb = w.heap.size + 1 := e
      omega)
    obtain ⟨_, _, _, e1, _, _, _, _, hn⟩ := hr.open
    cases e1
    obtain ⟨_, _, e2, hc⟩ := hn i hi
    cases e2
    exact hc
  have HBD := toHid hbd
  have HO0 := toHid hO0
  have HA0 := toHid hA0
  have HK0 := toHid k0
  have HW : Hid (W = (w.alloc (.cells Tryd.zeroCells68 68)).alloc (.cells Tryd.zeroCells68 68)) := hW
  clear hW hO0 hA0 k0 hb hbd hnum hLb hne
  go_enter Tryd.func57, Tryd.ntmps57
  go_wp2_with fail
  first
    | (rw [zero80]; go_wp2_with fail; rw [zero80]; go_wp2_with fail)
    | skip
  rw [← HW.out]
  go_loopw [10] (fun i wr => ∃ t : Nat, t ≤ 128 ∧ i = .int .i64 (t : Int) ∧ Hid (Arr .u64 68 wr (w.heap.size + 1) (exM bs t)) ∧ Hid (Kept (fun b => b = w.heap.size + 1) W wr)) (fun i _ => 128 - (intOf i).toNat)
  case atStart => exact ⟨0, by omega, rfl, by unfold Hid; rw [exM_zero]; exact HA0.out, Kept.refl _ _⟩
  case round =>
    obtain ⟨t, ht, rfl, HA, HK⟩ := hrel
    by_cases ht6 : t < 128
    · have g1 : (t : Int) < 128 := by omega
      have g0 : (0 : Int) ≤ (t : Int) := by omega
      obtain ⟨q, hq⟩ : ∃ q, q = t / 8 := ⟨_, rfl⟩
      have gq : (t : Int).tdiv 8 = (q : Int) := by rw [Int.tdiv_eq_ediv_of_nonneg g0]; omega
      have gq' : (t : Int) / 8 = (q : Int) := by omega
      have gq0 : (0 : Int) ≤ (q : Int) := by omega
      have gq1 : (q : Int) < 80 := by omega
      have hct := HA.out.cell q (by rw [exM_length]; omega)
      have hft := HA.out.free q
      rw [hq, exM_at ht6, ← hq] at hct
      have cb := JB.out wr HK.out t ht6
      have x0 : bs.getD t 0 < 256 := HBD.out.getD (by omega) _
      have x1 : pwM bs q (t % 8) < 72057594037927936 := by
        have := pwM_lt HBD.out q (t % 8)
        have h3 : 256 ^ (t % 8) ≤ 256 ^ 7 := Nat.pow_le_pow_right (by omega) (by omega)
        omega
      obtain ⟨z, hz⟩ : ∃ z, z = pwM bs q (t % 8) * 256 + bs.getD t 0 := ⟨_, rfl⟩
      have HN : Hid ((exM bs t).set q z = exM bs (t + 1)) := by rw [hq]; exact exM_set (by rw [← hq]; exact hz)
      generalize bs.getD t 0 = y at *
      generalize pwM bs q (t % 8) = p at *
      have e1 : IntKind.u64.wrap ((p : Int) * 256) = ((p * 256 : Nat) : Int) := by rw [IntKind.wrap_u64]; omega
      have e2 := u64_or_nat (p * 256) y (by omega) (by omega)
      have h2 := Nat.two_pow_add_eq_or_of_lt (i := 8) (b := y) (by omega) p
      rw [show p * 256 ||| y = z by rw [hz, show p * 256 = 2 ^ 8 * p by omega, ← h2]] at e2
      generalize hcs : p * 256 = cs at *
      clear hz hq h2 hcs
      go_wp2_with fail
      go_region
      all_goals
        go_wp2_with fail
        go_roundw
        case rel => exact ⟨t + 1, by omega, by go_num, by unfold Hid; rw [← HN.out]; exact (HA.out.set q z), HK.out.next ((Kept.refl (fun b => b = w.heap.size + 1) wr).setCell ⟨w.heap.size + 1, q, none⟩ (fun _ => rfl) (.int .u64 (z : Nat))).drew (fun x _ h => h)⟩
        case measure => simp [intOf]; omega
    · have g1 : ¬ (t : Int) < 128 := by omega
      have hA := HA.out
      rw [show t = 128 by omega, exM_end HBD.out] at hA
      have hO := HO0.out.kept HK.out (by omega)
      have KW1 := toHid (HK0.out.next HK.out (fun x hx e => by have e' : x = w.heap.size + 1 := e; omega))
      have HO1 := toHid hO
      have HA1 := toHid hA
      clear hA hO HA HK JB HA0 HO0 HW HK0 ht
      obtain ⟨w2, hw2⟩ : ∃ w2, w2 = wr := ⟨_, rfl⟩
      have HW2 := toHid hw2
      rw [← hw2] at HO1 HA1 KW1
      clear hw2
      go_wp2_with fail
      go_loopw [5] (fun i wr => ∃ t : Nat, 16 ≤ t ∧ t ≤ 80 ∧ i = .int .i64 (t : Int) ∧ Hid (Arr .u64 68 wr (w.heap.size + 1) (wlM bs t ++ List.replicate (80 - t) 0)) ∧ Hid (Kept (fun b => b = w.heap.size + 1) w2 wr)) (fun i _ => 80 - (intOf i).toNat)
      case atStart => exact ⟨16, by omega, by omega, rfl, by rw [← HW2.out]; exact HA1.out, by rw [← HW2.out]; exact Kept.refl _ _⟩
      case round =>
        obtain ⟨t, ht16, ht, rfl, HA, HK⟩ := hrel
        by_cases ht6 : t < 80
        · have g1 : (t : Int) < 80 := by omega
          have g0 : (0 : Int) ≤ (t : Int) := by omega
          obtain ⟨i16, hi16⟩ : ∃ j, j = t - 16 := ⟨_, rfl⟩
          obtain ⟨i15, hi15⟩ : ∃ j, j = t - 15 := ⟨_, rfl⟩
          obtain ⟨i7, hi7⟩ : ∃ j, j = t - 7 := ⟨_, rfl⟩
          obtain ⟨i2, hi2⟩ : ∃ j, j = t - 2 := ⟨_, rfl⟩
          have w16 : IntKind.i64.wrap ((t : Int) - 16) = (i16 : Int) := by rw [IntKind.wrap_i64]; omega
          have w15 : IntKind.i64.wrap ((t : Int) - 15) = (i15 : Int) := by rw [IntKind.wrap_i64]; omega
          have w7 : IntKind.i64.wrap ((t : Int) - 7) = (i7 : Int) := by rw [IntKind.wrap_i64]; omega
          have w2' : IntKind.i64.wrap ((t : Int) - 2) = (i2 : Int) := by rw [IntKind.wrap_i64]; omega
          have b16 : (i16 : Int) < 80 := by omega
          have b15 : (i15 : Int) < 80 := by omega
          have b7 : (i7 : Int) < 80 := by omega
          have b2 : (i2 : Int) < 80 := by omega
          have hlen : (wlM bs t ++ List.replicate (80 - t) 0).length = 80 := by rw [List.length_append, wlM_length, List.length_replicate]; omega
          have hlt : ∀ i, (wlM bs t).getD i 0 < 18446744073709551616 := fun i => (wlM_digs HBD.out t).getD (by omega) i
          have hcell : ∀ i, i < t → wr.cell? ⟨w.heap.size + 1, i, none⟩ = some (.int .u64 ((wlM bs t).getD i 0 : Nat)) := fun i hi => by
            rw [HA.out.cell i (by omega), List.getD_eq_getElem?_getD, List.getElem?_append_left (by rw [wlM_length]; exact hi), ← List.getD_eq_getElem?_getD]
          have c16 := hcell i16 (by omega)
          have c15 := hcell i15 (by omega)
          have c7 := hcell i7 (by omega)
          have c2 := hcell i2 (by omega)
          have hct := HA.out.cell t (by omega)
          have hft := HA.out.free t
          obtain ⟨X, hX⟩ : ∃ X, X = (wlM bs t).getD i15 0 := ⟨_, rfl⟩
          obtain ⟨Y, hY⟩ : ∃ Y, Y = (wlM bs t).getD i2 0 := ⟨_, rfl⟩
          obtain ⟨P, hP⟩ : ∃ P, P = (wlM bs t).getD i16 0 := ⟨_, rfl⟩
          obtain ⟨Q, hQ⟩ : ∃ Q, Q = (wlM bs t).getD i7 0 := ⟨_, rfl⟩
          have lX : X < 18446744073709551616 := by rw [hX]; exact hlt _
          have lY : Y < 18446744073709551616 := by rw [hY]; exact hlt _
          have lP : P < 18446744073709551616 := by rw [hP]; exact hlt _
          have lQ : Q < 18446744073709551616 := by rw [hQ]; exact hlt _
          rw [← hX] at c15
          rw [← hY] at c2
          rw [← hP] at c16
          rw [← hQ] at c7
          obtain ⟨z, hz⟩ : ∃ z, z = (P + s0M X + Q + s1M Y) % 18446744073709551616 := ⟨_, rfl⟩
          have HN : Hid ((wlM bs t ++ List.replicate (80 - t) 0).set t z = wlM bs (t + 1) ++ List.replicate (80 - (t + 1)) 0) := by
            refine wl_setM ht6 ?_
            rw [if_neg (by omega), ← hi16, ← hi15, ← hi7, ← hi2, ← hX, ← hY, ← hP, ← hQ, hz]
          have l0 := s0M_lt lX
          have l1 := s1M_lt lY
          have J1 : Hid (∀ W, Calls Tryd.prog 61 #[.int .u64 (X : Nat), .int .i64 1] W fun e w' => e = .returned (.int .u64 (rot64 X 1 : Nat)) ∧ w' = W) := fun W => mRight X 1 lX (by omega) (by omega) W
          have J2 : Hid (∀ W, Calls Tryd.prog 61 #[.int .u64 (X : Nat), .int .i64 8] W fun e w' => e = .returned (.int .u64 (rot64 X 8 : Nat)) ∧ w' = W) := fun W => mRight X 8 lX (by omega) (by omega) W
          have J3 : Hid (∀ W, Calls Tryd.prog 61 #[.int .u64 (Y : Nat), .int .i64 19] W fun e w' => e = .returned (.int .u64 (rot64 Y 19 : Nat)) ∧ w' = W) := fun W => mRight Y 19 lY (by omega) (by omega) W
          have J4 : Hid (∀ W, Calls Tryd.prog 61 #[.int .u64 (Y : Nat), .int .i64 61] W fun e w' => e = .returned (.int .u64 (rot64 Y 61 : Nat)) ∧ w' = W) := fun W => mRight Y 61 lY (by omega) (by omega) W
          have hx0 := xor3M (rot64_lt X 1 lX) (rot64_lt X 8 lX) (show X / 128 < 18446744073709551616 by omega)
          have hx1 := xor3M (rot64_lt Y 19 lY) (rot64_lt Y 61 lY) (show Y / 64 < 18446744073709551616 by omega)
          rw [show ((X / 128 : Nat) : Int) = (X : Int) / 128 by omega, show rot64 X 1 ^^^ rot64 X 8 ^^^ X / 128 = s0M X from rfl] at hx0
          rw [show ((Y / 64 : Nat) : Int) = (Y : Int) / 64 by omega, show rot64 Y 19 ^^^ rot64 Y 61 ^^^ Y / 64 = s1M Y from rfl] at hx1
          generalize rot64 X 1 = r1 at *
          generalize rot64 X 8 = r2 at *
          generalize rot64 Y 19 = r3 at *
          generalize rot64 Y 61 = r4 at *
          generalize s0M X = a0 at *
          generalize s1M Y = a1 at *
          have e1 : IntKind.u64.wrap ((P : Int) + (a0 : Int)) = ((P + a0) % 18446744073709551616 : Nat) := by rw [IntKind.wrap_u64]; omega
          generalize hq1 : (P + a0) % 18446744073709551616 = q1 at *
          have e2 : IntKind.u64.wrap ((q1 : Int) + (Q : Int)) = ((q1 + Q) % 18446744073709551616 : Nat) := by rw [IntKind.wrap_u64]; omega
          generalize hq2 : (q1 + Q) % 18446744073709551616 = q2 at *
          have e3 : IntKind.u64.wrap ((q2 : Int) + (a1 : Int)) = (z : Int) := by rw [IntKind.wrap_u64]; omega
          clear hq1 hq2 hz hX hY hP hQ hi16 hi15 hi7 hi2 hlt hlen hcell
          go_wp2_with fail
          go_region
          all_goals
            go_wp2_with fail
            refine (J1.out _).mono ?_
            rintro e w3 ⟨rfl, rfl⟩
            go_wp2_with fail
            refine (J2.out _).mono ?_
            rintro e w3 ⟨rfl, rfl⟩
            go_wp2_with fail
            refine (J3.out _).mono ?_
            rintro e w3 ⟨rfl, rfl⟩
            go_wp2_with fail
            refine (J4.out _).mono ?_
            rintro e w3 ⟨rfl, rfl⟩
            go_wp2_with fail
            go_region
            all_goals
              go_wp2_with fail
              go_roundw
              case rel => exact ⟨t + 1, by omega, by omega, by go_num, by unfold Hid; rw [← HN.out]; exact ((HA.out.grew (Kept.refl Nought wr).drew).set t z), HK.out.next (((Kept.refl (fun b => b = w.heap.size + 1) wr).drew.setCell ⟨w.heap.size + 1, t, none⟩ (fun _ => rfl) (.int .u64 (z : Nat))).drew) (fun x _ h => h)⟩
              case measure => simp [intOf]; omega
        · have g1 : ¬ (t : Int) < 80 := by omega
          have hA := HA.out
          rw [show t = 80 by omega, Nat.sub_self, List.replicate_zero, List.append_nil] at hA
          have hO := HO1.out.kept HK.out (by omega)
          have KW := KW1.out.next HK.out (fun x hx e => by have e' : x = w.heap.size + 1 := e; omega)
          obtain ⟨ws, hws⟩ : ∃ ws, ws = wlM bs 80 := ⟨_, rfl⟩
          have hwl : ws.length = 80 := by rw [hws]; exact wlM_length _ _
          rw [← hws] at hA
          have HWS := toHid hws
          have hi64 : (Tryd.prog.info? 68).map (·.size) = some ((ws.map fun z => Value.int .u64 (z : Nat)).toArray).size := by
            rw [List.size_toArray, List.length_map, hwl]
            kernel_rfl
          have hsz : ((List.replicate 80 0).map fun z : Nat => Value.int .u64 (z : Int)).toArray.size = ((ws.map fun z => Value.int .u64 (z : Nat)).toArray).size := by
            rw [List.size_toArray, List.length_map, List.size_toArray, List.length_map, hwl, List.length_replicate]
          have hone : ((ws.map fun z => Value.int .u64 (z : Nat)).toArray).all (·.oneCell') = true := all_one _ _
          have hfin : Arr .u64 68 (wr.setRow w.heap.size (ws.map fun z => Value.int .u64 (z : Nat)).toArray) w.heap.size ws := setRow_heap wr w.heap.size _ _ _ _ hO
          have KF := KW.next (kept_setRow wr w.heap.size (ws.map fun z => Value.int .u64 (z : Nat)).toArray) (fun x hx e => by have e' : x = w.heap.size := e; omega)
          have HA9 := toHid hA
          have HO9 := toHid hO
          have H64 := toHid hi64
          have HSZ := toHid hsz
          have HON := toHid hone
          have HFI := toHid hfin
          have HKF := toHid KF
          clear hws hA hO hi64 hsz hone hfin KF KW HA HK HO1 HA1 KW1
          go_wp2_with (first
            | refine wpList_load_row rfl 68 _ rfl (w.heap.size + 1) rfl 68 _ (0, 0) _ HA9.out Tryd.underlying68 rfl H64.out ?_
            | refine wpList_store_row rfl 68 _ _ rfl w.heap.size _ rfl rfl 68 _ HO9.out H64.out HSZ.out HON.out ?_)
          rw [← HWS.out]
          exact bodyPost_ret (v := .agg (ws.map fun z => Value.int .u64 (z : Nat)).toArray) (results_cell_row Tryd.results57 _ _ w.heap.size 68 _ (0, 0) _ rfl HFI.out Tryd.underlying68 rfl H64.out) rfl ⟨rfl, HKF.out⟩

end Go.Proofs.YthnkganmccgaeaaDoor

