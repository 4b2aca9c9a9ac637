/- Package sha512: its tables in memory; words turned; where hashes begin. -/
import Derived.Test.YthnkganmccgaeaaDoorShb5
import Derived.Test.YthnkganmccgaeaaDoorArr1
import Derived.Deep.RegionHeld3
namespace Go.Proofs.YthnkganmccgaeaaDoor
open Go.RowKit

/-- The package's tables, as they lie in memory. -/
structure Tab12 (w : World) : Prop where
  start : ∀ i, i < 8 → w.cell? ⟨2, i, none⟩ = some (.int .u64 (H512.getD i 0 : Nat))
  short : ∀ i, i < 8 → w.cell? ⟨1, i, none⟩ = some (.int .u64 (H384.getD i 0 : Nat))
  words : ∀ i, i < 80 → w.cell? ⟨5, i, none⟩ = some (.int .u64 (K512.getD i 0 : Nat))

theorem Tab12.grew {w w' : World} (h : Tab12 w) (k : Kept Nought w w') : Tab12 w' := ⟨fun i hi => k.cellN (h.start i hi), fun i hi => k.cellN (h.short i hi), fun i hi => k.cellN (h.words i hi)⟩

theorem and63 (M : Nat) (hM : M < 18446744073709551616) : bits .and .u64 (M : Int) 63 = ((M % 64 : Nat) : Int) := by
  have h := u64_and_nat M 63 hM (by omega)
  rw [show (63 : Int) = ((63 : Nat) : Int) from rfl, h]
  congr 1
  exact Nat.and_two_pow_sub_one_eq_mod M 6

set_option maxHeartbeats 400000 in
/-- bits.RotateLeft64 by a count below 0. -/
theorem mRot (x n : Nat) (hx : x < 18446744073709551616) (hn0 : 0 < n) (hn : n < 64) (w : World) :
    Calls Tryd.prog 63 #[.int .u64 (x : Nat), .int .i64 (-(n : Int))] w fun e w' => e = .returned (.int .u64 (rot64 x n : Nat)) ∧ w' = w := by
  have h1 : x / 2 ^ n < 18446744073709551616 := Nat.lt_of_le_of_lt (Nat.div_le_self _ _) hx
  have h2 : x * 2 ^ (64 - n) % 18446744073709551616 < 18446744073709551616 := Nat.mod_lt _ (by omega)
  have hor := u64_or_nat _ _ h2 h1
  rw [show (x * 2 ^ (64 - n) % 18446744073709551616 ||| x / 2 ^ n) = rot64 x n from Nat.or_comm _ _] at hor
  obtain ⟨k, hk⟩ : ∃ k, k = 64 - n := ⟨_, rfl⟩
  obtain ⟨M, hM⟩ : ∃ M : Nat, M = 18446744073709551616 - n := ⟨_, rfl⟩
  rw [← hk] at hor
  have hw : IntKind.u64.wrap (-(n : Int)) = (M : Int) := by rw [IntKind.wrap_u64]; omega
  have ha : bits .and .u64 (M : Int) 63 = (k : Int) := by
    rw [and63 M (by omega)]
    congr 1
    omega
  have g1 : (64 : Int) - (k : Int) = (n : Int) := by omega
  have gk : k < 64 := by omega
  have c1 : ((x / 2 ^ n : Nat) : Int) = (x : Int) / 2 ^ n := by simp
  have c2 : ((x * 2 ^ k % 18446744073709551616 : Nat) : Int) = IntKind.u64.wrap ((x : Int) * 2 ^ k) := by rw [IntKind.wrap_u64]; simp
  rw [c1, c2] at hor
  clear c1 c2 hk hM h1 h2
  go_enter Tryd.func63, Tryd.ntmps63
  go_wp2_with fail
  go_ret
  exact ⟨rfl, rfl⟩

set_option maxHeartbeats 400000 in
/-- right. -/
theorem mRight (x n : Nat) (hx : x < 18446744073709551616) (hn0 : 0 < n) (hn : n < 64) (w : World) :
    Calls Tryd.prog 61 #[.int .u64 (x : Nat), .int .i64 (n : Int)] w fun e w' => e = .returned (.int .u64 (rot64 x n : Nat)) ∧ w' = w := by
  have h := mRot x n hx hn0 hn w
  go_enter Tryd.func61, Tryd.ntmps61
  go_wp2_with fail
  refine h.mono ?_
  rintro e w1 ⟨rfl, rfl⟩
  go_wp2_with fail
  go_ret
  exact ⟨rfl, rfl⟩

theorem ch_or64 {e f g : Nat} (he : e < 18446744073709551616) : (e &&& f) ||| ((18446744073709551615 ^^^ e) &&& g) = chM e f g := by
  unfold chM
  apply Nat.eq_of_testBit_eq
  intro i
  simp only [Nat.testBit_or, Nat.testBit_xor, Nat.testBit_and]
  by_cases hi : i < 64
  · have hm : Nat.testBit 18446744073709551615 i = true := by
      have := Nat.testBit_two_pow_sub_one 64 i
      simpa [hi] using this
    rw [hm]
    cases e.testBit i <;> cases f.testBit i <;> cases g.testBit i <;> rfl
  · have h1 : e.testBit i = false := Nat.testBit_lt_two_pow (Nat.lt_of_lt_of_le he (Nat.pow_le_pow_right (n := 2) (by omega) (by omega : 64 ≤ i)))
    rw [h1]
    cases Nat.testBit 18446744073709551615 i <;> cases f.testBit i <;> cases g.testBit i <;> rfl

theorem maj_or64 (a b c : Nat) : (a &&& b) ||| (a &&& c) ||| (b &&& c) = majM a b c := by
  unfold majM
  apply Nat.eq_of_testBit_eq
  intro i
  simp only [Nat.testBit_or, Nat.testBit_xor, Nat.testBit_and]
  cases a.testBit i <;> cases b.testBit i <;> cases c.testBit i <;> rfl

theorem ch_bitsO64 {e f g : Nat} (he : e < 18446744073709551616) (hf : f < 18446744073709551616) (hg : g < 18446744073709551616) : bits .or .u64 (bits .and .u64 (e : Int) (f : Int)) (bits .and .u64 (bits .xor .u64 IntKind.u64.max (e : Int)) (g : Int)) = ((chM e f g : Nat) : Int) := by
  have h := u64_xor_nat 18446744073709551615 e (by omega) he
  rw [show IntKind.u64.max = ((18446744073709551615 : Nat) : Int) from rfl, h, u64_and_nat e f he hf, u64_and_nat _ g (xor64 (by omega) he) hg, u64_or_nat _ _ (and64 hf) (and64 hg), ch_or64 he]

theorem maj_bitsO64 {a b c : Nat} (ha : a < 18446744073709551616) (hb : b < 18446744073709551616) (hc : c < 18446744073709551616) : bits .or .u64 (bits .or .u64 (bits .and .u64 (a : Int) (b : Int)) (bits .and .u64 (a : Int) (c : Int))) (bits .and .u64 (b : Int) (c : Int)) = ((majM a b c : Nat) : Int) := by
  rw [u64_and_nat a b ha hb, u64_and_nat a c ha hc, u64_and_nat b c hb hc, u64_or_nat _ _ (and64 hb) (and64 hc), u64_or_nat _ _ (or64 (and64 hb) (and64 hc)) (and64 hc), maj_or64]

/-- A word of m bytes, the highest ahead. -/
def pwM (bs : List Nat) (q : Nat) : Nat → Nat
  | 0 => 0
  | m + 1 => pwM bs q m * 256 + bs.getD (8 * q + m) 0

theorem pwM_lt {bs : List Nat} (hd : Digs 256 bs) (q : Nat) : ∀ m, pwM bs q m < 256 ^ m
  | 0 => by simp [pwM]
  | m + 1 => by
    have h := pwM_lt hd q m
    have hb : bs.getD (8 * q + m) 0 < 256 := hd.getD (by omega) _
    unfold pwM
    rw [Nat.pow_succ]
    omega

/-- The words while a block's bytes are taken in. -/
def exM (bs : List Nat) (i : Nat) : List Nat := (List.range 80).map fun q => pwM bs q (min 8 (i - 8 * q))

theorem exM_length (bs : List Nat) (i : Nat) : (exM bs i).length = 80 := by unfold exM; simp

theorem exM_get {bs : List Nat} {i q : Nat} (h : q < (exM bs i).length) : (exM bs i)[q] = pwM bs q (min 8 (i - 8 * q)) := by simp [exM]

theorem exM_at {bs : List Nat} {i : Nat} (hi : i < 128) : (exM bs i).getD (i / 8) 0 = pwM bs (i / 8) (i % 8) := by
  unfold exM
  rw [List.getD_eq_getElem?_getD, List.getElem?_map, List.getElem?_range (by omega)]
  show pwM bs (i / 8) (min 8 (i - 8 * (i / 8))) = _
  congr 1
  omega

theorem exM_set {bs : List Nat} {i z : Nat} (hz : z = pwM bs (i / 8) (i % 8) * 256 + bs.getD i 0) : (exM bs i).set (i / 8) z = exM bs (i + 1) := by
  apply List.ext_getElem
  · simp [exM]
  · intro q h1 h2
    rw [List.getElem_set, exM_get, exM_get]
    split
    · next h =>
      subst h
      rw [hz, show min 8 (i + 1 - 8 * (i / 8)) = i % 8 + 1 by omega]
      show _ = pwM bs (i / 8) (i % 8) * 256 + bs.getD (8 * (i / 8) + i % 8) 0
      rw [show 8 * (i / 8) + i % 8 = i by omega]
    · next h =>
      congr 1
      omega

theorem w8_pw {bs : List Nat} (hd : Digs 256 bs) (q : Nat) : ∀ m, w8M bs q m = pwM bs q m
  | 0 => rfl
  | m + 1 => by
    have hb : bs.getD (8 * q + m) 0 < 256 := hd.getD (by omega) _
    have h2 := Nat.two_pow_add_eq_or_of_lt (i := 8) (b := bs.getD (8 * q + m) 0) (by omega) (pwM bs q m)
    unfold w8M pwM
    rw [w8_pw hd q m, show pwM bs q m * 256 = 2 ^ 8 * pwM bs q m by omega, ← h2]

theorem wlM_first {bs : List Nat} (hd : Digs 256 bs) : ∀ t, t ≤ 16 → wlM bs t = (List.range t).map fun q => pwM bs q 8
  | 0, _ => rfl
  | t + 1, ht => by
    rw [List.range_succ, List.map_append, ← wlM_first hd t (by omega)]
    show wlM bs t ++ [_] = _
    rw [if_pos (by omega), w8_pw hd]
    rfl

theorem exM_end {bs : List Nat} (hd : Digs 256 bs) : exM bs 128 = wlM bs 16 ++ List.replicate 64 0 := by
  rw [wlM_first hd 16 (Nat.le_refl _)]
  apply List.ext_getElem
  · simp [exM]
  · intro q h1 h2
    have hq : q < 80 := by simpa [exM] using h1
    rw [exM_get, List.getElem_append]
    split
    · next h =>
      have hq16 : q < 16 := by simpa using h
      rw [List.getElem_map, List.getElem_range, show min 8 (128 - 8 * q) = 8 by omega]
    · next h =>
      have hq16 : ¬ q < 16 := by simpa using h
      rw [List.getElem_replicate, show min 8 (128 - 8 * q) = 0 by omega]
      rfl

theorem exM_zero (bs : List Nat) : exM bs 0 = List.replicate 80 0 := by
  apply List.ext_getElem
  · simp [exM]
  · intro q h1 h2
    rw [exM_get, List.getElem_replicate, show min 8 (0 - 8 * q) = 0 by omega]
    rfl

end Go.Proofs.YthnkganmccgaeaaDoor
