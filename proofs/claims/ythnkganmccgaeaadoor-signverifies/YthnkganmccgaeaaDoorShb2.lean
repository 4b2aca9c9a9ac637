/- SHA-512's numbers: plain mathematics. -/
import Derived.Test.YthnkganmccgaeaaDoorShb1
namespace Go.Proofs.YthnkganmccgaeaaDoor
open Go.RowKit

theorem K512_lt : Digs 18446744073709551616 K512 := by unfold Digs K512; decide

/-- The schedule's two functions. -/
def s0M (x : Nat) : Nat := rot64 x 1 ^^^ rot64 x 8 ^^^ x / 128
def s1M (x : Nat) : Nat := rot64 x 19 ^^^ rot64 x 61 ^^^ x / 64
/-- The rounds' functions. -/
def S0M (x : Nat) : Nat := rot64 x 28 ^^^ rot64 x 34 ^^^ rot64 x 39
def S1M (x : Nat) : Nat := rot64 x 14 ^^^ rot64 x 18 ^^^ rot64 x 41
def chM (e f g : Nat) : Nat := (e &&& f) ^^^ ((18446744073709551615 ^^^ e) &&& g)
def majM (a b c : Nat) : Nat := (a &&& b) ^^^ (a &&& c) ^^^ (b &&& c)

theorem xor64 {a b : Nat} (ha : a < 18446744073709551616) (hb : b < 18446744073709551616) : a ^^^ b < 18446744073709551616 := Nat.xor_lt_two_pow (n := 64) ha hb

theorem and64 {a b : Nat} (hb : b < 18446744073709551616) : a &&& b < 18446744073709551616 := Nat.lt_of_le_of_lt Nat.and_le_right hb

theorem or64 {a b : Nat} (ha : a < 18446744073709551616) (hb : b < 18446744073709551616) : a ||| b < 18446744073709551616 := Nat.or_lt_two_pow (n := 64) ha hb

theorem s0M_lt {x : Nat} (h : x < 18446744073709551616) : s0M x < 18446744073709551616 := xor64 (xor64 (rot64_lt _ _ h) (rot64_lt _ _ h)) (Nat.lt_of_le_of_lt (Nat.div_le_self _ _) h)
theorem s1M_lt {x : Nat} (h : x < 18446744073709551616) : s1M x < 18446744073709551616 := xor64 (xor64 (rot64_lt _ _ h) (rot64_lt _ _ h)) (Nat.lt_of_le_of_lt (Nat.div_le_self _ _) h)
theorem S0M_lt {x : Nat} (h : x < 18446744073709551616) : S0M x < 18446744073709551616 := xor64 (xor64 (rot64_lt _ _ h) (rot64_lt _ _ h)) (rot64_lt _ _ h)
theorem S1M_lt {x : Nat} (h : x < 18446744073709551616) : S1M x < 18446744073709551616 := xor64 (xor64 (rot64_lt _ _ h) (rot64_lt _ _ h)) (rot64_lt _ _ h)
theorem chM_lt {e f g : Nat} (hf : f < 18446744073709551616) (hg : g < 18446744073709551616) : chM e f g < 18446744073709551616 := xor64 (and64 hf) (and64 hg)
theorem majM_lt {a b c : Nat} (hb : b < 18446744073709551616) (hc : c < 18446744073709551616) : majM a b c < 18446744073709551616 := xor64 (xor64 (and64 hb) (and64 hc)) (and64 hc)

/-- The word of the first i bytes at t, the highest ahead. -/
def w8M (bs : List Nat) (t : Nat) : Nat → Nat
  | 0 => 0
  | i + 1 => w8M bs t i * 256 ||| bs.getD (8 * t + i) 0

theorem w8M_lt {bs : List Nat} (hd : Digs 256 bs) (t : Nat) : ∀ i, i ≤ 8 → w8M bs t i < 256 ^ i
  | 0, _ => by simp [w8M]
  | i + 1, h => by
    have ih := w8M_lt hd t i (by omega)
    have hb : bs.getD (8 * t + i) 0 < 256 := hd.getD (by omega) _
    unfold w8M
    have e : (256 : Nat) ^ (i + 1) = 2 ^ (8 * (i + 1)) := by rw [show (256 : Nat) = 2 ^ 8 from rfl, ← Nat.pow_mul]
    rw [e]
    apply Nat.or_lt_two_pow
    · rw [← e, Nat.pow_succ]
      omega
    · have : (2 : Nat) ^ 8 ≤ 2 ^ (8 * (i + 1)) := Nat.pow_le_pow_right (by omega) (by omega)
      omega

/-- The schedule: its first t words. -/
def wlM (bs : List Nat) : Nat → List Nat
  | 0 => []
  | t + 1 => wlM bs t ++ [if t < 16 then w8M bs t 8 else
      ((wlM bs t).getD (t - 16) 0 + s0M ((wlM bs t).getD (t - 15) 0) + (wlM bs t).getD (t - 7) 0 + s1M ((wlM bs t).getD (t - 2) 0)) % 18446744073709551616]

theorem wlM_length (bs : List Nat) : ∀ t, (wlM bs t).length = t
  | 0 => rfl
  | t + 1 => by unfold wlM; rw [List.length_append, wlM_length bs t]; rfl

theorem wlM_digs {bs : List Nat} (hd : Digs 256 bs) : ∀ t, Digs 18446744073709551616 (wlM bs t)
  | 0 => Digs.nil _
  | t + 1 => by
    unfold wlM
    refine (wlM_digs hd t).append (Digs.one ?_)
    split
    · exact w8M_lt hd t 8 (Nat.le_refl _)
    · exact Nat.mod_lt _ (by omega)

/-- One round. -/
def rndM (r : List Nat) (k w : Nat) : List Nat :=
  [(r.getD 7 0 + S1M (r.getD 4 0) + chM (r.getD 4 0) (r.getD 5 0) (r.getD 6 0) + k + w + (S0M (r.getD 0 0) + majM (r.getD 0 0) (r.getD 1 0) (r.getD 2 0))) % 18446744073709551616, r.getD 0 0, r.getD 1 0, r.getD 2 0,
    (r.getD 3 0 + (r.getD 7 0 + S1M (r.getD 4 0) + chM (r.getD 4 0) (r.getD 5 0) (r.getD 6 0) + k + w)) % 18446744073709551616, r.getD 4 0, r.getD 5 0, r.getD 6 0]

/-- So many rounds. -/
def rndsM (ws s : List Nat) : Nat → List Nat
  | 0 => s
  | t + 1 => rndM (rndsM ws s t) (K512.getD t 0) (ws.getD t 0)

theorem rndsM_length (ws s : List Nat) (hs : s.length = 8) : ∀ t, (rndsM ws s t).length = 8
  | 0 => hs
  | _ + 1 => rfl

theorem rndsM_digs {ws s : List Nat} (hs : Digs 18446744073709551616 s) : ∀ t, Digs 18446744073709551616 (rndsM ws s t)
  | 0 => hs
  | t + 1 => by
    have ih := rndsM_digs (ws := ws) hs t
    unfold rndsM rndM
    intro d hd
    simp only [List.mem_cons, List.not_mem_nil, or_false] at hd
    have h : ∀ i, (rndsM ws s t).getD i 0 < 18446744073709551616 := fun i => ih.getD (by omega) i
    rcases hd with rfl | rfl | rfl | rfl | rfl | rfl | rfl | rfl
    · exact Nat.mod_lt _ (by omega)
    · exact h _
    · exact h _
    · exact h _
    · exact Nat.mod_lt _ (by omega)
    · exact h _
    · exact h _
    · exact h _

/-- What a block makes of a state. -/
def blkM (s bs : List Nat) : List Nat := (List.range 8).map fun i => ((rndsM (wlM bs 80) s 80).getD i 0 + s.getD i 0) % 18446744073709551616

theorem xor3M {a b c : Nat} (ha : a < 18446744073709551616) (hb : b < 18446744073709551616) (hc : c < 18446744073709551616) : bits .xor .u64 (bits .xor .u64 (a : Int) (b : Int)) (c : Int) = ((a ^^^ b ^^^ c : Nat) : Int) := by
  rw [u64_xor_nat a b ha hb, u64_xor_nat _ c (xor64 ha hb) hc]

theorem ch_bitsM {e f g : Nat} (he : e < 18446744073709551616) (hf : f < 18446744073709551616) (hg : g < 18446744073709551616) : bits .xor .u64 (bits .and .u64 (e : Int) (f : Int)) (bits .and .u64 (bits .xor .u64 IntKind.u64.max (e : Int)) (g : Int)) = ((chM e f g : Nat) : Int) := by
  have h := u64_xor_nat 18446744073709551615 e (by omega) he
  rw [show IntKind.u64.max = ((18446744073709551615 : Nat) : Int) from rfl, h, u64_and_nat e f he hf, u64_and_nat _ g (xor64 (by omega) he) hg, u64_xor_nat _ _ (and64 hf) (and64 hg)]
  rfl

theorem maj_bitsM {a b c : Nat} (ha : a < 18446744073709551616) (hb : b < 18446744073709551616) (hc : c < 18446744073709551616) : bits .xor .u64 (bits .xor .u64 (bits .and .u64 (a : Int) (b : Int)) (bits .and .u64 (a : Int) (c : Int))) (bits .and .u64 (b : Int) (c : Int)) = ((majM a b c : Nat) : Int) := by
  rw [u64_and_nat a b ha hb, u64_and_nat a c ha hc, u64_and_nat b c hb hc]
  exact xor3M (and64 hb) (and64 hc) (and64 hc)

/-- The state while s is being added. -/
def adM (r s : List Nat) (i : Nat) : List Nat := ((List.range i).map fun j => (r.getD j 0 + s.getD j 0) % 18446744073709551616) ++ r.drop i

theorem adM_length {r s : List Nat} {i : Nat} (hr : r.length = 8) (hi : i ≤ 8) : (adM r s i).length = 8 := by
  unfold adM
  rw [List.length_append, List.length_map, List.length_range, List.length_drop]
  omega

theorem adM_at {r s : List Nat} {i : Nat} : (adM r s i).getD i 0 = r.getD i 0 := by
  unfold adM
  rw [List.getD_eq_getElem?_getD, List.getElem?_append_right (by simp), List.length_map, List.length_range, Nat.sub_self, List.getElem?_drop, Nat.add_zero, ← List.getD_eq_getElem?_getD]

theorem adM_set {r s : List Nat} {i z : Nat} (hr : r.length = 8) (hi : i < 8) (hz : z = (r.getD i 0 + s.getD i 0) % 18446744073709551616) : (adM r s i).set i z = adM r s (i + 1) := by
  unfold adM
  rw [List.set_append_right _ _ (by simp), List.length_map, List.length_range, Nat.sub_self, List.drop_eq_getElem_cons (by omega), List.set_cons_zero, List.range_succ, List.map_append, List.append_assoc, hz]
  rfl

/-- Test: the hash of "abc". -/
theorem blk_abcM : (blkM H512 ([97, 98, 99, 128] ++ List.replicate 123 0 ++ [24])).getD 0 0 = 15974045371385084602 := by
  decide +kernel

end Go.Proofs.YthnkganmccgaeaaDoor
