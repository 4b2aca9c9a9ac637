/- SHA-256's numbers: plain mathematics; arrays of words in memory. -/
import Derived.Test.YthnkganmccgaeaaDoorSha1
import Derived.Test.YthnkganmccgaeaaDoorArr0
namespace Go.Proofs.YthnkganmccgaeaaDoor
open Go.RowKit

theorem K256_lt : Digs 4294967296 K256 := by unfold Digs K256; decide

/-- The schedule's two functions. -/
def s0N (x : Nat) : Nat := rot32 x 7 ^^^ rot32 x 18 ^^^ x / 8
def s1N (x : Nat) : Nat := rot32 x 17 ^^^ rot32 x 19 ^^^ x / 1024
/-- The rounds' functions. -/
def S0N (x : Nat) : Nat := rot32 x 2 ^^^ rot32 x 13 ^^^ rot32 x 22
def S1N (x : Nat) : Nat := rot32 x 6 ^^^ rot32 x 11 ^^^ rot32 x 25
def chN (e f g : Nat) : Nat := (e &&& f) ^^^ ((4294967295 ^^^ e) &&& g)
def majN (a b c : Nat) : Nat := (a &&& b) ^^^ (a &&& c) ^^^ (b &&& c)

theorem xor32 {a b : Nat} (ha : a < 4294967296) (hb : b < 4294967296) : a ^^^ b < 4294967296 := Nat.xor_lt_two_pow (n := 32) ha hb

theorem and32 {a b : Nat} (hb : b < 4294967296) : a &&& b < 4294967296 := Nat.lt_of_le_of_lt Nat.and_le_right hb

theorem or32 {a b : Nat} (ha : a < 4294967296) (hb : b < 4294967296) : a ||| b < 4294967296 := Nat.or_lt_two_pow (n := 32) ha hb

theorem s0N_lt {x : Nat} (h : x < 4294967296) : s0N x < 4294967296 := xor32 (xor32 (rot32_lt _ _ h) (rot32_lt _ _ h)) (Nat.lt_of_le_of_lt (Nat.div_le_self _ _) h)
theorem s1N_lt {x : Nat} (h : x < 4294967296) : s1N x < 4294967296 := xor32 (xor32 (rot32_lt _ _ h) (rot32_lt _ _ h)) (Nat.lt_of_le_of_lt (Nat.div_le_self _ _) h)
theorem S0N_lt {x : Nat} (h : x < 4294967296) : S0N x < 4294967296 := xor32 (xor32 (rot32_lt _ _ h) (rot32_lt _ _ h)) (rot32_lt _ _ h)
theorem S1N_lt {x : Nat} (h : x < 4294967296) : S1N x < 4294967296 := xor32 (xor32 (rot32_lt _ _ h) (rot32_lt _ _ h)) (rot32_lt _ _ h)
theorem chN_lt {e f g : Nat} (hf : f < 4294967296) (hg : g < 4294967296) : chN e f g < 4294967296 := xor32 (and32 hf) (and32 hg)
theorem majN_lt {a b c : Nat} (hb : b < 4294967296) (hc : c < 4294967296) : majN a b c < 4294967296 := xor32 (xor32 (and32 hb) (and32 hc)) (and32 hc)

/-- A word of four bytes, the highest ahead. -/
def w4N (a b c d : Nat) : Nat := a * 16777216 ||| b * 65536 ||| c * 256 ||| d

theorem w4N_lt {a b c d : Nat} (ha : a < 256) (hb : b < 256) (hc : c < 256) (hd : d < 256) : w4N a b c d < 4294967296 := or32 (or32 (or32 (by omega) (by omega)) (by omega)) (by omega)

/-- The schedule: its first t words. -/
def wlN (bs : List Nat) : Nat → List Nat
  | 0 => []
  | t + 1 => wlN bs t ++ [if t < 16 then w4N (bs.getD (4 * t) 0) (bs.getD (4 * t + 1) 0) (bs.getD (4 * t + 2) 0) (bs.getD (4 * t + 3) 0) else
      ((wlN bs t).getD (t - 16) 0 + s0N ((wlN bs t).getD (t - 15) 0) + (wlN bs t).getD (t - 7) 0 + s1N ((wlN bs t).getD (t - 2) 0)) % 4294967296]

theorem wlN_length (bs : List Nat) : ∀ t, (wlN bs t).length = t
  | 0 => rfl
  | t + 1 => by unfold wlN; rw [List.length_append, wlN_length bs t]; rfl

theorem wlN_digs {bs : List Nat} (hd : Digs 256 bs) : ∀ t, Digs 4294967296 (wlN bs t)
  | 0 => Digs.nil _
  | t + 1 => by
    unfold wlN
    refine (wlN_digs hd t).append (Digs.one ?_)
    split
    · exact w4N_lt (hd.getD (by omega) _) (hd.getD (by omega) _) (hd.getD (by omega) _) (hd.getD (by omega) _)
    · exact Nat.mod_lt _ (by omega)

/-- One round. -/
def rndN (r : List Nat) (k w : Nat) : List Nat :=
  [(r.getD 7 0 + S1N (r.getD 4 0) + chN (r.getD 4 0) (r.getD 5 0) (r.getD 6 0) + k + w + (S0N (r.getD 0 0) + majN (r.getD 0 0) (r.getD 1 0) (r.getD 2 0))) % 4294967296, r.getD 0 0, r.getD 1 0, r.getD 2 0,
    (r.getD 3 0 + (r.getD 7 0 + S1N (r.getD 4 0) + chN (r.getD 4 0) (r.getD 5 0) (r.getD 6 0) + k + w)) % 4294967296, r.getD 4 0, r.getD 5 0, r.getD 6 0]

/-- So many rounds. -/
def rndsN (ws s : List Nat) : Nat → List Nat
  | 0 => s
  | t + 1 => rndN (rndsN ws s t) (K256.getD t 0) (ws.getD t 0)

theorem rndsN_length (ws s : List Nat) (hs : s.length = 8) : ∀ t, (rndsN ws s t).length = 8
  | 0 => hs
  | _ + 1 => rfl

theorem rndsN_digs {ws s : List Nat} (hs : Digs 4294967296 s) : ∀ t, Digs 4294967296 (rndsN ws s t)
  | 0 => hs
  | t + 1 => by
    have ih := rndsN_digs (ws := ws) hs t
    unfold rndsN rndN
    intro d hd
    simp only [List.mem_cons, List.not_mem_nil, or_false] at hd
    have h : ∀ i, (rndsN ws s t).getD i 0 < 4294967296 := fun i => ih.getD (by omega) i
    rcases hd with rfl | rfl | rfl | rfl | rfl | rfl | rfl | rfl
    · exact Nat.mod_lt _ (by omega)
    · exact h _
    · exact h _
    · exact h _
    · exact Nat.mod_lt _ (by omega)
    · exact h _
    · exact h _
    · exact h _

/-- What a block makes of a state. -/
def blkN (s bs : List Nat) : List Nat := (List.range 8).map fun i => ((rndsN (wlN bs 64) s 64).getD i 0 + s.getD i 0) % 4294967296

theorem xor3 {a b c : Nat} (ha : a < 4294967296) (hb : b < 4294967296) (hc : c < 4294967296) : bits .xor .u32 (bits .xor .u32 (a : Int) (b : Int)) (c : Int) = ((a ^^^ b ^^^ c : Nat) : Int) := by
  rw [u32_xor_nat a b ha hb, u32_xor_nat _ c (xor32 ha hb) hc]

theorem ch_bits {e f g : Nat} (he : e < 4294967296) (hf : f < 4294967296) (hg : g < 4294967296) : bits .xor .u32 (bits .and .u32 (e : Int) (f : Int)) (bits .and .u32 (bits .xor .u32 IntKind.u32.max (e : Int)) (g : Int)) = ((chN e f g : Nat) : Int) := by
  have h := u32_xor_nat 4294967295 e (by omega) he
  rw [show IntKind.u32.max = ((4294967295 : Nat) : Int) from rfl, h, u32_and_nat e f he hf, u32_and_nat _ g (xor32 (by omega) he) hg, u32_xor_nat _ _ (and32 hf) (and32 hg)]
  rfl

theorem maj_bits {a b c : Nat} (ha : a < 4294967296) (hb : b < 4294967296) (hc : c < 4294967296) : bits .xor .u32 (bits .xor .u32 (bits .and .u32 (a : Int) (b : Int)) (bits .and .u32 (a : Int) (c : Int))) (bits .and .u32 (b : Int) (c : Int)) = ((majN a b c : Nat) : Int) := by
  rw [u32_and_nat a b ha hb, u32_and_nat a c ha hc, u32_and_nat b c hb hc]
  exact xor3 (and32 hb) (and32 hc) (and32 hc)

/-- A state that was written whole. -/
theorem Arr.put8 {k : IntKind} {t : TypeId} {w : World} {b : Nat} {zs : List Nat} (h : Arr k t w b zs) (hl : zs.length = 8) (x0 x1 x2 x3 x4 x5 x6 x7 : Nat) :
    Arr k t ((((((((w.setCell ⟨b, 0, none⟩ (.int k (x0 : Nat))).setCell ⟨b, 1, none⟩ (.int k (x1 : Nat))).setCell ⟨b, 2, none⟩ (.int k (x2 : Nat))).setCell ⟨b, 3, none⟩ (.int k (x3 : Nat))).setCell ⟨b, 4, none⟩ (.int k (x4 : Nat))).setCell ⟨b, 5, none⟩ (.int k (x5 : Nat))).setCell ⟨b, 6, none⟩ (.int k (x6 : Nat))).setCell ⟨b, 7, none⟩ (.int k (x7 : Nat))) b [x0, x1, x2, x3, x4, x5, x6, x7] := by
  match zs, hl with
  | [_, _, _, _, _, _, _, _], _ => exact (((((((h.set 0 x0).set 1 x1).set 2 x2).set 3 x3).set 4 x4).set 5 x5).set 6 x6).set 7 x7

theorem kept8 (w : World) (b : Nat) (x0 x1 x2 x3 x4 x5 x6 x7 : Value) : Kept (fun x => x = b) w ((((((((w.setCell ⟨b, 0, none⟩ x0).setCell ⟨b, 1, none⟩ x1).setCell ⟨b, 2, none⟩ x2).setCell ⟨b, 3, none⟩ x3).setCell ⟨b, 4, none⟩ x4).setCell ⟨b, 5, none⟩ x5).setCell ⟨b, 6, none⟩ x6).setCell ⟨b, 7, none⟩ x7) :=
  ((((((((Kept.refl (fun x => x = b) w).setCell ⟨b, 0, none⟩ (fun _ => rfl) x0).setCell ⟨b, 1, none⟩ (fun _ => rfl) x1).setCell ⟨b, 2, none⟩ (fun _ => rfl) x2).setCell ⟨b, 3, none⟩ (fun _ => rfl) x3).setCell ⟨b, 4, none⟩ (fun _ => rfl) x4).setCell ⟨b, 5, none⟩ (fun _ => rfl) x5).setCell ⟨b, 6, none⟩ (fun _ => rfl) x6).setCell ⟨b, 7, none⟩ (fun _ => rfl) x7

/-- The state while s is being added. -/
def adN (r s : List Nat) (i : Nat) : List Nat := ((List.range i).map fun j => (r.getD j 0 + s.getD j 0) % 4294967296) ++ r.drop i

theorem adN_length {r s : List Nat} {i : Nat} (hr : r.length = 8) (hi : i ≤ 8) : (adN r s i).length = 8 := by
  unfold adN
  rw [List.length_append, List.length_map, List.length_range, List.length_drop]
  omega

theorem adN_at {r s : List Nat} {i : Nat} : (adN r s i).getD i 0 = r.getD i 0 := by
  unfold adN
  rw [List.getD_eq_getElem?_getD, List.getElem?_append_right (by simp), List.length_map, List.length_range, Nat.sub_self, List.getElem?_drop, Nat.add_zero, ← List.getD_eq_getElem?_getD]

theorem adN_set {r s : List Nat} {i z : Nat} (hr : r.length = 8) (hi : i < 8) (hz : z = (r.getD i 0 + s.getD i 0) % 4294967296) : (adN r s i).set i z = adN r s (i + 1) := by
  unfold adN
  rw [List.set_append_right _ _ (by simp), List.length_map, List.length_range, Nat.sub_self, List.drop_eq_getElem_cons (by omega), List.set_cons_zero, List.range_succ, List.map_append, List.append_assoc, hz]
  rfl

/-- Test: the hash of "abc". -/
theorem blk_abc : blkN H256 ([97, 98, 99, 128] ++ List.replicate 59 0 ++ [24]) = [3128432319, 2399260650, 1094795486, 1571693091, 2953011619, 2518121116, 3021012833, 4060091821] := by
  decide +kernel

end Go.Proofs.YthnkganmccgaeaaDoor
