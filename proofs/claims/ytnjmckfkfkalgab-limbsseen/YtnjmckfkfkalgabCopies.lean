/- Rows that are known whole; copy into them. -/
import Derived.Test.YtnjmckfkfkalgabBigNat
import Derived.Laws.CopyOwn
import Derived.Laws.IdiomCopy
namespace Go.Proofs.Ytnjmckfkfkalgab
open Go.RowKit

theorem below_kept {B : Nat} {w w' : World} (k : Kept Nought w w') (hB : B ≤ w.heap.size) : Below B w w' := k.below hB (fun _ f => f.elim)

theorem toHid {p : Prop} (h : p) : Hid p := h

/-- A row that is known whole, read as numbers. -/
theorem Row.of_block {k : IntKind} {w : World} {g n : Nat} {t : TypeId} {zs : List Nat} (hg : w.heap[g]? = some (.cells (zs.map fun z => Value.int k (z : Nat)).toArray t (0, 0))) (hl : zs.length = n) (hm : n ≤ maxLen) :
    Row k w (.slice (some ⟨g, 0, none⟩) n n) zs := by
  refine Row.of_own (base := 0) (e := t) ⟨by simp, .inr ⟨g, n, _, by rw [hl], Nat.zero_le _, hg, by omega, hm, by simp [hl], ?_⟩⟩
  rw [Nat.mul_one, List.take_of_length_le (by simp)]

theorem own_of_block {k : IntKind} {w : World} {g n base : Nat} {t : TypeId} {zs : List Nat} (hg : w.heap[g]? = some (.cells (zs.map fun z => Value.int k (z : Nat)).toArray t (0, 0))) (hl : zs.length = n) (hm : n ≤ maxLen) (hb : base ≤ g) :
    OwnN k t w base (.slice (some ⟨g, 0, none⟩) n n) n zs := by
  refine ⟨by simp [hl], .inr ⟨g, n, _, rfl, hb, hg, by omega, hm, by simp [hl], ?_⟩⟩
  rw [Nat.mul_one, List.take_of_length_le (by simp [hl])]

/-- A row that the call has made, whole. -/
theorem own_block {w : World} {base n : Nat} {e : TypeId} {g : Nat} {xs : List Value} (h : w.ownsRow base e 1 (.slice (some ⟨g, 0, none⟩) n n) n xs) : w.heap[g]? = some (.cells xs.toArray e (0, 0)) := by
  rcases h.2 with ⟨e1, _⟩ | ⟨g', cap, cur, e1, _, hg, _, _, hs, ht⟩
  · cases e1
  · simp only [Value.slice.injEq, Option.some.injEq, Addr.mk.injEq] at e1
    obtain ⟨⟨rfl, _⟩, _, rfl⟩ := e1
    rw [hg]
    have : cur.toList = xs := by
      rw [← ht, List.take_of_length_le]
      rw [Array.length_toList, hs]
      exact Nat.le_refl _
    rw [← this]

/-- copy into a row that is known whole: as many cells as the shorter of the two has go over. -/
theorem run_copy_part {P : Program} {w : World} (dT sT ty elem : TypeId) (g off dLen dCap : Nat) (dp ao : Option Addr) (sLen sCap : Nat) (cur : List Value) (t : TypeId) (cs : List Value) (hu : P.underlying dT = some (.slice elem)) (hsz : (P.info? elem).map (·.size) = some 1)
    (hg : w.heap[g]? = some (.cells cur.toArray t (0, 0))) (hn : cs.length = Nat.min sLen dLen) (hpos : 0 < cs.length → dp = some ⟨g, off, none⟩ ∧ ∃ ad, ao = some ad ∧ ∀ j u, cs[j]? = some u → w.cell? (ad.add j) = some u) (hfit : off + cs.length ≤ cur.length) (h1 : ∀ u ∈ cs, u.oneCell' = true) :
    ∃ w', (Builtin.copy_ #[dT, sT] ty #[.slice dp dLen dCap, .slice ao sLen sCap]).run P w = .ok (goInt cs.length) w' ∧ w'.heap[g]? = some (.cells (splice cur off cs).toArray t (0, 0)) ∧ Kept (fun b => b = g) w w' := by
  by_cases h0 : cs.length = 0
  · obtain rfl : cs = [] := List.eq_nil_of_length_eq_zero h0
    exact ⟨w, by simpa using run_copy_none (P := P) w dT sT ty elem dp ao dLen dCap sLen sCap hu hsz (by simpa using hn.symm), by simpa [splice] using hg, Kept.refl _ _⟩
  · obtain ⟨rfl, ad, rfl, hsrc⟩ := hpos (by omega)
    refine ⟨_, run_copy_row (P := P) w dT sT ty elem g off dLen dCap ad sLen sCap cur.toArray t cs hu hsz hg hn hsrc (by simpa using hfit) h1, ?_, ?_⟩
    · simpa [splice] using setRow_heap w g _ _ t _ hg
    · exact ⟨rfl, rfl, rfl, by simp [World.setRow], fun k hk hne => setRow_other w g k _ hne⟩

theorem kept_new {w w1 w2 : World} {g : Nat} (k1 : Kept Nought w w1) (k2 : Kept (fun b => b = g) w1 w2) (hg : w.heap.size ≤ g) : Kept Nought w w2 :=
  k1.next k2 (fun x hx e => by omega)

theorem fill_digs {ys : List Nat} {V m : Nat} (hd : Digs 18446744073709551616 ys) (hv : val 18446744073709551616 ys = V) (hl : ys.length ≤ m) : digs 18446744073709551616 V m = ys ++ List.replicate (m - ys.length) 0 := by
  have hz : val 18446744073709551616 (List.replicate (m - ys.length) 0) = 0 := val_zeros _ (fun d hd => (List.mem_replicate.1 hd).2)
  refine (digs_val (by omega) (B := 18446744073709551616) (hd.append ?_) (by simp; omega) ?_).symm
  · intro d hd
    rw [List.mem_replicate] at hd; omega
  · rw [val_append, hz, Nat.mul_zero, Nat.add_zero, hv, Nat.mod_eq_of_lt]
    rw [← hv]
    exact Nat.lt_of_lt_of_le (val_lt (by omega) hd) (Nat.pow_le_pow_right (by omega) hl)

theorem splice_fill (ys : List Nat) (m : Nat) (f : Nat → Value) : splice ((List.replicate m 0).map f) 0 (ys.map f) = (ys ++ List.replicate (m - ys.length) 0).map f := by
  simp [splice]

end Go.Proofs.Ytnjmckfkfkalgab
