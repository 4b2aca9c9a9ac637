/- The plain side of layer 15 (package sconceref15): a script in memory; Read. -/
import Derived.Test.YthnkganmccgaeaaDoorByt1
namespace Go.Proofs.YthnkganmccgaeaaDoor
open Go.RowKit

/-- The part of a slice behind its first n. -/
theorem row_rest {k : IntKind} {w : World} {ad : Addr} {L cap n : Nat} {zs : List Nat} (h : Row k w (.slice (some ad) L cap) zs) (hn : n ≤ L) : Row k w (.slice (some (ad.add n)) (L - n) (cap - n)) (zs.drop n) := by
  obtain ⟨ao, cap', e, c1, c2, _, h4⟩ := h
  cases e
  have hl : (zs.drop n).length = zs.length - n := List.length_drop ..
  refine ⟨_, _, by rw [hl], by omega, by omega, (fun e => by cases e), fun i hi => ?_⟩
  rw [hl] at hi
  obtain ⟨b, off, e, hc⟩ := h4 (n + i) (by omega)
  cases e
  refine ⟨b, off + n, ?_, ?_⟩
  · unfold Addr.add
    split <;> simp_all
  · rw [Nat.add_assoc, hc, List.getD_eq_getElem?_getD, List.getD_eq_getElem?_getD, List.getElem?_drop]

theorem own_add (ad : Addr) (n L cap L' cap' : Nat) : (Value.slice (some (ad.add n)) L cap).ownBlock = (Value.slice (some ad) L' cap').ownBlock := by
  show some (ad.add n).block = some ad.block
  unfold Addr.add
  split <;> rfl

/-- What Read answers: the error, the bytes, what is left. -/
def readE (bs : List Nat) (n : Int) : Nat := if n < 0 then 1 else if (bs.length : Int) < n then 150 else 0
def readL (bs : List Nat) (n : Int) : List Nat := if readE bs n = 0 then bs.take n.toNat else []
def readR (bs : List Nat) (n : Int) : List Nat := if n < 0 then bs else bs.drop n.toNat

/-- The first n bytes that are not 0, what is left, whether there were so many. -/
def filN : List Nat → Nat → List Nat × List Nat × Bool
  | bs, 0 => ([], bs, true)
  | [], _ + 1 => ([], [], false)
  | x :: bs, n + 1 => if x = 0 then filN bs (n + 1) else (x :: (filN bs n).1, (filN bs n).2)

theorem filN_digs {B : Nat} : ∀ {bs : List Nat} {n : Nat}, Digs B bs → Digs B (filN bs n).1 ∧ Digs B (filN bs n).2.1
  | bs, 0, h => by
    have e : filN bs 0 = ([], bs, true) := by cases bs <;> rfl
    rw [e]
    exact ⟨Digs.nil _, h⟩
  | [], n + 1, _ => ⟨Digs.nil _, Digs.nil _⟩
  | x :: bs, n + 1, h => by
    have hb : Digs B bs := fun d hd => h d (List.mem_cons_of_mem _ hd)
    unfold filN
    split
    · exact filN_digs hb
    · obtain ⟨h1, h2⟩ := filN_digs (n := n) hb
      refine ⟨fun d hd => ?_, h2⟩
      rcases List.mem_cons.1 hd with rfl | hd
      · exact h d (by simp)
      · exact h1 d hd

/-- What Filled answers. -/
def filE (bs : List Nat) (n : Int) : Nat := if n < 0 then 1 else if (filN bs n.toNat).2.2 = true then 0 else 150
def filL (bs : List Nat) (n : Int) : List Nat := if filE bs n = 0 then (filN bs n.toNat).1 else []
def filR (bs : List Nat) (n : Int) : List Nat := if n < 0 then bs else (filN bs n.toNat).2.1

/-- Filled's state while it goes on: acc is found, rest is left. -/
def FilS (bs : List Nat) (n : Nat) (acc rest : List Nat) : Prop := acc.length ≤ n ∧ filN bs n = (acc ++ (filN rest (n - acc.length)).1, (filN rest (n - acc.length)).2)

theorem FilS.start (bs : List Nat) (n : Nat) : FilS bs n [] bs := ⟨Nat.zero_le _, by simp⟩

theorem FilS.none {bs acc rest : List Nat} {n : Nat} (h : FilS bs n acc (0 :: rest)) (hn : acc.length < n) : FilS bs n acc rest := by
  obtain ⟨d, hd⟩ : ∃ d, n - acc.length = d + 1 := ⟨n - acc.length - 1, by omega⟩
  refine ⟨h.1, ?_⟩
  rw [h.2, hd]
  rfl

theorem FilS.one {bs acc rest : List Nat} {n x : Nat} (h : FilS bs n acc (x :: rest)) (hn : acc.length < n) (hx : x ≠ 0) : FilS bs n (acc ++ [x]) rest := by
  obtain ⟨d, hd⟩ : ∃ d, n - acc.length = d + 1 := ⟨n - acc.length - 1, by omega⟩
  refine ⟨by rw [List.length_append]; simp; omega, ?_⟩
  have e : n - (acc ++ [x]).length = d := by rw [List.length_append]; simp; omega
  have e2 : filN (x :: rest) (d + 1) = (x :: (filN rest d).1, (filN rest d).2) := by
    rw [filN, if_neg hx]
  rw [h.2, hd, e, e2]
  simp

theorem FilS.spent {bs acc : List Nat} {n : Nat} (h : FilS bs n acc []) (hn : acc.length < n) : (filN bs n).2 = ([], false) := by
  obtain ⟨d, hd⟩ : ∃ d, n - acc.length = d + 1 := ⟨n - acc.length - 1, by omega⟩
  rw [h.2, hd]
  rfl

theorem FilS.done {bs acc rest : List Nat} {n : Nat} (h : FilS bs n acc rest) (hn : ¬ acc.length < n) : filN bs n = (acc, rest, true) := by
  have := h.1
  have e : filN rest 0 = ([], rest, true) := by cases rest <;> rfl
  rw [h.2, show n - acc.length = 0 by omega, e]
  simp

end Go.Proofs.YthnkganmccgaeaaDoor
