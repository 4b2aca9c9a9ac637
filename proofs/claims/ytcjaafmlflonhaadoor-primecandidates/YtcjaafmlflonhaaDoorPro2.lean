/- Melted of: Att Box PrC PrD PrE. -/
import Derived.Test.YtcjaafmlflonhaaDoorBase1
import Derived.Test.YtcjaafmlflonhaaDoorTra1
import Derived.Test.YtcjaafmlflonhaaDoorPro1
import Derived.Test.YtcjaafmlflonhaaDoorPro0
import Derived.Defers
import Derived.Recover
namespace Go.Proofs.YtcjaafmlflonhaaDoor
open Go.RowKit

theorem Box.did {w w' : World} {o o' : Tr} {m : List Ev} {b : Nat} {v : Value} {t : TypeId} (h : Box w b v t) (d : Did w o m w' o') (ht : TrIn w o) (h1 : t ≠ 125) (h2 : t ≠ 116) : Box w' b v t := h.kept d.kept (cells_apart h ht h1 h2)

theorem Box.apart {w : World} {o : Tr} {b : Nat} {v : Value} {t : TypeId} (h : Box w b v t) (ht : TrIn w o) (h1 : t ≠ 125) (h2 : t ≠ 116) : ¬ trFoot o b := cells_apart h ht h1 h2

end Go.Proofs.YtcjaafmlflonhaaDoor

/- Package product: Mul. -/
namespace Go.Proofs.YtcjaafmlflonhaaDoor
open Go.RowKit

theorem trPtr_shape (o : Tr) : ∃ po, trPtr o = .pointer po := by
  cases o with
  | none => exact ⟨_, rfl⟩
  | some x => exact ⟨_, rfl⟩

/-- What Mul answers. -/
def mulAns (X Y L M : Nat) : List Nat := if L ≤ 300 ∧ M ≤ 300 then digs 18446744073709551616 (X * Y) (L + M) else []

def mulEvs (L M : Nat) : List Ev := if L ≤ 300 ∧ M ≤ 300 then List.replicate L (1, ((M : Nat) : Int), 0) else []

end Go.Proofs.YtcjaafmlflonhaaDoor

/- Package product: extended, MulWord. -/
namespace Go.Proofs.YtcjaafmlflonhaaDoor
open Go.RowKit

/-- What MulWord answers. -/
def mwAns (X W Y L M : Nat) : List Nat := if L ≤ 300 ∧ M ≤ 300 then digs 18446744073709551616 (Y + X * W) (max L M) else []

def mwTop (X W Y L M : Nat) : Nat := if L ≤ 300 ∧ M ≤ 300 then (Y + X * W) / 18446744073709551616 ^ max L M else 0

def mwEvs (L M : Nat) : List Ev := if L ≤ 300 ∧ M ≤ 300 then [(1, ((max L M : Nat) : Int), 0)] else []

theorem val_fill {ys : List Nat} (n : Nat) : val 18446744073709551616 (ys ++ List.replicate n 0) = val 18446744073709551616 ys := by
  rw [val_append, val_zeros _ (fun d hd => (List.mem_replicate.1 hd).2), Nat.mul_zero, Nat.add_zero]

theorem own_row' {w : World} {base n : Nat} {v : Value} {zs : List Nat} (h : OwnN .u64 33 w base v n zs) (hl : zs.length = n) : Row .u64 w v zs :=
  Row.of_own (base := base) (e := 33) (by rw [hl]; exact h)

theorem digs_fill {ys : List Nat} (h : Digs 18446744073709551616 ys) (n : Nat) : Digs 18446744073709551616 (ys ++ List.replicate n 0) := h.append (fun d hd => by rw [(List.mem_replicate.1 hd).2]; omega)

end Go.Proofs.YtcjaafmlflonhaaDoor

/- Package product: MulWord. -/
namespace Go.Proofs.YtcjaafmlflonhaaDoor
open Go.RowKit

/-- What was written into new blocks that are no part of the trace. -/
theorem Did.wroteSome {S : Nat → Prop} {w w' w2 : World} {o o' : Tr} {m : List Ev} (d : Did w o m w' o') (k : Kept S w' w2) (hS : ∀ b, S b → w.heap.size ≤ b ∧ ¬ trFoot o' b) : Did w o m w2 o' := by
  refine ⟨d.1.next k (fun x hx e => by have := (hS x e).1; omega), ?_⟩
  rcases d.2 with h1 | ⟨p, g, l, g', e1, e2, ht, hg⟩
  · exact .inl h1
  · subst e2
    exact .inr ⟨p, g, l, g', e1, rfl, ht.kept k (fun e => (hS p e).2 (.inl rfl)) (fun x hx e => (hS x e).2 (.inr hx)), hg⟩

theorem foot_lt {w : World} {o : Tr} (ht : TrIn w o) {b : Nat} (hf : trFoot o b) : b < w.heap.size := ht.foot b hf

end Go.Proofs.YtcjaafmlflonhaaDoor
