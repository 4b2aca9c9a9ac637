/- Melted of: Ref6F Ref6G Ref6H. -/
import Derived.Test.YtiljkgoafknefaaGreatRef6E
import Derived.Test.YtiljkgoafknefaaGreatBigM
import Derived.Deep.RegionHeld3

/- The plain side of layer 6: times: products modulo a modulus. -/
namespace Go.Proofs.YtiljkgoafknefaaGreat
open Go.RowKit

/-- A number times n others, modulo V. -/
def tms (X V : Nat) (a : Nat → Nat) : Nat → Nat
  | 0 => X
  | k + 1 => tms X V a k * a k % V

theorem okMod.len {ms rs : List Nat} {K : Nat} (h : okMod ms K rs) : ms.length ≤ 130 ∧ ms.length = wordsN (val 18446744073709551616 ms) ∧ 2 ≤ val 18446744073709551616 ms ∧ val 18446744073709551616 ms % 2 = 1 := by
  obtain ⟨h1, h2, _, _⟩ := h
  obtain ⟨e1, e2, e3⟩ := montE_ok h1
  unfold modM at h2
  rw [if_pos h1] at h2
  have : ms.length = wordsN (val 18446744073709551616 ms) := by
    have := congrArg List.length h2
    rw [digs_length] at this
    exact this.symm
  exact ⟨by omega, this, e2, e3⟩

/-- The value v lies in memory that w has not yet. -/
def NewIn (w : World) (v : Value) : Prop := ∀ b, v.ownBlock = some b → w.heap.size ≤ b

theorem NewIn.nil (w : World) : NewIn w (.slice none 0 0) := fun b hb => by cases hb

theorem NewIn.of {w W : World} {v : Value} (h : v.ownBlock = some W.heap.size) (k : Kept Nought w W) : NewIn w v := fun b hb => by
  rw [h] at hb
  cases hb
  exact k.size

theorem NewIn.after {w W : World} {v : Value} (h : NewIn W v) (k : Kept Nought w W) : NewIn w v := fun b hb => Nat.le_trans k.size (h b hb)

/-- n slices in a row, at ao (the plain side's word for it). -/
def SlotsR (w : World) (ao : Option Addr) (n : Nat) (A : Nat → Option Addr) (L C : Nat → Nat) : Prop :=
  ∀ i, i < n → ∃ b off, ao = some ⟨b, off, none⟩ ∧ w.cell? ⟨b, off + i, none⟩ = some (.slice (A i) (L i) (C i))

theorem SlotsR.grew {w w' : World} {ao : Option Addr} {n : Nat} {A : Nat → Option Addr} {L C : Nat → Nat} (h : SlotsR w ao n A L C) (k : Kept Nought w w') : SlotsR w' ao n A L C := by
  intro i hi
  obtain ⟨b, off, rfl, hc⟩ := h i hi
  exact ⟨b, off, rfl, k.cellN hc⟩

end Go.Proofs.YtiljkgoafknefaaGreat

/- The plain side of layer 6: Enter, Leave, Mul, One. -/
namespace Go.Proofs.YtiljkgoafknefaaGreat
open Go.RowKit

/-- What is 1 times 2^(64 n) undone. -/
theorem red_uniq {V P T Y z : Nat} (hT : P * T % V = 1) (hY : Y < V) (h : P * Y % V = z % V) : Y = T * z % V := by
  have e1 : T * z % V = T * (P * Y % V) % V := by rw [h, Nat.mul_mod_mod]
  rw [e1, Nat.mul_mod_mod, ← Nat.mul_assoc, Nat.mul_comm T P, ← Nat.mod_mul_mod, hT, Nat.one_mul, Nat.mod_eq_of_lt hY]

theorem slot1_new (W : World) (v : Value) (co : Option Addr) (N eap : Nat) (hv : v = .slice co N eap) : SlotsR (W.alloc (.cells #[v] 23)) (some ⟨W.heap.size, 0, none⟩) 1 (fun _ => co) (fun _ => N) (fun _ => eap) := by
  intro i hi
  obtain rfl : i = 0 := by omega
  subst hv
  exact ⟨_, _, rfl, (cell_of_row _ _ 0 _ _ _ (heap_alloc_new W _)).trans rfl⟩

theorem box_alloc {W : World} {a : Addr} {v : Value} (h : W.cell? a = some v) : ∀ o, (W.alloc o).cell? a = some v := fun o => ((Kept.refl Nought W).alloc o).cellN h

theorem tms1 (X V x : Nat) (a : Nat → Nat) (h : a 0 = x) : tms X V a 1 % V = X * x % V := by
  show X * a 0 % V % V = _
  rw [h, Nat.mod_mod]

theorem kself (w : World) : Kept Nought w w := Kept.refl Nought w

theorem kdrew {a w : World} (h : Kept Nought a w) : Kept Nought a w.drew := h.drew

theorem kalloc {a w : World} (o : Obj) (h : Kept Nought a w) : Kept Nought a (w.alloc o) := h.alloc o

theorem balloc {w : World} {v : Value} {V : Nat} (o : Obj) (h : IsBig w v V) : IsBig (w.alloc o) v V := h.grew ((Kept.refl _ _).alloc o)

end Go.Proofs.YtiljkgoafknefaaGreat

/- The plain side of layer 6: Leave, Mul, One, and what a bad modulus does. -/
namespace Go.Proofs.YtiljkgoafknefaaGreat
open Go.RowKit

theorem talloc {w : World} {v : Value} {V P : Nat} (o : Obj) (h : ∃ T, T < V ∧ P * T % V = 1 ∧ IsBig w v T) : ∃ T, T < V ∧ P * T % V = 1 ∧ IsBig (w.alloc o) v T := by
  obtain ⟨T, h1, h2, h3⟩ := h
  exact ⟨T, h1, h2, balloc o h3⟩

theorem slot2_new (W : World) (co fo : Option Addr) (N1 N2 e1 e2 : Nat) : SlotsR (W.alloc (.cells #[.slice co N1 e1, .slice fo N2 e2] 23)) (some ⟨W.heap.size, 0, none⟩) 2 (fun i => if i = 0 then co else fo) (fun i => if i = 0 then N1 else N2) (fun i => if i = 0 then e1 else e2) := by
  have hn := new2 W (.slice co N1 e1) (.slice fo N2 e2) 23
  intro i hi
  refine ⟨_, _, rfl, ?_⟩
  rw [Nat.zero_add, World.ownsRow.cellAt hn i (by omega)]
  have : i = 0 ∨ i = 1 := by omega
  rcases this with rfl | rfl <;> rfl

theorem tms2 (X V x y : Nat) (a : Nat → Nat) (h : a 0 = x) (h' : a 1 = y) : tms X V a 2 % V = X * (x * y) % V := by
  show X * a 0 % V * a 1 % V % V = _
  rw [h, h', Nat.mod_mod, Nat.mod_mul_mod, Nat.mul_assoc]

end Go.Proofs.YtiljkgoafknefaaGreat
