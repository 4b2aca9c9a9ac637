/- Package script: the draws of a number, as a range over a function hands them out (draws). -/
import Derived.Test.YtegjdjfnpphipaaLsc3
import Derived.Test.YtegjdjfnpphipaaScr3
import Derived.Test.YtegjdjfnpphipaaSeq3
import Derived.Test.YtegjdjfnpphipaaNatI
import Derived.BigRegion
import Derived.Laws.OwnMore
namespace Go.Proofs.Ytegjdjfnpphipaa
open Go.RowKit Go.Shelf

attribute [local go_sem] Oper.semAt_some

/-- The first byte's highest bits are made 0. -/
theorem bev_mask {x : Nat} {r : List Nat} (hr : Digs 256 r) {t s : Nat} (hs : s < 8) (ht : t + s = 8 * (r.length + 1)) : bev (x % 2 ^ (8 - s) :: r) = bev (x :: r) % 2 ^ t := by
  have e : ∀ y, bev (y :: r) = y * 256 ^ r.length + bev r := fun y => by
    have := bev_appendB [y] r
    simpa [bev] using this
  have hp : 2 ^ t = 256 ^ r.length * 2 ^ (8 - s) := by
    rw [show (256 : Nat) = 2 ^ 8 from rfl, ← Nat.pow_mul, ← Nat.pow_add]
    congr 1
    omega
  have hl := bev_ltB hr
  have hpos : 0 < 256 ^ r.length := Nat.pow_pos (by omega)
  rw [e, e, hp, Nat.mod_mul, Nat.mul_comm x, Nat.mul_add_mod, Nat.mod_eq_of_lt hl, Nat.mul_add_div hpos, Nat.div_eq_of_lt hl, Nat.add_zero, Nat.mul_comm (x % _)]
  omega

theorem and_lowB {x s : Nat} (hs : s < 8) : x &&& (255 / 2 ^ s) = x % 2 ^ (8 - s) := by
  have e : 255 / 2 ^ s = 2 ^ (8 - s) - 1 := by
    obtain rfl | rfl | rfl | rfl | rfl | rfl | rfl | rfl : s = 0 ∨ s = 1 ∨ s = 2 ∨ s = 3 ∨ s = 4 ∨ s = 5 ∨ s = 6 ∨ s = 7 := by omega
    all_goals rfl
  rw [e, Nat.and_two_pow_sub_one_eq_mod]

/-- A draw: the bytes from place k z on, in t bits. -/
def drwN (t z : Nat) (bs : List Nat) (k : Nat) : Nat := bev ((bs.drop (k * z)).take z) % 2 ^ t

/-- What is handed out, and what is left of the script then. -/
def DrwX (p : Option Addr) (B t z L : Nat) (bs : List Nat) (N : Nat) (pre : List (Nat × Value)) (x : Nat × Value) (A : World) : Prop :=
  x.1 = pre.length + 1 ∧ (pre.length + 1) * z ≤ bs.length ∧ (Row .u64 A x.2 (digs 18446744073709551616 (drwN t z bs pre.length) L) ∧ ∀ b, x.2.ownBlock = some b → N ≤ b) ∧ Lsc A p B (bs.drop ((pre.length + 1) * z))

/-- How it ends by itself. -/
def DrwS (p : Option Addr) (B z : Nat) (bs : List Nat) (s : List (Nat × Value)) (A : World) : Prop := s.length * z ≤ bs.length ∧ bs.length < (s.length + 1) * z ∧ Lsc A p B []

theorem DrwX.put {p : Option Addr} {B t z L l N : Nat} {bs : List Nat} {pre : List (Nat × Value)} {x : Nat × Value} {A : World} {o : Obj} (o' : Obj) (h : DrwX p B t z L bs N pre x A) (hl : A.heap[l]? = some o) (ho : o.isCells = false) : DrwX p B t z L bs N pre x (A.putObj l o') :=
  ⟨h.1, h.2.1, ⟨row_put o' h.2.2.1.1 hl ho, h.2.2.1.2⟩, h.2.2.2.put o' hl ho⟩

theorem Lsc.low {A C : World} {p : Option Addr} {B D : Nat} {bs : List Nat} (h : Lsc A p B bs) (k : Below D A C) (hB : B ≤ D) : Lsc C p B bs :=
  h.kept (S := fun x => D ≤ x) ⟨k.os, k.tape, k.output, k.size, fun i _ hs => k.block i (Nat.lt_of_not_le hs)⟩ (fun x hx e => by
    have e' : D ≤ x := e
    omega)

/-- What stands between two draws: the script, the four boxes. -/
structure BtwD (W wr : World) (p : Option Addr) (B z k bp bz bt bn t L : Nat) (bs : List Nat) : Prop where
  few : k * z ≤ bs.length
  scr : Lsc wr p B (bs.drop (k * z))
  pb : Boxed wr bp 25 (.pointer p)
  zb : Boxed wr bz 3 (.int .i64 (z : Nat))
  tb : Boxed wr bt 3 (.int .i64 (t : Nat))
  nb : Boxed wr bn 3 (.int .i64 (L : Nat))
  size : W.heap.size ≤ wr.heap.size

theorem BtwD.kept {S : Nat → Prop} {W wr w' : World} {p : Option Addr} {B z k bp bz bt bn t L : Nat} {bs : List Nat} (b : BtwD W wr p B z k bp bz bt bn t L bs) (kk : Kept S wr w') (hB : ∀ x, x < B → ¬ S x) (h1 : ¬ S bp) (h2 : ¬ S bz) (h3 : ¬ S bt) (h4 : ¬ S bn) : BtwD W w' p B z k bp bz bt bn t L bs :=
  ⟨b.few, b.scr.kept kk hB, boxed_but b.pb kk h1, boxed_but b.zb kk h2, boxed_but b.tb kk h3, boxed_but b.nb kk h4, Nat.le_trans b.size kk.size⟩

/-- One draw further. -/
theorem BtwD.next {S : Nat → Prop} {W wr w' : World} {p : Option Addr} {B z k bp bz bt bn t L : Nat} {bs : List Nat} (b : BtwD W wr p B z k bp bz bt bn t L bs) (kk : Kept S wr w') (hf : (k + 1) * z ≤ bs.length) (hs : Lsc w' p B (bs.drop ((k + 1) * z))) (h1 : ¬ S bp) (h2 : ¬ S bz) (h3 : ¬ S bt) (h4 : ¬ S bn) : BtwD W w' p B z (k + 1) bp bz bt bn t L bs :=
  ⟨hf, hs, boxed_but b.pb kk h1, boxed_but b.zb kk h2, boxed_but b.tb kk h3, boxed_but b.nb kk h4, Nat.le_trans b.size kk.size⟩

end Go.Proofs.Ytegjdjfnpphipaa
