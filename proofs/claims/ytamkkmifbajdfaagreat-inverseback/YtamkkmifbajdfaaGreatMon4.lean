/- Melted of: MonH MonI MonJ MonK MonL. -/
import Derived.Test.YtamkkmifbajdfaaGreatMon2
import Derived.Test.YtamkkmifbajdfaaGreatBase4
import Derived.Test.YtamkkmifbajdfaaGreatLim3
import Derived.Test.YtamkkmifbajdfaaGreatWInv
import Derived.Test.YtamkkmifbajdfaaGreatRef6m
import Derived.Test.YtamkkmifbajdfaaGreatMon3
import Derived.Lib.SliceRun
import Derived.Lib.LazyBuf
import Derived.Lib.RabinKarpLaws

/- Package mont: what Setup calls: slices.Clone, bits.Len, doubled, restOfR. -/
namespace Go.Proofs.YtamkkmifbajdfaaGreat
open Go.RowKit

/-- v lies in memory that is new since w. -/
def Fresh (w : World) (v : Value) : Prop := ∀ b, v.ownBlock = some b → w.heap.size ≤ b

theorem Fresh.after {w W : World} {v : Value} (h : Fresh W v) (k : Kept Nought w W) : Fresh w v := fun b hb => Nat.le_trans k.size (h b hb)

theorem Fresh.own {w W : World} {base n : Nat} {v : Value} {zs : List Nat} (h : OwnN .u64 32 W base v n zs) (hb : w.heap.size ≤ base) : Fresh w v := fun b hb' => Nat.le_trans hb (h.lt b hb').1

end Go.Proofs.YtamkkmifbajdfaaGreat

/- Package mont: restOfR, squareOfR. -/
namespace Go.Proofs.YtamkkmifbajdfaaGreat
open Go.RowKit

end Go.Proofs.YtamkkmifbajdfaaGreat

/- Package mont: squareOfR. -/
namespace Go.Proofs.YtamkkmifbajdfaaGreat
open Go.RowKit

/-- A power of 2 in Montgomery's form: one bit of the exponent more. -/
theorem sq_bit {P V Y E s : Nat} (hc : Nat.Coprime P V) (hY : Y < V) (h : P * Y % V = (P * 2 ^ (E / 2 ^ (s + 1)) % V) * (P * 2 ^ (E / 2 ^ (s + 1)) % V) % V) :
    (E / 2 ^ s % 2 = 0 → Y = P * 2 ^ (E / 2 ^ s) % V) ∧ (E / 2 ^ s % 2 = 1 → 2 * Y % V = P * 2 ^ (E / 2 ^ s) % V) := by
  have e := sq_num hc hY h
  have h2 : E / 2 ^ (s + 1) = E / 2 ^ s / 2 := by rw [Nat.pow_succ, Nat.div_div_eq_div_mul]
  rw [h2] at e
  generalize E / 2 ^ s = d at *
  constructor
  · intro h0
    rw [e, show 2 * (d / 2) = d by omega]
  · intro h1
    rw [e, dbl_num]
    rw [show d = 2 * (d / 2) + 1 by omega]
    rw [show 2 * ((2 * (d / 2) + 1) / 2) = 2 * (d / 2) by omega, Nat.pow_succ]
    congr 1
    generalize 2 ^ (2 * (d / 2)) = q
    grind

theorem and_one_i64 (i : Nat) (hi : i < 9223372036854775808) : bits BinOp.and IntKind.i64 (i : Int) 1 = ((i % 2 : Nat) : Int) := Go.Proofs.and_one i hi

end Go.Proofs.YtamkkmifbajdfaaGreat

/- Package mont: prepared. -/
namespace Go.Proofs.YtamkkmifbajdfaaGreat
open Go.RowKit

theorem frees3 {W : World} {p : Nat} {a b c : Value} {t : TypeId} (h : W.heap[p]? = some (.cells #[a, b, c] t (0, 0))) : W.frozen? ⟨p, 0, none⟩ = false ∧ W.frozen? ⟨p, 1, none⟩ = false ∧ W.frozen? ⟨p, 2, none⟩ = false := by
  simp [World.frozen?, h]

theorem set3 {W : World} {p : Nat} {a b c : Value} {t : TypeId} (h : W.heap[p]? = some (.cells #[a, b, c] t (0, 0))) (x y z : Value) :
    (W.setCell ⟨p, 0, none⟩ x).heap[p]? = some (.cells #[x, b, c] t (0, 0)) ∧ (W.setCell ⟨p, 1, none⟩ y).heap[p]? = some (.cells #[a, y, c] t (0, 0)) ∧ (W.setCell ⟨p, 2, none⟩ z).heap[p]? = some (.cells #[a, b, z] t (0, 0)) := by
  refine ⟨?_, ?_, ?_⟩
  · have := heap_setCell_same W p 0 #[a, b, c] t x h
    simpa using this
  · have := heap_setCell_same W p 1 #[a, b, c] t y h
    simpa using this
  · have := heap_setCell_same W p 2 #[a, b, c] t z h
    simpa using this

theorem put3 {W : World} {p : Nat} {a b c : Value} {t : TypeId} (h : W.heap[p]? = some (.cells #[a, b, c] t (0, 0))) (x y z : Value) :
    (((W.setCell ⟨p, 0, none⟩ x).setCell ⟨p, 1, none⟩ y).setCell ⟨p, 2, none⟩ z).heap[p]? = some (.cells #[x, y, z] t (0, 0)) :=
  (set3 (set3 (set3 h x y z).1 x y z).2.1 x y z).2.2

theorem kept3 (W : World) (p : Nat) (x y z : Value) : Kept (fun b => b = p) W (((W.setCell ⟨p, 0, none⟩ x).setCell ⟨p, 1, none⟩ y).setCell ⟨p, 2, none⟩ z) :=
  (((Kept.refl (fun b => b = p) W).setCell ⟨p, 0, none⟩ (fun _ => rfl) x).setCell ⟨p, 1, none⟩ (fun _ => rfl) y).setCell ⟨p, 2, none⟩ (fun _ => rfl) z

/-- K, out of the inverse of minus the lowest word. -/
theorem prep_K {V m0 : Nat} {x : Int} (hm0 : V % 18446744073709551616 = m0) (hodd : V % 2 = 1) (h : isInv (18446744073709551616 - (m0 : Int)) x) : ∃ K : Nat, x = (K : Int) ∧ K < 18446744073709551616 ∧ (V * K + 1) % 18446744073709551616 = 0 := by
  obtain ⟨x0, x1, x2, _⟩ := h
  obtain ⟨K, rfl⟩ := Int.eq_ofNat_of_zero_le x0
  refine ⟨K, rfl, by omega, ?_⟩
  have ho : (18446744073709551616 - (m0 : Int)) % 2 = 1 := by omega
  obtain ⟨t, ht⟩ := x2 ho
  have hV : V = 18446744073709551616 * (V / 18446744073709551616) + m0 := by rw [← hm0]; exact (Nat.div_add_mod _ _).symm
  have e1 : ((V * K + 1 : Nat) : Int) = 18446744073709551616 * (((V / 18446744073709551616 : Nat) : Int) * (K : Int) + t + (K : Int)) := by
    generalize V / 18446744073709551616 = q at *
    subst hV
    have : (((18446744073709551616 * q + m0) * K + 1 : Nat) : Int) = (18446744073709551616 * (q : Int) + (m0 : Int)) * (K : Int) + 1 := by simp
    rw [this]
    grind
  have : (18446744073709551616 : Int) ∣ ((V * K + 1 : Nat) : Int) := ⟨_, e1⟩
  omega

end Go.Proofs.YtamkkmifbajdfaaGreat

/- Package mont: Setup. -/
namespace Go.Proofs.YtamkkmifbajdfaaGreat
open Go.RowKit

/-- What a good number is set up to. -/
def SetUp (W : World) (V : Nat) (a b : Value) (K : Nat) : Prop := Row .u64 W a (modM V) ∧ Row .u64 W b (modR V) ∧ isKf V K

theorem rfn_mont (V : Nat) : rfn (wordsN V) V = montE V := rfl

end Go.Proofs.YtamkkmifbajdfaaGreat
