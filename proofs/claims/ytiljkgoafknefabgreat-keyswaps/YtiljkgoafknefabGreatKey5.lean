/- The plain side of layer 19 (package sconceref18): Of. -/
import Derived.Test.YtiljkgoafknefabGreatKey4
namespace Go.Proofs.YtiljkgoafknefabGreat
open Go.RowKit

/-- A struct of eight cells that is stored into. -/
def put8w (w : World) (p : Nat) (x0 x1 x2 x3 x4 x5 x6 x7 : Value) : World := ((((((((w.setCell ⟨p, 0, none⟩ x0).setCell ⟨p, 1, none⟩ x1).setCell ⟨p, 2, none⟩ x2).setCell ⟨p, 3, none⟩ x3).setCell ⟨p, 4, none⟩ x4).setCell ⟨p, 5, none⟩ x5).setCell ⟨p, 6, none⟩ x6).setCell ⟨p, 7, none⟩ x7)

theorem stored8 {w w3 : World} {p : Nat} {a0 a1 a2 a3 a4 a5 a6 a7 : Value} {t : TypeId} (hk : Kept Nought w w3) (hp : w.heap.size ≤ p) (hbx : w3.heap[p]? = some (.cells #[a0, a1, a2, a3, a4, a5, a6, a7] t (0, 0))) (x0 x1 x2 x3 x4 x5 x6 x7 : Value) :
    (put8w w3 p x0 x1 x2 x3 x4 x5 x6 x7).heap[p]? = some (.cells #[x0, x1, x2, x3, x4, x5, x6, x7] t (0, 0)) ∧ Kept Nought w (put8w w3 p x0 x1 x2 x3 x4 x5 x6 x7) ∧ Kept (fun q => q = p) w3 (put8w w3 p x0 x1 x2 x3 x4 x5 x6 x7) := by
  unfold put8w
  refine ⟨?_, ?_, ?_⟩
  · have h0 := heap_setCell_same w3 p 0 _ _ x0 hbx
    have h1 := heap_setCell_same _ p 1 _ _ x1 h0
    have h2 := heap_setCell_same _ p 2 _ _ x2 h1
    have h3 := heap_setCell_same _ p 3 _ _ x3 h2
    have h4 := heap_setCell_same _ p 4 _ _ x4 h3
    have h5 := heap_setCell_same _ p 5 _ _ x5 h4
    have h6 := heap_setCell_same _ p 6 _ _ x6 h5
    have h7 := heap_setCell_same _ p 7 _ _ x7 h6
    simpa using h7
  · exact ((((((((hk.setCell ⟨p, 0, none⟩ (fun h => by simp at h; omega) _).setCell ⟨p, 1, none⟩ (fun h => by simp at h; omega) _).setCell ⟨p, 2, none⟩ (fun h => by simp at h; omega) _).setCell ⟨p, 3, none⟩ (fun h => by simp at h; omega) _).setCell ⟨p, 4, none⟩ (fun h => by simp at h; omega) _).setCell ⟨p, 5, none⟩ (fun h => by simp at h; omega) _).setCell ⟨p, 6, none⟩ (fun h => by simp at h; omega) _).setCell ⟨p, 7, none⟩ (fun h => by simp at h; omega) _)
  · exact ((((((((Kept.refl (fun q => q = p) w3).setCell ⟨p, 0, none⟩ (fun _ => rfl) _).setCell ⟨p, 1, none⟩ (fun _ => rfl) _).setCell ⟨p, 2, none⟩ (fun _ => rfl) _).setCell ⟨p, 3, none⟩ (fun _ => rfl) _).setCell ⟨p, 4, none⟩ (fun _ => rfl) _).setCell ⟨p, 5, none⟩ (fun _ => rfl) _).setCell ⟨p, 6, none⟩ (fun _ => rfl) _).setCell ⟨p, 7, none⟩ (fun _ => rfl) _

theorem frees8 {W : World} {p : Nat} {cs : Array Value} {t : TypeId} (h : W.heap[p]? = some (.cells cs t (0, 0))) (j : Nat) : W.frozen? ⟨p, j, none⟩ = false := frozen_of_row W _ j _ _ h

/-- The zero key. -/
abbrev zeroKey : Array Value := #[.slice none 0 0, .int .u64 0, .slice none 0 0, .slice none 0 0, .slice none 0 0, .slice none 0 0, .slice none 0 0, .slice none 0 0]

theorem words_of_bits {X n : Nat} (h : blen X ≤ 64 * n) : wordsN X ≤ n := (wordsN_le X n).2 (by
  have := (blen_le X (64 * n)).1 h
  rw [Nat.pow_mul] at this
  exact this)

theorem dlen_of_bits {X n : Nat} (h : blen X ≤ 32 * n) : dlen X ≤ n := (dlen_le X n).2 (by
  have := (blen_le X (32 * n)).1 h
  rw [Nat.pow_mul] at this
  exact this)

theorem words_le_dlen {X n : Nat} (h : dlen X ≤ n) : wordsN X ≤ n := (wordsN_le X n).2 (Nat.lt_of_lt_of_le ((dlen_le X n).1 h) (Nat.pow_le_pow_left (by omega) n))

/-- Whether a number may be one of a key's two. -/
def halfOk (P : Nat) : Prop := 3 ≤ P ∧ P % 2 = 1 ∧ blen P ≤ 8192

/-- The words of a key's modulus. -/
def keyWords (P Q : Nat) : List Nat := digs 18446744073709551616 (P * Q) (max (wordsN (P * Q)) 1)

def keyOk (L M P Q e : Nat) : Prop := (L ≤ 300 ∧ M ≤ 300) ∧ halfOk P ∧ halfOk Q ∧ Nat.gcd P Q = 1 ∧ pubE (keyWords P Q) e = 0 ∧ Nat.gcd e (comN P Q) = 1

/-- A key in memory, made of P, Q and e. -/
def KeyAt (w : World) (P Q e : Nat) (kv : Array Value) : Prop :=
  ∃ (vn vd vp vq vdp vdq vqi : Value) (d u : Nat), kv = #[vn, .int .u64 (e : Nat), vd, vp, vq, vdp, vdq, vqi] ∧ Row .u64 w vn (keyWords P Q) ∧ d < comN P Q ∧ e * d % comN P Q = 1 ∧ Row .u64 w vd (digs 18446744073709551616 d (keyWords P Q).length) ∧
    Row .u64 w vp (digs 18446744073709551616 P (max (wordsN P) (wordsN Q))) ∧ Row .u64 w vq (digs 18446744073709551616 Q (max (wordsN P) (wordsN Q))) ∧ Row .u64 w vdp (digs 18446744073709551616 (d % (P - 1)) (max (wordsN P) (wordsN Q))) ∧ Row .u64 w vdq (digs 18446744073709551616 (d % (Q - 1)) (max (wordsN P) (wordsN Q))) ∧ u < P ∧ Q * u % P = 1 ∧ Row .u64 w vqi (digs 18446744073709551616 u (max (wordsN P) (wordsN Q)))

/-- What a key's cells show lies in new memory. -/
def KeyFar (B : Nat) (kv : Array Value) : Prop := ∀ v ∈ kv.toList, ∀ x, v.ownBlock = some x → B < x

theorem zeroKey_far (B : Nat) : KeyFar B zeroKey := by
  intro v hv x hx
  have hv' : v ∈ [Value.slice none 0 0, .int .u64 0, .slice none 0 0, .slice none 0 0, .slice none 0 0, .slice none 0 0, .slice none 0 0, .slice none 0 0] := hv
  simp only [List.mem_cons, List.not_mem_nil, or_false] at hv'
  rcases hv' with rfl | rfl | rfl | rfl | rfl | rfl | rfl | rfl <;> cases hx

theorem key_far {B : Nat} {v0 v2 v3 v4 v5 v6 v7 : Value} {e : Int} (h0 : ∀ x, v0.ownBlock = some x → B < x) (h2 : ∀ x, v2.ownBlock = some x → B < x) (h3 : ∀ x, v3.ownBlock = some x → B < x) (h4 : ∀ x, v4.ownBlock = some x → B < x) (h5 : ∀ x, v5.ownBlock = some x → B < x) (h6 : ∀ x, v6.ownBlock = some x → B < x) (h7 : ∀ x, v7.ownBlock = some x → B < x) : KeyFar B #[v0, .int .u64 e, v2, v3, v4, v5, v6, v7] := by
  intro v hv x hx
  have hv' : v ∈ [v0, .int .u64 e, v2, v3, v4, v5, v6, v7] := hv
  simp only [List.mem_cons, List.not_mem_nil, or_false] at hv'
  rcases hv' with rfl | rfl | rfl | rfl | rfl | rfl | rfl | rfl
  · exact h0 x hx
  · cases hx
  · exact h2 x hx
  · exact h3 x hx
  · exact h4 x hx
  · exact h5 x hx
  · exact h6 x hx
  · exact h7 x hx

theorem com_ge {P Q : Nat} (hP : 3 ≤ P) (hQ : 3 ≤ Q) : 2 ≤ comN P Q := by
  unfold comN
  have hg : Nat.gcd (P - 1) (Q - 1) ∣ P - 1 := Nat.gcd_dvd_left _ _
  have h1 : 1 ≤ (P - 1) / Nat.gcd (P - 1) (Q - 1) := Nat.div_pos (Nat.le_of_dvd (by omega) hg) (Nat.gcd_pos_of_pos_left _ (by omega))
  have := Nat.mul_le_mul_right (Q - 1) h1
  omega

end Go.Proofs.YtiljkgoafknefabGreat
