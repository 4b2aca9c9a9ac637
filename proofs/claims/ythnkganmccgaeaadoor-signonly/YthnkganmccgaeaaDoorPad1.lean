/- The plain side of layer 23 (package sconceref23): Pad, Unpad. -/
import Derived.Test.YthnkganmccgaeaaDoorScr2
import Derived.Test.YthnkganmccgaeaaDoorCut0
namespace Go.Proofs.YthnkganmccgaeaaDoor
open Go.RowKit

/-- What Pad answers: the error, the bytes, what is left of the script. -/
def pdE (ms bs : List Nat) (k : Int) : Nat := if k < 0 ∨ 1024 < k then 1 else if (ms.length : Int) > k - 11 then 231 else filE bs (k - 3 - ms.length)
def pdL (ms bs : List Nat) (k : Int) : List Nat := if pdE ms bs k = 0 then [0, 2] ++ filL bs (k - 3 - ms.length) ++ [0] ++ ms else []
def pdR (ms bs : List Nat) (k : Int) : List Nat := if k < 0 ∨ 1024 < k then bs else if (ms.length : Int) > k - 11 then bs else filR bs (k - 3 - ms.length)

theorem fil_len {bs : List Nat} {n : Nat} (h : filE bs n = 0) : (filL bs n).length ≤ n := by
  have key : ∀ (bs : List Nat) (n : Nat), (filN bs n).1.length ≤ n := by
    intro bs
    induction bs with
    | nil => intro n; cases n <;> simp [filN]
    | cons x l ih =>
      intro n
      cases n with
      | zero => simp [filN]
      | succ m =>
        unfold filN
        split
        · exact ih _
        · have := ih m
          simp
          omega
  unfold filL
  rw [if_pos h]
  exact key bs n

/-- The first place of a byte; the length, if there is none. -/
def fstC (c : Nat) : List Nat → Nat
  | [] => 0
  | x :: l => if x = c then 0 else fstC c l + 1

theorem fstC_at {c : Nat} : ∀ {l : List Nat} {i : Nat}, i < l.length → l.getD i 0 = c → (∀ j, j < i → l.getD j 0 ≠ c) → fstC c l = i
  | [], i, h, _, _ => absurd h (by simp)
  | x :: l, 0, _, h, _ => by
    have h' : x = c := by simpa using h
    unfold fstC
    rw [if_pos h']
  | x :: l, i + 1, hl, h, hn => by
    have h0 : x ≠ c := by simpa using hn 0 (by omega)
    unfold fstC
    rw [if_neg h0, fstC_at (i := i) (by simpa using hl) (by simpa using h) (fun j hj => by simpa using hn (j + 1) (by omega))]

theorem fstC_none {c : Nat} : ∀ {l : List Nat}, (∀ j, j < l.length → l.getD j 0 ≠ c) → fstC c l = l.length
  | [], _ => rfl
  | x :: l, h => by
    have h0 : x ≠ c := by simpa using h 0 (by simp)
    unfold fstC
    rw [if_neg h0, fstC_none (l := l) (fun j hj => by simpa using h (j + 1) (by simpa using hj))]
    rfl

/-- What Unpad answers. -/
def unE (em : List Nat) : Nat := if (1024 < em.length ∨ em.length < 11 ∨ em.getD 0 0 ≠ 0 ∨ em.getD 1 0 ≠ 2) ∨ fstC 0 (em.drop 2) < 8 ∨ em.length ≤ fstC 0 (em.drop 2) + 2 then 230 else 0
def unL (em : List Nat) : List Nat := if unE em = 0 then em.drop (fstC 0 (em.drop 2) + 3) else []

end Go.Proofs.YthnkganmccgaeaaDoor
