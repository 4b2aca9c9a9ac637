/- Melted of: MonN MonO MonP MonQ MonR MonS. -/
import Derived.Test.YtiljkgoafknefaaGreatMon3
import Derived.Test.YtiljkgoafknefaaGreatMon4
import Derived.Test.YtiljkgoafknefaaGreatMon2

/- Package mont: asked: what it attempts. -/
namespace Go.Proofs.YtiljkgoafknefaaGreat
open Go.RowKit

/-- Whether all operands are members. -/
def AllIn (cnt n V : Nat) (N : Nat → Nat) (xss : Nat → List Nat) : Prop := ∀ i, i < cnt → N i = n ∧ val 18446744073709551616 (xss i) < V

/-- Whether the first of them are members, as a word. -/
def inN (cnt n V : Nat) (N : Nat → Nat) (xss : Nat → List Nat) : Nat → Nat
  | 0 => 1
  | k + 1 => if inN cnt n V N xss k = 1 ∧ (N k = n ∧ val 18446744073709551616 (xss k) < V) then 1 else 0

theorem inN_le (cnt n V : Nat) (N : Nat → Nat) (xss : Nat → List Nat) : ∀ k, inN cnt n V N xss k ≤ 1
  | 0 => by simp [inN]
  | k + 1 => by unfold inN; split <;> omega

theorem inN_iff (cnt n V : Nat) (N : Nat → Nat) (xss : Nat → List Nat) : ∀ k, inN cnt n V N xss k = 1 ↔ AllIn k n V N xss
  | 0 => by simp [inN, AllIn]
  | k + 1 => by
    have ih := inN_iff cnt n V N xss k
    unfold inN
    constructor
    · intro h
      split at h
      · rename_i h1
        intro i hi
        rcases Nat.lt_or_ge i k with h2 | h2
        · exact ih.1 h1.1 i h2
        · obtain rfl : i = k := by omega
          exact h1.2
      · omega
    · intro h
      rw [if_pos ⟨ih.2 (fun i hi => h i (by omega)), h k (by omega)⟩]

theorem inN_bits (cnt n V : Nat) (N : Nat → Nat) (xss : Nat → List Nat) (k : Nat) : bits .and .u64 ((inN cnt n V N xss k : Nat) : Int) ((memN (N k) n (val 18446744073709551616 (xss k)) V : Nat) : Int) = ((inN cnt n V N xss (k + 1) : Nat) : Int) := by
  have h := inN_le cnt n V N xss k
  have h1 : inN cnt n V N xss (k + 1) = if inN cnt n V N xss k = 1 ∧ (N k = n ∧ val 18446744073709551616 (xss k) < V) then 1 else 0 := rfl
  rw [h1]
  unfold memN
  generalize inN cnt n V N xss k = m at *
  have h01 : m = 0 ∨ m = 1 := by omega
  by_cases h2 : N k = n ∧ val 18446744073709551616 (xss k) < V
  · rcases h01 with rfl | rfl
    · rw [if_pos h2, if_neg (by omega)]
      decide
    · rw [if_pos h2, if_pos ⟨rfl, h2⟩]
      decide
  · rcases h01 with rfl | rfl
    · rw [if_neg h2, if_neg (by omega)]
      decide
    · rw [if_neg h2, if_neg (fun h => h2 h.2)]
      decide

/-- What 'do' leaves: a number of n words in new memory, of which G holds; the events m. -/
def Done (W : World) (o : Tr) (m : List Ev) (n : Nat) (G : Nat → Prop) (w' : World) (v' : Value) : Prop :=
  ∃ (Y : Nat) (o' : Tr), OwnN .u64 24 w' W.heap.size v' n (digs 18446744073709551616 Y n) ∧ G Y ∧ Did W o m w' o'

end Go.Proofs.YtiljkgoafknefaaGreat

/- Package mont: asked. -/
namespace Go.Proofs.YtiljkgoafknefaaGreat
open Go.RowKit

/-- What asked answers beside the error. -/
def Answered (w : World) (o : Tr) (n E cnt : Nat) (dE : List Ev) (G : Nat → Prop) (w' : World) (v' : Value) : Prop :=
  (∃ Y, Row .u64 w' v' (if E = 0 then digs 18446744073709551616 Y n else []) ∧ (E = 0 → G Y)) ∧ (Fresh w v' ∧ U64s w' v') ∧ ∃ o', Did w o (if n ≤ 130 then List.replicate cnt (1, (n : Int), 0) ++ dE else []) w' o'

end Go.Proofs.YtiljkgoafknefaaGreat

/- Package mont: Mul. -/
namespace Go.Proofs.YtiljkgoafknefaaGreat
open Go.RowKit

/-- What a modulus that is one has. -/
theorem okMod.facts {ms rs : List Nat} {K n l : Nat} (h : okMod ms K rs) (hn : ms.length = n) (hl : rs.length = l) (hmd : Digs 18446744073709551616 ms) (hrd : Digs 18446744073709551616 rs) (hK : K < 18446744073709551616) :
    (val 18446744073709551616 ms * K + 1) % 18446744073709551616 = 0 ∧ 0 < n ∧ n ≤ 130 ∧ l = n ∧ val 18446744073709551616 ms % 2 = 1 ∧ val 18446744073709551616 ms < 18446744073709551616 ^ n ∧ val 18446744073709551616 rs = 18446744073709551616 ^ (2 * n) % val 18446744073709551616 ms := by
  obtain ⟨h1, h2, h3, h4⟩ := (chk_iff hn hl hmd hrd hK).1 h
  have hVn : val 18446744073709551616 ms < 18446744073709551616 ^ n := by rw [← hn]; exact val_lt (by omega) hmd
  obtain ⟨V, hV⟩ : ∃ V, V = val 18446744073709551616 ms := ⟨_, rfl⟩
  rw [← hV] at h1 h2 h4 hVn ⊢
  have m := montE_ok h.1
  rw [← hV] at m
  unfold prepN at h4
  by_cases h5 : (V * K + 1) % 18446744073709551616 = 0 ∧ val 18446744073709551616 rs = 18446744073709551616 ^ (2 * n) % V
  · refine ⟨h5.1, ?_, by omega, h3, m.2.2, hVn, h5.2⟩
    rcases Nat.eq_zero_or_pos n with h0 | h0
    · rw [h0, Nat.pow_zero] at hVn
      omega
    · exact h0
  · rw [if_neg h5] at h4
    omega

/-- The events of times. -/
def timesEvs (n : Nat) : List Ev := List.replicate n (1, (n : Int), 0) ++ List.replicate (n + 2) (1, (n : Int), 0)

theorem Reduced.done {W : World} {o : Tr} {m : List Ev} {n K X V : Nat} {w' : World} {v' : Value} {G : Nat → Prop} (h : Reduced W o m n K X V w' v') (hG : ∀ Y, ((V * K + 1) % 18446744073709551616 = 0 → 0 < n → X < V * 18446744073709551616 ^ n → Y < V ∧ 18446744073709551616 ^ n * Y % V = X % V) → G Y) : Done W o (m ++ List.replicate (n + 2) (1, (n : Int), 0)) n G w' v' := by
  obtain ⟨Y, o', h1, h2, h3⟩ := h
  exact ⟨Y, o', h1, hG Y h2, h3⟩

/-- The product's place, whatever the numbers are. -/
def MulG (n V X Z : Nat) (Y : Nat) : Prop := Y < V ∧ 2 ^ (64 * n) * Y % V = (X * Z) % V

end Go.Proofs.YtiljkgoafknefaaGreat

/- Package mont: Mul, whole. -/
namespace Go.Proofs.YtiljkgoafknefaaGreat
open Go.RowKit

theorem two_slots {W : World} {g N1 N2 xc yc : Nat} {xo yo : Option Addr} {t : TypeId} (h : W.heap[g]? = some (.cells #[.slice xo N1 xc, .slice yo N2 yc] t (0, 0))) : Slots W (some ⟨g, 0, none⟩) 2 (fun i => if i = 0 then xo else yo) (fun i => if i = 0 then N1 else N2) (fun i => if i = 0 then xc else yc) := by
  intro i hi
  refine ⟨g, 0, rfl, ?_⟩
  have h01 : i = 0 ∨ i = 1 := by omega
  rcases h01 with rfl | rfl
  · exact (cell_of_row W g 0 _ _ _ h).trans rfl
  · exact (cell_of_row W g 1 _ _ _ h).trans rfl

theorem one_slot {W : World} {g N1 xc : Nat} {xo : Option Addr} {t : TypeId} (h : W.heap[g]? = some (.cells #[.slice xo N1 xc] t (0, 0))) : Slots W (some ⟨g, 0, none⟩) 1 (fun _ => xo) (fun _ => N1) (fun _ => xc) := by
  intro i hi
  refine ⟨g, 0, rfl, ?_⟩
  obtain rfl : i = 0 := by omega
  exact (cell_of_row W g 0 _ _ _ h).trans rfl

theorem Answered.after {w W : World} {o : Tr} {n E cnt : Nat} {dE : List Ev} {G : Nat → Prop} {w' : World} {v' : Value} (k : Kept Nought w W) (h : Answered W o n E cnt dE G w' v') : Answered w o n E cnt dE G w' v' := by
  obtain ⟨h1, h2, o', d⟩ := h
  exact ⟨h1, ⟨h2.1.after k, h2.2⟩, o', Did.after k d⟩

end Go.Proofs.YtiljkgoafknefaaGreat

/- Package mont: what Enter and Leave ask for. -/
namespace Go.Proofs.YtiljkgoafknefaaGreat
open Go.RowKit

/-- What goes in. -/
def EntG (n V X : Nat) (Y : Nat) : Prop := Y = 2 ^ (64 * n) * X % V

theorem ent_num {V n X Y : Nat} (hodd : V % 2 = 1) (hY : Y < V) (h : 18446744073709551616 ^ n * Y % V = (X * (18446744073709551616 ^ (2 * n) % V)) % V) : EntG n V X Y := by
  unfold EntG
  have hco : Nat.Coprime (18446744073709551616 ^ n) V := by rw [B64]; exact (odd_coprime hodd).symm
  rw [← B64, ← Nat.mod_eq_of_lt hY]
  apply cancel_mod hco
  rw [h, Nat.mul_mod, Nat.mod_mod, ← Nat.mul_mod, Nat.two_mul, Nat.pow_add]
  congr 1
  generalize 18446744073709551616 ^ n = p
  grind

/-- What comes out. -/
def LeaG (n V X : Nat) (Y : Nat) : Prop := Y < V ∧ 2 ^ (64 * n) * Y % V = X % V

end Go.Proofs.YtiljkgoafknefaaGreat

/- Package mont: Enter, Leave, One. -/
namespace Go.Proofs.YtiljkgoafknefaaGreat
open Go.RowKit

end Go.Proofs.YtiljkgoafknefaaGreat
