/- Package script: Below. -/
import Derived.Test.YtegjdjfnpphipaaLsc4
import Derived.Test.YtegjdjfnpphipaaScr4
import Derived.Test.YtegjdjfnpphipaaNatE
namespace Go.Proofs.Ytegjdjfnpphipaa
open Go.RowKit Go.Shelf

attribute [local go_sem] Oper.semAt_some

/-- A number of some words lies apart from a block that holds none. -/
theorem row_apart {k : IntKind} {w : World} {b : Nat} {cs : Array Value} {t : TypeId} {v : Value} {xs : List Nat} (hb : w.heap[b]? = some (.cells cs t (0, 0))) (hc : ∀ u ∈ cs, ∀ z, u ≠ .int k z) (hv : Row k w v xs) (hx : xs ≠ []) : v.ownBlock ≠ some b := by
  intro e
  obtain ⟨ao, L, cap, rfl, hL, _, _, _, hnum⟩ := hv.open
  have hpos : 0 < L := by
    rw [← hL.out]
    exact List.length_pos_iff.2 hx
  obtain ⟨b', off, rfl, hcell⟩ := hnum 0 hpos
  cases e
  rw [cell_of_row w b' (off + 0) _ _ _ hb] at hcell
  exact hc _ (Array.mem_of_getElem? hcell) _ rfl

theorem Lsc.apart {k : IntKind} {w : World} {p : Option Addr} {B : Nat} {bs xs : List Nat} {v : Value} (h : Lsc w p B bs) (hv : Row k w v xs) (hx : xs ≠ []) (hk : k ≠ .i64 := by decide) : ∀ x, v.ownBlock = some x → ¬ ofP p x := by
  intro x e hp
  rcases h with ⟨rfl, _⟩ | ⟨b, v', ps, pl, rfl, _, h⟩
  · cases hp
  · cases hp
    refine row_apart h.1 ?_ hv hx e
    obtain ⟨_, _, rfl, _⟩ := h.2.1
    intro u hu z
    simp at hu
    rcases hu with rfl | rfl
    · simp
    · intro e
      cases e
      exact hk rfl

theorem boxed_apart {w : World} {b : Nat} {t : TypeId} {u v : Value} {xs : List Nat} (hb : Boxed w b t u) (hu : ∀ z, u ≠ .int .u64 z) (hv : Row .u64 w v xs) (hx : xs ≠ []) : v.ownBlock ≠ some b :=
  row_apart hb (fun y hy z => by simp at hy; rw [hy]; exact hu z) hv hx

theorem boxed_other {w : World} {b : Nat} {t : TypeId} {v : Value} (h : Boxed w b t v) (c : Nat) (u : Value) (hne : b ≠ c) : Boxed (w.setCell ⟨c, 0, none⟩ u) b t v := heapAt_set (a := ⟨c, 0, none⟩) h hne u

/-- How many draws were passed over, and none of them was it. -/
def BelK (M t z : Nat) (bs : List Nat) (k : Nat) : Prop := ∃ f, (bs.drop (k * z)).length < f ∧ belF M t z (bs.length + 1) bs 1 = belF M t z f (bs.drop (k * z)) (k + 1)

theorem BelK.zero (M t z : Nat) (bs : List Nat) : BelK M t z bs 0 := ⟨bs.length + 1, by simp, by simp⟩

theorem BelK.step {M t z k : Nat} {bs : List Nat} (h : BelK M t z bs k) (hz : 0 < z) (hl : (k + 1) * z ≤ bs.length) :
    (0 < drwN t z bs k ∧ drwN t z bs k < M ∧ belF M t z (bs.length + 1) bs 1 = (drwN t z bs k, k + 1, bs.drop ((k + 1) * z))) ∨ (¬ (0 < drwN t z bs k ∧ drwN t z bs k < M) ∧ BelK M t z bs (k + 1)) := by
  obtain ⟨f, hf, e⟩ := h
  have hd : (bs.drop (k * z)).drop z = bs.drop ((k + 1) * z) := by rw [List.drop_drop, Nat.succ_mul]
  have hlen : ¬ (bs.drop (k * z)).length < z := by rw [List.length_drop]; rw [Nat.succ_mul] at hl; omega
  rcases belF_step (M := M) (t := t) (k := k + 1) hf hz with ⟨h1, _⟩ | ⟨_, h2, h3⟩ | ⟨_, h2, f', hf', h3⟩
  · exact absurd h1 hlen
  · rw [hd] at h3
    exact .inl ⟨h2.1, h2.2, e.trans h3⟩
  · rw [hd] at h3 hf'
    exact .inr ⟨h2, f', hf', e.trans h3⟩

theorem BelK.spent {M t z k : Nat} {bs : List Nat} (h : BelK M t z bs k) (hz : 0 < z) (h0 : k * z ≤ bs.length) (hl : bs.length < (k + 1) * z) : belF M t z (bs.length + 1) bs 1 = (0, 0, []) := by
  obtain ⟨f, hf, e⟩ := h
  have hlen : (bs.drop (k * z)).length < z := by rw [List.length_drop]; rw [Nat.succ_mul] at hl; omega
  rcases belF_step (M := M) (t := t) (k := k + 1) hf hz with ⟨_, h3⟩ | ⟨h1, _⟩ | ⟨h1, _⟩
  · exact e.trans h3
  · exact absurd hlen h1
  · exact absurd hlen h1

end Go.Proofs.Ytegjdjfnpphipaa
