/- A slice of numbers that grows by append. -/
import Derived.Test.YtcjaafmlflonhaaGreatDoorBase2
namespace Go.Proofs.YtcjaafmlflonhaaGreatDoor
open Go.RowKit

/-- A slice of numbers that grows: it holds k numbers of L words, number j reads f j and lies apart from the slice's own memory. -/
def Grows (w : World) (base : Nat) (out : Value) (L k : Nat) (A : Nat → Option Addr) (C : Nat → Nat) (f : Nat → List Nat) : Prop :=
  w.ownsRow base 31 1 out k ((List.range k).map fun j => .slice (A j) L (C j)) ∧ ∀ j, j < k → Row .u64 w (.slice (A j) L (C j)) (f j) ∧ ∀ b, (Value.slice (A j) L (C j)).ownBlock = some b → out.ownBlock ≠ some b

theorem Grows.nil (w : World) (base L : Nat) (A : Nat → Option Addr) (C : Nat → Nat) (f : Nat → List Nat) : Grows w base (.slice none 0 0) L 0 A C f := ⟨World.ownsRow_nil _ _ _ _, fun j hj => by omega⟩

theorem Grows.grew {w w' : World} {base : Nat} {out : Value} {L k : Nat} {A : Nat → Option Addr} {C : Nat → Nat} {f : Nat → List Nat} (h : Grows w base out L k A C f) (kk : Kept Nought w w') : Grows w' base out L k A C f :=
  ⟨kk.own h.1 (fun _ _ q => q), fun j hj => ⟨(h.2 j hj).1.grew kk, (h.2 j hj).2⟩⟩

theorem append_apart {W w4 : World} {out v : Value} {zs : List Nat} {g n cap : Nat} (hr : Row .u64 W v zs) (hne : zs ≠ []) (hap : ∀ b, v.ownBlock = some b → out.ownBlock ≠ some b) (hg : W.grownBy w4 out.ownBlock) (hat : out.ownBlock = some g ∨ g = W.heap.size) :
    Row .u64 w4 v zs ∧ ∀ b, v.ownBlock = some b → (Value.slice (some ⟨g, 0, none⟩) n cap).ownBlock ≠ some b := by
  have kk : Kept (fun b => out.ownBlock = some b) W w4 := (Kept.refl _ W).grown hg (fun b e _ => e)
  refine ⟨hr.kept' kk (fun _ b hb f => hap b hb f), fun b hb e => ?_⟩
  have e' : g = b := by simpa [Value.ownBlock] using e
  subst e'
  rcases hat with h1 | h1
  · exact hap g hb h1
  · have := hr.lt hne g hb
    omega

theorem Grows.base {w : World} {base base' : Nat} {out : Value} {L k : Nat} {A : Nat → Option Addr} {C : Nat → Nat} {f : Nat → List Nat} (h : Grows w base out L k A C f) (hb : base' ≤ base) : Grows w base' out L k A C f :=
  ⟨own_base h.1 (fun b e => Nat.le_trans hb (World.ownsRow.lt h.1 b e).1), h.2⟩

theorem Grows.push {W w4 : World} {base : Nat} {out : Value} {L k g cap : Nat} {A : Nat → Option Addr} {C : Nat → Nat} {f : Nat → List Nat} {yo : Option Addr} {yc : Nat} (h : Grows W base out L k A C f) (hf : ∀ j, f j ≠ [])
    (hy : Row .u64 W (.slice yo L yc) (f k)) (hya : ∀ b, (Value.slice yo L yc).ownBlock = some b → out.ownBlock ≠ some b)
    (ho : w4.ownsRow base 31 1 (.slice (some ⟨g, 0, none⟩) (k + 1) cap) (k + 1) (((List.range k).map fun j => .slice (A j) L (C j)) ++ [.slice yo L yc])) (hg : W.grownBy w4 out.ownBlock) (hat : out.ownBlock = some g ∨ g = W.heap.size) :
    Grows w4 base (.slice (some ⟨g, 0, none⟩) (k + 1) cap) L (k + 1) (fun j => if j = k then yo else A j) (fun j => if j = k then yc else C j) f := by
  refine ⟨?_, fun j hj => ?_⟩
  · rw [List.range_succ, List.map_append, List.map_cons, List.map_nil]
    dsimp only
    rw [if_pos rfl, if_pos rfl]
    have e : ((List.range k).map fun j => Value.slice (if j = k then yo else A j) L (if j = k then yc else C j)) = (List.range k).map fun j => Value.slice (A j) L (C j) := by
      refine List.map_congr_left (fun j hj => ?_)
      have : j < k := List.mem_range.1 hj
      rw [if_neg (by omega), if_neg (by omega)]
    rw [e]
    exact ho
  · by_cases e : j = k
    · subst e
      dsimp only
      rw [if_pos rfl, if_pos rfl]
      exact append_apart hy (hf _) hya hg hat
    · dsimp only
      rw [if_neg e, if_neg e]
      exact append_apart (h.2 j (by omega)).1 (hf j) (h.2 j (by omega)).2 hg hat

theorem Tryz.infoN31 : (Tryz.prog.info? 31).map (fun i => (i.zero, i.size, i.bytes)) = some (some (.slice none 0 0), 1, 24) := by kernel_rfl

theorem row_slice {w : World} {v : Value} {zs : List Nat} {L : Nat} (h : Row .u64 w v zs) (hl : zs.length = L) : ∃ po pc, v = .slice po L pc := by
  obtain ⟨po, pn, pc, rfl, hpn, _⟩ := h.open
  have : pn = L := hpn.out.symm.trans hl
  subst this
  exact ⟨po, pc, rfl⟩

end Go.Proofs.YtcjaafmlflonhaaGreatDoor
