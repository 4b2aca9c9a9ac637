/- Arrays, rows and cells: what stays of them (no layer of its own). -/
import Derived.Test.YthnkganmccgaeaaDoorSha2
import Derived.Test.YthnkganmccgaeaaDoorSha4
import Derived.Deep.RegionHeld3
namespace Go.Proofs.YthnkganmccgaeaaDoor
open Go.RowKit

theorem keepC {W : World} {a : Addr} {p j : Nat} {x q : Value} (h : W.cell? a = some q) (hne : a ≠ ⟨p, j, none⟩) : (W.setCell ⟨p, j, none⟩ x).cell? a = some q := (World.cell?_setCell_other (w := W) (a := ⟨p, j, none⟩) (b := a) (v := x) (fun e => hne e.symm)).trans h

theorem keepDr {W : World} {a : Addr} {v : Value} (h : W.cell? a = some v) : W.drew.cell? a = some v := ((Kept.refl Nought W).drew).cellN h

theorem all_one (k : IntKind) (zs : List Nat) : ((zs.map fun z => Value.int k (z : Nat)).toArray).all (·.oneCell') = true := by
  rw [Array.all_eq_true_iff_forall_mem]
  intro v hv
  rw [List.mem_toArray] at hv
  obtain ⟨z, _, rfl⟩ := List.mem_map.1 hv
  rfl

theorem kept_setRow (w : World) (b : Nat) (cs : Array Value) : Kept (fun x => x = b) w (w.setRow b cs) :=
  ⟨rfl, rfl, rfl, by simp [World.setRow], fun k _ hk => by
    have hk' : ¬ b = k := fun e => hk e.symm
    simp [World.setRow, Array.getElem?_modify, hk']⟩

theorem cell_other {w w' : World} {p b j : Nat} {u : Value} (h : w.cell? ⟨b, j, none⟩ = some u) (k : Kept (fun x => x = p) w w') (hne : b ≠ p) : w'.cell? ⟨b, j, none⟩ = some u := by
  have hlt : b < w.heap.size := by
    by_cases hh : b < w.heap.size
    · exact hh
    · have : w.heap[b]? = none := Array.getElem?_eq_none (by omega)
      simp [World.cell?, this] at h
  have e := k.block b hlt hne
  unfold World.cell? at *
  rw [e]
  exact h

theorem keepAl {W : World} {a : Addr} {O : Obj} {v : Value} (h : W.cell? a = some v) : (W.alloc O).cell? a = some v := ((Kept.refl Nought W).alloc O).cellN h

theorem keepS8 {W : World} {a : Addr} {p : Nat} {y0 y1 y2 y3 y4 y5 y6 y7 q : Value} (h : W.cell? a = some q) (hne : a.block ≠ p) : ((((((((W.setCell ⟨p, 0, none⟩ y0).setCell ⟨p, 1, none⟩ y1).setCell ⟨p, 2, none⟩ y2).setCell ⟨p, 3, none⟩ y3).setCell ⟨p, 4, none⟩ y4).setCell ⟨p, 5, none⟩ y5).setCell ⟨p, 6, none⟩ y6).setCell ⟨p, 7, none⟩ y7).cell? a = some q := by
  have e : ∀ (w : World) (j : Nat) (r : Value), (w.setCell ⟨p, j, none⟩ r).cell? a = w.cell? a := fun w j r => by
    unfold World.cell?
    rw [Below.heap_setCell w ⟨p, j, none⟩ r a.block hne]
  rw [e, e, e, e, e, e, e, e]
  exact h

theorem padL_at (N j : Nat) (hj : j < 8) : (padL N 8)[j]? = some (8 * N % 18446744073709551616 / 2 ^ (56 - 8 * j) % 256) := by
  unfold padL
  rw [List.getElem?_map, List.getElem?_range hj]
  rfl

theorem padL_length (N : Nat) : (padL N 8).length = 8 := by unfold padL; simp

theorem lt_of_cell {w : World} {a : Addr} {u : Value} (h : w.cell? a = some u) : a.block < w.heap.size := by
  by_cases hh : a.block < w.heap.size
  · exact hh
  · have : w.heap[a.block]? = none := Array.getElem?_eq_none (by omega)
    simp [World.cell?, this] at h

theorem row_none (k : IntKind) (w : World) (ad : Addr) : Row k w (.slice (some ad) 0 0) [] := ⟨some ad, 0, rfl, Nat.le_refl _, by unfold maxLen; omega, (fun e => by cases e), fun i hi => absurd hi (by simp)⟩

/-- append of bytes to a row of the call's own, inside a region that draws its order. -/
theorem step_append_row {w : World} {ops : Array Oper} {o : Oper} {a : Act} {K : Act → World → Prop} {Q : Exit → Act → World → Prop} {E : Prop} (hgd : o.guard = none) (s x : Operand)
    (ho : o.op = .call { callee := .builtin .append, args := #[s, x], argTypes := #[22, 22] })
    (base : Nat) (v : Value) (zs : List Nat) (hs : a.eval s = v) (hown : OwnB w base v zs) (ad : Addr) (n c : Nat) (hx : a.eval x = .slice (some ad) n c) (bs : List Nat) (hr : Row .u8 w (.slice (some ad) n c) bs) (hl : zs.length + n ≤ 100000000) (hbase : base ≤ w.heap.size)
    (h : ∀ v' w', OwnB w' base v' (zs ++ bs) → w.grownBy w' v.ownBlock → K (a.put o.dst v') w') :
    if Region.wanted o (yielded ops a.tmps) = true then Oper.wp Tryd.prog o a w K Q else E := by
  have hw : Region.wanted o (yielded ops a.tmps) = true := by simp [Region.wanted, hgd]
  rw [if_pos hw]
  obtain ⟨i0, hi0, hz0, hz1, hz2⟩ := info_parts Tryd.info8s
  obtain ⟨_, _, _, e1, hL, _, _, _, _⟩ := hr.open
  cases e1
  refine wp_append_own w s x 22 ho base 5 i0 (.int .u8 0) 1 1 Tryd.underlying22 hi0 hz0 hz1 hz2 rfl (by decide) v zs.length _ hs hown ad n c (bs.map fun z : Nat => Value.int .u8 (z : Int)) hx (by rw [List.length_map, hL.out, Nat.mul_one]) (news_row hr (Kept.refl _ _)) (ones8 .u8 bs) (by unfold maxLen; omega) (by omega) hbase ?_
  intro v' w' ho' hg _
  refine h v' w' (OwnB.of (n := zs.length + n) ?_) hg
  unfold OwnN
  rw [List.map_append]
  exact ho'

/-- A new row of bytes, marked or not. -/
theorem row_marked (w : World) (zs : List Nat) (fr : Nat × Nat) (hm : zs.length ≤ maxLen) : Row .u8 (w.alloc (.cells (zs.map fun z => Value.int .u8 (z : Nat)).toArray 5 fr)) (.slice (some ⟨w.heap.size, 0, none⟩) zs.length zs.length) zs := by
  refine ⟨some ⟨w.heap.size, 0, none⟩, zs.length, rfl, Nat.le_refl _, hm, (fun e => by cases e), fun i hi => ⟨w.heap.size, 0, rfl, ?_⟩⟩
  rw [Nat.zero_add, cell_of_row _ _ i _ _ _ (heap_alloc_new w _)]
  simp [List.getElem?_eq_getElem hi]

end Go.Proofs.YthnkganmccgaeaaDoor
