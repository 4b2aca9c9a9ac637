/- append of noughts that are made: append(b, make([]byte, k)...), to a row of the call's own. -/
import Derived.Test.YthnkganmccgaeaaDoorCut0
import Derived.Lib.AppendZerosOnto
namespace Go.Proofs.YthnkganmccgaeaaDoor
open Go.RowKit

theorem zeroCells8 (k : Nat) : Builtin.zeroCells (Value.int .u8 0).cells k = (List.replicate k (Value.int .u8 0)).toArray := by
  unfold Builtin.zeroCells
  apply Array.ext
  · simp [Value.cells]
  · intro i h1 h2
    simp [Value.cells, Nat.mod_one]

theorem rep_map (k : Nat) : (List.replicate k 0).map (fun z : Nat => Value.int .u8 (z : Int)) = List.replicate k (Value.int .u8 0) := by
  rw [List.map_replicate]
  rfl

/-- append of k noughts. -/
theorem run_append_make (w : World) (base : Nat) (v : Value) (zs : List Nat) (k : Nat) (hown : OwnB w base v zs) (hl : zs.length + k ≤ 100000000) (hb : base ≤ w.heap.size) (ty : TypeId) :
    ∃ v' w', (Builtin.append_ #[22, 3] ty #[v, .int .i64 (k : Int)]).run Tryd.prog w = .ok v' w' ∧ OwnB w' base v' (zs ++ List.replicate k 0) ∧ w.grownBy w' v.ownBlock := by
  obtain ⟨i0, hi0, hz0, hz1, hz2⟩ := info_parts Tryd.info8s
  have hw0 : IntKind.i64.wrap (0 : Int) = 0 := by rw [IntKind.wrap_i64]; omega
  have hgrow : ∀ (old : Nat) (G : Nat), zs.length + k ≤ G → G ≤ maxLen → OwnB (w.drew.alloc (.cells ((zs.map fun z : Nat => Value.int .u8 (z : Int)).toArray ++ Builtin.zeroCells (Value.int .u8 0).cells k ++ Builtin.zeroCells (Value.int .u8 0).cells (G - (zs.length + k))) 5)) base (.slice (some ⟨w.heap.size, 0, none⟩) (zs.length + k) G) (zs ++ List.replicate k 0) ∧ ∀ row, w.grownBy (w.drew.alloc (.cells ((zs.map fun z : Nat => Value.int .u8 (z : Int)).toArray ++ Builtin.zeroCells (Value.int .u8 0).cells k ++ Builtin.zeroCells (Value.int .u8 0).cells (G - (zs.length + k))) 5)) row := fun old G hG hm => by
    refine ⟨OwnB.of (n := zs.length + k) ?_, fun row => ⟨rfl, rfl, rfl, by simp, fun j hj _ => Below.heap_alloc w.drew _ j hj⟩⟩
    refine ⟨by simp, .inr ⟨w.heap.size, G, _, rfl, hb, heap_alloc_new w.drew _, hG, hm, ?_, ?_⟩⟩
    · simp [zeroCells8]
      omega
    · rw [zeroCells8, zeroCells8, List.map_append, rep_map]
      simp only [Array.toList_append, Nat.mul_one]
      rw [List.take_append_of_le_length (by simp)]
      exact List.take_of_length_le (by simp)
  rcases hown.2 with ⟨rfl, h0⟩ | ⟨g, cap, cur, rfl, hbg, hg, hnc, hcm, hcs, htake⟩
  · have hz : zs = [] := List.length_eq_zero_iff.1 h0
    subst hz
    by_cases hk : k = 0
    · subst hk
      refine ⟨.slice none 0 0, w, ?_, OwnB.nil _ _, ⟨rfl, rfl, rfl, Nat.le_refl _, fun _ _ _ => rfl⟩⟩
      simp [Builtin.append_, run_underlying Tryd.underlying22, run_underlying Tryd.underlying3, sizeOf, typeInfo, hi0, asInt, asIntOf, hw0]
    · have hr := Lib.run_append_nil_zeros (P := Tryd.prog) w 22 3 ty 5 i0 (.int .u8 0) .i64 .i64 Tryd.underlying22 Tryd.underlying3 hi0 hz0 k (by omega) (by omega) (by omega) (by rw [hz2]; omega)
      obtain ⟨h1, h2⟩ := hgrow 0 (grownCap w k 0 5) (by have := grownCap_ge w k 0 5; simpa using this) (grownCap_le_maxLen w k 0 5 (by unfold maxLen; omega))
      simp only [List.map_nil, Array.empty_append, List.length_nil, Nat.zero_add, List.nil_append] at h1 h2 ⊢
      exact ⟨_, _, hr, h1, h2 _⟩
  · by_cases hroom : zs.length + k ≤ cap
    · have hst := run_storeCells_at Tryd.prog g zs.length 5 (List.replicate k (Value.int .u8 0)) 0 cur w hg (by simp; omega) (fun u hu => by rw [List.eq_of_mem_replicate hu]; rfl)
      simp only [Nat.add_zero, List.length_replicate] at hst
      have hw : IntKind.i64.wrap (k : Int) = k := by rw [IntKind.wrap_i64]; omega
      have hneg : ¬ ((k : Int) < 0) := by omega
      have h48 : ¬ (281474976710656 < (k : Int)) := by omega
      refine ⟨.slice (some ⟨g, 0, none⟩) (zs.length + k) cap, w.setRow g (cur.toList.take zs.length ++ List.replicate k (Value.int .u8 0) ++ cur.toList.drop (zs.length + k)).toArray, ?_, OwnB.of (n := zs.length + k) ?_, ⟨rfl, rfl, rfl, by simp, fun j _ hj => setRow_other w g j _ (fun e => hj (by simp [Value.ownBlock, e]))⟩⟩
      · by_cases hk : k = 0
        · subst hk
          simp at hst
          simp [Builtin.append_, run_underlying Tryd.underlying22, run_underlying Tryd.underlying3, sizeOf, typeInfo, hi0, hz1, asInt, asIntOf, hw0, hnc, Addr.add_lit]
          simpa [storeCells] using hst
        · have hks : ¬ (k = 0) := hk
          simp [Builtin.append_, run_underlying Tryd.underlying22, run_underlying Tryd.underlying3, sizeOf, typeInfo, zeroValue, hi0, hz0, hz1, hz2, asInt, asIntOf, hw, hneg, h48, hks, hroom, Addr.add_lit, zeroCells8, hst]
      · refine ⟨by simp, .inr ⟨g, cap, _, rfl, hbg, setRow_heap w g cur _ 5 _ hg, hroom, hcm, ?_, ?_⟩⟩
        · simp
          omega
        · simp only [Nat.mul_one] at htake
          rw [htake, List.map_append, rep_map, Nat.mul_one]
          exact List.take_left' (by simp)
    · have hr := Lib.run_append_grow_zeros (P := Tryd.prog) w 22 3 ty 5 i0 (.int .u8 0) .i64 .i64 Tryd.underlying22 Tryd.underlying3 hi0 hz0 (some ⟨g, 0, none⟩) zs.length cap (zs.map fun z : Nat => Value.int .u8 (z : Int)) (by
        rw [hz1]
        refine run_firstCells_some (P := Tryd.prog) w.drew 1 zs.length ⟨g, 0, none⟩ zs.length cap _ (by simp) ?_
        intro j u hj
        exact hown.cells (g := g) rfl j u hj) k (by omega) (by omega) (by omega) (by omega) (by rw [hz2]; omega) (by rw [hz2]; exact growslice_fits (by omega) (by omega))
      obtain ⟨h1, h2⟩ := hgrow cap (grownCap w (zs.length + k) cap 5) (grownCap_ge w _ _ _) (grownCap_le_maxLen w _ _ _ (by unfold maxLen; omega))
      exact ⟨_, _, hr, h1, h2 _⟩

/-- append of noughts that are made, in a walk. -/
theorem wpList_append_make {w : World} {ops : Array Oper} {rest : List Oper} {o : Oper} {a : Act} {Q : Exit → Act → World → Prop} (hgd : o.guard = none) (s x : Operand)
    (ho : o.op = .call { callee := .builtin .append, args := #[s, x], argTypes := #[22, 3] })
    (base : Nat) (v : Value) (zs : List Nat) (hs : a.eval s = v) (hown : OwnB w base v zs) (k : Nat) (hx : a.eval x = .int .i64 (k : Int)) (hl : zs.length + k ≤ 100000000) (hbase : base ≤ w.heap.size)
    (h : ∀ (ls : List Nat) (ao : Option Addr) (n cap : Nat) (w' : World), Hid (ls = zs ++ List.replicate k 0) → Hid (ls.length = n) → OwnB w' base (.slice ao n cap) ls → Kept (fun b => base ≤ b) w w' → wpList Tryd.prog ops Q rest (a.put o.dst (.slice ao n cap)) w') : wpList Tryd.prog ops Q (o :: rest) a w := by
  obtain ⟨v', w', hr, h1, hg⟩ := run_append_make w base v zs k hown hl hbase o.type
  obtain ⟨ao, cap, rfl⟩ := own_slice h1
  exact Lib.wpList_append_run w hgd s x _ _ ho v _ hs hx _ _ hr (h _ ao _ cap w' rfl rfl h1 ((Kept.refl (fun b => base ≤ b) w).grown hg (fun q hq _ => (hown.lt q hq).1)))

end Go.Proofs.YthnkganmccgaeaaDoor
