/- A part of a row, as a slice of it lies in memory. -/
import Derived.Test.YthnkganmccgaeaaDoorByt1
namespace Go.Proofs.YthnkganmccgaeaaDoor
open Go.RowKit

theorem row_empty {k : IntKind} {w : World} {ao : Option Addr} {cap : Nat} (h : ao = none → cap = 0) (hc : cap ≤ maxLen) : Row k w (.slice ao 0 cap) [] :=
  ⟨ao, cap, rfl, Nat.zero_le _, hc, h, fun i hi => absurd hi (by simp)⟩

/-- A part of a row, as a slice of it lies in memory. -/
theorem row_cut {k : IntKind} {w : World} {ao : Option Addr} {L cap s m : Nat} {zs : List Nat} (h : Row k w (.slice ao L cap) zs) (h2 : s + m ≤ L) :
    (ao = none → Row k w (.slice none 0 0) ((zs.drop s).take m)) ∧ (∀ ad, ao = some ad → cap = s → Row k w (.slice (some ad) 0 0) ((zs.drop s).take m)) ∧ (∀ ad, ao = some ad → cap ≠ s → Row k w (.slice (some (ad.add s)) m (cap - s)) ((zs.drop s).take m)) := by
  obtain ⟨_, _, _, e, hL, hLc, hcm, hnn, hnum⟩ := h.open
  cases e
  have hz : m = 0 → (zs.drop s).take m = [] := fun e => by rw [e]; rfl
  refine ⟨fun e => ?_, fun ad e ec => ?_, fun ad e ec => ?_⟩
  · have := hnn e
    rw [hz (by omega)]
    exact Row.nil _ _
  · rw [hz (by omega)]
    exact row_empty (fun e => by cases e) (Nat.zero_le _)
  · subst e
    by_cases hm : m = 0
    · rw [hz hm, hm]
      exact row_empty (fun e => by cases e) (by unfold maxLen at *; omega)
    · obtain ⟨b, off, e, _⟩ := hnum 0 (by omega)
      cases e
      have ea : (⟨b, off, none⟩ : Addr).add s = ⟨b, off + s, none⟩ := by unfold Addr.add; split <;> simp_all
      rw [ea]
      exact row_part h h2

/-- append of bytes to a row of the call's own: what comes of it has letters for its list and its length. -/
theorem wpList_append_nm {w : World} {ops : Array Oper} {rest : List Oper} {o : Oper} {a : Act} {Q : Exit → Act → World → Prop} (hgd : o.guard = none) (s x : Operand)
    (ho : o.op = .call { callee := .builtin .append, args := #[s, x], argTypes := #[22, 22] })
    (base : Nat) (v : Value) (zs : List Nat) (hs : a.eval s = v) (hown : OwnB w base v zs) (u : Value) (hx : a.eval x = u) (bs : List Nat) (hr : Row .u8 w u bs) (hl : zs.length + bs.length ≤ 100000000) (hbase : base ≤ w.heap.size)
    (h : ∀ (ls : List Nat) (ao : Option Addr) (n cap : Nat) (w' : World), Hid (ls = zs ++ bs) → Hid (ls.length = n) → OwnB w' base (.slice ao n cap) ls → Kept (fun b => base ≤ b) w w' → wpList Tryd.prog ops Q rest (a.put o.dst (.slice ao n cap)) w') : wpList Tryd.prog ops Q (o :: rest) a w := by
  refine wpList_append_row hgd s x ho base v zs hs hown u hx bs hr hl hbase ?_
  intro v' w' h1 hg
  obtain ⟨ao, cap, rfl⟩ := own_slice h1
  exact h _ ao _ cap w' rfl rfl h1 ((Kept.refl (fun b => base ≤ b) w).grown hg (fun q hq _ => (hown.lt q hq).1))

/-- A new row of some bytes. -/
theorem own_lit8 (w : World) (ls : List Nat) (cs : Array Value) (hc : cs = (ls.map fun z : Nat => Value.int .u8 (z : Int)).toArray) (n : Nat) (hn : n = ls.length) (hm : n ≤ 1000000) (h0 : 0 < n) : OwnB (w.alloc (.cells cs 5)) w.heap.size (.slice (some ⟨w.heap.size, 0, none⟩) n n) ls := by
  subst hc
  have h1 : (w.alloc (.cells (ls.map fun z : Nat => Value.int .u8 (z : Int)).toArray 5)).ownsRow w.heap.size 5 1 (.slice (some ⟨w.heap.size, 0, none⟩) n n) n (ls.map fun z : Nat => Value.int .u8 (z : Int)).toArray.toList := World.ownsRow_lit w (ls.map fun z : Nat => Value.int .u8 (z : Int)).toArray n (Nat.le_refl _) (by unfold maxLen; omega) (by simp [hn])
  exact OwnB.of (n := n) h1

end Go.Proofs.YthnkganmccgaeaaDoor
