/- An array of numbers that came in by value; a table that the row lists: from readings to cells. -/
import Derived.Test.YthnkganmccgaeaaDoorOpenRow
import Derived.Lib.LaidU8
import Derived.WideShapes
namespace Go.Proofs.YthnkganmccgaeaaDoor
open Go.RowKit

theorem okWide_arr {P : Program} {w : World} {r : Reach} {base : Nat} {t e : TypeId} {n : Nat} {v : Value} (ht : P.underlying t = some (.array n e)) (h : Value.okWide P w r base t v) : ∃ cs, v = .agg cs ∧ cs.size = P.cellsOf t := by
  simp only [Value.okWide, ht] at h
  obtain ⟨cs, h1, h2, _⟩ := h
  exact ⟨cs, h1, h2⟩

theorem open_arr {H : Type} {enc : TypeId × Value → H} {P : Program} {w : World} {base : Nat} {sp : Nat → Bool} {held : Bool} {fuel : Nat} {t e : TypeId} {n : Nat} {k : IntKind} {B : Nat} {cs : List Value} {x : DataW H × List MemPlace} (hk : ∀ n, (Lit.int k n).wf = true → 0 ≤ n ∧ n < (B : Int))
    (ht : P.underlying t = some (.array n e)) (he : P.underlying e = some (.int k)) (hce : P.cellsOf e = 1) (hct : P.cellsOf t = n) (h : DataW.trod enc P w base sp held fuel t cs = some x) :
    ∃ zs : List Nat, zs.length = n ∧ (cs = zs.map fun z => Value.int k (z : Nat)) ∧ Digs B zs := by
  obtain ⟨xs, m, _, rfl, hl, hxl, hall⟩ := DataW.trod_array ht h
  have hat : ∀ i, i < n → ∃ z : Nat, cs[i]? = some (.int k (z : Int)) ∧ z < B := fun i hi => by
    have h1 := hall i hi
    rw [List.getElem?_eq_getElem (by omega), hce, Nat.mul_one] at h1
    obtain ⟨z, hc, _, hw⟩ := DataW.trod_int he h1
    have := hk z hw
    refine ⟨z.toNat, ?_, by omega⟩
    have hc' := congrArg (·[0]?) hc
    rw [show ((z.toNat : Nat) : Int) = z by omega]
    simpa [List.getElem?_take, List.getElem?_drop] using hc'
  refine ⟨cs.map fun v => (intOf v).toNat, by rw [List.length_map, hl, hct], ?_, ?_⟩
  · apply List.ext_getElem?
    intro i
    rw [List.map_map, List.getElem?_map]
    by_cases hi : i < n
    · obtain ⟨z, hz, _⟩ := hat i hi
      rw [hz]
      simp [intOf]
    · rw [List.getElem?_eq_none (by omega)]
      rfl
  · intro d hd
    obtain ⟨v, hv, rfl⟩ := List.mem_map.1 hd
    obtain ⟨i, hi, rfl⟩ := List.mem_iff_getElem.1 hv
    obtain ⟨z, hz, hb⟩ := hat i (by omega)
    rw [List.getElem?_eq_getElem hi] at hz
    rw [Option.some.inj hz]
    simpa [intOf] using hb

theorem wf_u32 : ∀ n, (Lit.int .u32 n).wf = true → 0 ≤ n ∧ n < ((4294967296 : Nat) : Int) := fun n h => by
  have := bounds_u32 h
  omega

/-- A table of numbers that the row lists lies in memory, cell for cell. -/
theorem tab_reads {P : Program} {w : World} {name : String} {g : Nat} {t e : TypeId} {n : Nat} {k : IntKind} {zs : List Nat} (hg : P.globalNamed name = some g) (hty : (P.globals[g]?).map (·.type) = some t) (ht : P.underlying t = some (.array n e)) (he : P.underlying e = some (.int k)) (hce : P.cellsOf e = 1) (hct : P.cellsOf t = n)
    (h : Lib.VarReads P w name (Lib.tabData k (zs.map fun z : Nat => (z : Int)))) (i : Nat) (hi : i < zs.length) : w.cell? ⟨g, i, none⟩ = some (.int k (zs.getD i 0 : Nat)) := by
  obtain ⟨g', t', cs, fuel, p, hg', ht', hv, hd⟩ := h
  obtain rfl := Option.some.inj (hg.symm.trans hg')
  obtain rfl := Option.some.inj (hty.symm.trans ht')
  have hc := Lib.cells_of_tab ht he hce hct hd
  rw [World.var?_cell hg hv i, ← Array.getElem?_toList, hc, List.map_map, List.getElem?_map, List.getElem?_eq_getElem hi, List.getD_eq_getElem?_getD, List.getElem?_eq_getElem hi]
  rfl

end Go.Proofs.YthnkganmccgaeaaDoor
