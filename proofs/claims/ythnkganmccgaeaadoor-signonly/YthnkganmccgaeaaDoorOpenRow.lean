/- A slice of numbers that came in: from its reading to its cells. -/
import Derived.Test.YthnkganmccgaeaaDoorBase1
import Derived.OpenShut
namespace Go.Proofs.YthnkganmccgaeaaDoor
open Go.RowKit

theorem row_of_ints {k : IntKind} {B : Nat} {w : World} {a : Option Addr} {len cap : Nat} {zs : List Int} (hk : ∀ n, (Lit.int k n).wf = true → 0 ≤ n ∧ n < (B : Int))
    (h : (a = none ∧ len = 0 ∧ cap = 0 ∧ zs = []) ∨ ∃ x, a = some x ∧ len ≤ cap ∧ cap ≤ maxLen ∧ zs.length = cap ∧ (∀ i, i < zs.length → w.cell? (x.add i) = some (.int k (zs.getD i 0))) ∧ ∀ n ∈ zs, (Lit.int k n).wf = true) :
    ∃ ns : List Nat, Row k w (.slice a len cap) ns ∧ Digs B ns := by
  rcases h with ⟨rfl, rfl, rfl, rfl⟩ | ⟨x, rfl, hl, hm, hz, hcell, hwf⟩
  · exact ⟨[], Row.nil _ _, Digs.nil _⟩
  · have hlen : ((zs.take len).map Int.toNat).length = len := by rw [List.length_map, List.length_take]; omega
    refine ⟨(zs.take len).map Int.toNat, ⟨some x, cap, by rw [hlen], by omega, hm, (fun e => by cases e), fun i hi => ?_⟩, fun d hd => ?_⟩
    · rw [hlen] at hi
      obtain ⟨b, off, rfl, hc⟩ := ints_at hcell (by omega)
      refine ⟨b, off, rfl, ?_⟩
      rw [hc i (by omega)]
      have hi' : i < zs.length := by omega
      have h0 := (hk _ (hwf _ (List.getElem_mem hi'))).1
      have e1 : zs.getD i 0 = zs[i] := by rw [List.getD_eq_getElem?_getD, List.getElem?_eq_getElem hi']; rfl
      have e2 : ((zs.take len).map Int.toNat).getD i 0 = (zs[i]).toNat := by
        rw [List.getD_eq_getElem?_getD, List.getElem?_map, List.getElem?_take, if_pos hi, List.getElem?_eq_getElem hi']
        rfl
      rw [e1, e2, Int.toNat_of_nonneg h0]
    · obtain ⟨n, hn, rfl⟩ := List.mem_map.1 hd
      have := hk n (hwf n (List.mem_of_mem_take hn))
      omega

theorem wf_u64 : ∀ n, (Lit.int .u64 n).wf = true → 0 ≤ n ∧ n < ((18446744073709551616 : Nat) : Int) := fun n h => by
  have := bounds_u64 h
  omega

theorem wf_u8 : ∀ n, (Lit.int .u8 n).wf = true → 0 ≤ n ∧ n < ((256 : Nat) : Int) := fun n h => by
  have := bounds_u8 h
  omega

end Go.Proofs.YthnkganmccgaeaaDoor
