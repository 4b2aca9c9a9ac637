/- The laws' small functions of layer 4: few, both. -/
import Derived.Test.YtiljkgoafknefaaGreatLim1
import Derived.Test.YtiljkgoafknefaaGreatBase3
namespace Go.Proofs.YtiljkgoafknefaaGreat
open Go.RowKit

theorem own_row {w : World} {base n : Nat} {v : Value} {zs : List Nat} (h : OwnN .u64 24 w base v n zs) (hl : zs.length = n) : Row .u64 w v zs :=
  Row.of_own (base := base) (e := 24) (by rw [hl]; exact h)

theorem row_new1 (k : IntKind) (w : World) (x : Nat) (e : TypeId) : Row k (w.alloc (.cells #[.int k (x : Nat)] e)) (.slice (some ⟨w.heap.size, 0, none⟩) 1 1) [x] := Row.of_block (t := e) (heap_alloc_new w _) rfl (by unfold maxLen; omega)

end Go.Proofs.YtiljkgoafknefaaGreat
