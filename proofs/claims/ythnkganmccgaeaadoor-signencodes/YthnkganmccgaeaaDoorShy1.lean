/- The tables of package sha256, as the rows list them; arrays of eight words alike. -/
import Derived.Test.YthnkganmccgaeaaDoorShx9
import Derived.Test.YthnkganmccgaeaaDoorOpenArr
import Derived.ChangeKeysEq
namespace Go.Proofs.YthnkganmccgaeaaDoor
open Go.RowKit

theorem tab11_of {w : World} (h1 : Lib.VarReads Tryd.prog w "sconce/sha256.start" (Lib.tabData .u32 (H256.map fun z : Nat => (z : Int)))) (h2 : Lib.VarReads Tryd.prog w "sconce/sha256.roundWords" (Lib.tabData .u32 (K256.map fun z : Nat => (z : Int)))) : Tab11 w :=
  ⟨tab_reads (g := 0) (t := 45) (by kernel_rfl) (by kernel_rfl) Tryd.underlying45 Tryd.underlying44 (by kernel_rfl) (by kernel_rfl) h1,
   tab_reads (g := 4) (t := 65) (by kernel_rfl) (by kernel_rfl) Tryd.underlying65 Tryd.underlying44 (by kernel_rfl) (by kernel_rfl) h2⟩

theorem Tryd.noGuardA : Tryd.prog.eqGuardType Tryd.prog.depth 45 = false := by kernel_rfl

theorem Tryd.info32s : (Tryd.prog.info? 44).map (fun i => (i.zero, i.size, i.bytes)) = some (some (.int .u32 0), 1, 4) := by kernel_rfl

/-- Two arrays of the same eight words are alike. -/
theorem arr8_alike (w : World) (x0 x1 x2 x3 x4 x5 x6 x7 : Int) : (Op.equalIn 10000 45 (.agg #[.int .u32 x0, .int .u32 x1, .int .u32 x2, .int .u32 x3, .int .u32 x4, .int .u32 x5, .int .u32 x6, .int .u32 x7]) (.agg #[.int .u32 x0, .int .u32 x1, .int .u32 x2, .int .u32 x3, .int .u32 x4, .int .u32 x5, .int .u32 x6, .int .u32 x7])).run Tryd.prog w = .ok true w := by
  obtain ⟨i0, hi0, _⟩ := info_parts Tryd.info32s
  have hc : Tryd.prog.cellsOf 44 = 1 := by kernel_rfl
  have hi : ∀ (d : Nat) (a b : Int) (w : World), (Op.equalIn (d + 1) 44 (.int .u32 a) (.int .u32 b)).run Tryd.prog w = .ok (a == b) w := fun d a b w => run_equalIn_int w d 44 .u32 .u32 a b Tryd.underlying44
  have hq : ∀ (xs : Array Value) (j : Nat) (w : World), j < xs.size → (part 44 xs j).run Tryd.prog w = .ok (xs.getD j undef) w := fun xs j w hj => by
    simp [part, go_sem, hj]
  rw [run_equalIn_array w 9999 _ _ Tryd.underlying45 hi0, hc]
  simp [show List.range 8 = [0, 1, 2, 3, 4, 5, 6, 7] from rfl, Op.eqItems, hq, hi]

end Go.Proofs.YthnkganmccgaeaaDoor
