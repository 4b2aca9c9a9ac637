/- The laws of layer 12: their first test, bytes alike, the plain hash of whatever bytes; the tables; arrays of eight words alike. -/
import Derived.Test.YthnkganmccgaeaaDoorShc8
import Derived.Test.YthnkganmccgaeaaDoorShb7
import Derived.Test.YthnkganmccgaeaaDoorOpenArr
import Derived.Lib.SlBytesConst
import Derived.ChangeKeysEq
namespace Go.Proofs.YthnkganmccgaeaaDoor
open Go.RowKit

theorem sumM_digs (short : Bool) (bs : List Nat) : Digs 256 (sumM short bs) := by
  have h64 : Digs 256 (sum64M short bs) := by
    intro d hd
    unfold sum64M at hd
    obtain ⟨i, hi, he⟩ := List.mem_iff_getElem.1 hd
    have hl := outM_length (blksM (H5 short) (bs ++ padM bs.length) ((bs ++ padM bs.length).length / 128)) 8
    have h := outM_at (blksM (H5 short) (bs ++ padM bs.length) ((bs ++ padM bs.length).length / 128)) 8 i (by omega)
    rw [List.getElem?_eq_getElem hi, he] at h
    rw [Option.some.inj h]
    exact Nat.mod_lt _ (by omega)
  unfold sumM
  split
  · exact h64.take 48
  · exact h64

/-- The plain hash of whatever bytes. -/
theorem r12SumAny (short : Bool) (v : Value) (bs : List Nat) (w : World) (hb : Row .u8 w v bs) (hbd : Digs 256 bs) (hl : bs.length ≤ 1000000) :
    Calls Tryd.prog 25 #[v, .bool short] w fun e w' => ∃ v', e = .returned v' ∧ Row .u8 w' v' (sumM short bs) ∧ Kept Nought w w' := by
  obtain ⟨ao, n, cap, rfl, hLb, hc, _, hnone, hnum⟩ := hb.open
  have hlb := hLb.out
  cases ao with
  | none =>
    obtain rfl := hnone rfl
    obtain rfl : n = 0 := by omega
    obtain rfl : bs = [] := List.length_eq_zero_iff.1 hlb
    refine (r12Sum0 short w).mono ?_
    rintro e w' ⟨v', rfl, h1, h2⟩
    exact ⟨v', rfl, h1.row, h2⟩
  | some ad =>
    refine (r12Sum short ad n cap bs w hb hbd (by omega)).mono ?_
    rintro e w' ⟨v', rfl, h1, h2⟩
    exact ⟨v', rfl, h1.row, h2⟩

theorem sum_headM : (sumM false [97, 98, 99]).length = 64 ∧ (sumM false [97, 98, 99]).getD 0 0 = 221 ∧ (sumM false [97, 98, 99]).getD 1 0 = 175 := by
  decide +kernel

theorem sum_headM3 : (sumM true [97, 98, 99]).length = 48 ∧ (sumM true [97, 98, 99]).getD 0 0 = 203 ∧ (sumM true [97, 98, 99]).getD 1 0 = 0 := by
  decide +kernel

theorem tab12_of {w : World} (h1 : Lib.VarReads Tryd.prog w "sconce/sha512.start" (Lib.tabData .u64 (H512.map fun z : Nat => (z : Int)))) (h2 : Lib.VarReads Tryd.prog w "sconce/sha512.shortStart" (Lib.tabData .u64 (H384.map fun z : Nat => (z : Int)))) (h3 : Lib.VarReads Tryd.prog w "sconce/sha512.roundWords" (Lib.tabData .u64 (K512.map fun z : Nat => (z : Int)))) : Tab12 w :=
  ⟨tab_reads (g := 2) (t := 50) (by kernel_rfl) (by kernel_rfl) Tryd.underlying50 Tryd.underlying49 (by kernel_rfl) (by kernel_rfl) h1,
   tab_reads (g := 1) (t := 50) (by kernel_rfl) (by kernel_rfl) Tryd.underlying50 Tryd.underlying49 (by kernel_rfl) (by kernel_rfl) h2,
   tab_reads (g := 5) (t := 68) (by kernel_rfl) (by kernel_rfl) Tryd.underlying68 Tryd.underlying49 (by kernel_rfl) (by kernel_rfl) h3⟩

theorem Tryd.noGuardB : Tryd.prog.eqGuardType Tryd.prog.depth 50 = false := by kernel_rfl

theorem Tryd.info64s : (Tryd.prog.info? 49).map (fun i => (i.zero, i.size, i.bytes)) = some (some (.int .u64 0), 1, 8) := by kernel_rfl

/-- Two arrays of the same eight words are alike. -/
theorem arr8_alikeM (w : World) (x0 x1 x2 x3 x4 x5 x6 x7 : Int) : (Op.equalIn 10000 50 (.agg #[.int .u64 x0, .int .u64 x1, .int .u64 x2, .int .u64 x3, .int .u64 x4, .int .u64 x5, .int .u64 x6, .int .u64 x7]) (.agg #[.int .u64 x0, .int .u64 x1, .int .u64 x2, .int .u64 x3, .int .u64 x4, .int .u64 x5, .int .u64 x6, .int .u64 x7])).run Tryd.prog w = .ok true w := by
  obtain ⟨i0, hi0, _⟩ := info_parts Tryd.info64s
  have hc : Tryd.prog.cellsOf 49 = 1 := by kernel_rfl
  have hi : ∀ (d : Nat) (a b : Int) (w : World), (Op.equalIn (d + 1) 49 (.int .u64 a) (.int .u64 b)).run Tryd.prog w = .ok (a == b) w := fun d a b w => run_equalIn_int w d 49 .u64 .u64 a b Tryd.underlying49
  have hq : ∀ (xs : Array Value) (j : Nat) (w : World), j < xs.size → (part 49 xs j).run Tryd.prog w = .ok (xs.getD j undef) w := fun xs j w hj => by
    simp [part, go_sem, hj]
  rw [run_equalIn_array w 9999 _ _ Tryd.underlying50 hi0, hc]
  simp [show List.range 8 = [0, 1, 2, 3, 4, 5, 6, 7] from rfl, Op.eqItems, hq, hi]

end Go.Proofs.YthnkganmccgaeaaDoor
