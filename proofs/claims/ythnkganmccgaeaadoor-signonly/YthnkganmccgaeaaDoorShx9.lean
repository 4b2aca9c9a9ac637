/- The laws of layer 11: their first test, bytes alike, the plain hash of whatever bytes. -/
import Derived.Test.YthnkganmccgaeaaDoorShx8
import Derived.Test.YthnkganmccgaeaaDoorSha7
import Derived.Lib.SlBytesConst
namespace Go.Proofs.YthnkganmccgaeaaDoor
open Go.RowKit

theorem sumN_digs (bs : List Nat) : Digs 256 (sumN bs) := by
  intro d hd
  unfold sumN at hd
  obtain ⟨i, hi, he⟩ := List.mem_iff_getElem.1 hd
  have hl := outN_length (blksN (bs ++ padN bs.length) ((bs ++ padN bs.length).length / 64)) 8
  have h := outN_at (blksN (bs ++ padN bs.length) ((bs ++ padN bs.length).length / 64)) 8 i (by omega)
  rw [List.getElem?_eq_getElem hi, he] at h
  rw [Option.some.inj h]
  exact Nat.mod_lt _ (by omega)

/-- The plain hash of whatever bytes. -/
theorem r11SumAny (v : Value) (bs : List Nat) (w : World) (hb : Row .u8 w v bs) (hbd : Digs 256 bs) (hl : bs.length ≤ 1000000) :
    Calls Tryd.prog 24 #[v] w fun e w' => ∃ v', e = .returned v' ∧ Row .u8 w' v' (sumN bs) ∧ Kept Nought w w' := by
  obtain ⟨ao, n, cap, rfl, hLb, hc, _, hnone, hnum⟩ := hb.open
  have hlb := hLb.out
  cases ao with
  | none =>
    obtain rfl := hnone rfl
    obtain rfl : n = 0 := by omega
    obtain rfl : bs = [] := List.length_eq_zero_iff.1 hlb
    refine (r11Sum0 w).mono ?_
    rintro e w' ⟨v', rfl, h1, h2⟩
    exact ⟨v', rfl, h1.row, h2⟩
  | some ad =>
    refine (r11Sum ad n cap bs w hb hbd (by omega)).mono ?_
    rintro e w' ⟨v', rfl, h1, h2⟩
    exact ⟨v', rfl, h1.row, h2⟩

end Go.Proofs.YthnkganmccgaeaaDoor
