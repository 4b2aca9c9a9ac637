/- Package script: Filled. -/
import Derived.Test.YtcjaafmlflonhaaGreatDoorLsc2
namespace Go.Proofs.YtcjaafmlflonhaaGreatDoor
open Go.RowKit

/-- How many bytes the script at p has left. -/
def lscLen (p : Option Addr) (w : World) : Nat := match p with
  | none => 0
  | some a => match w.cell? ⟨a.block, 0, none⟩, w.cell? ⟨a.block, 1, none⟩ with
    | some v, some (.int _ k) => sliceLen v - k.toNat
    | _, _ => 0

theorem Lsc.left {w : World} {p : Option Addr} {B : Nat} {bs : List Nat} (h : Lsc w p B bs) : lscLen p w = bs.length := by
  rcases h with ⟨rfl, rfl⟩ | ⟨b, v, ps, k, rfl, rfl, h⟩
  · rfl
  · obtain ⟨c0, c1⟩ := h.cells
    obtain ⟨_, _, e, _⟩ := h.2.1
    unfold lscLen
    simp only [c0, c1]
    rw [e, List.length_drop]
    rfl

end Go.Proofs.YtcjaafmlflonhaaGreatDoor
