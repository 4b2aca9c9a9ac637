/- The plain side of layer 15: Filled. -/
import Derived.Test.YtcjaafmlflonhaaGreatDoorScr1
import Derived.BigRegion
namespace Go.Proofs.YtcjaafmlflonhaaGreatDoor
open Go.RowKit

/-- How many bytes the script at b has left. -/
def scrLen (b : Nat) (w : World) : Nat := match w.cell? ⟨b, 0, none⟩ with
  | some v => sliceLen v
  | none => 0

theorem ScrAt.len {w : World} {b B : Nat} {bs : List Nat} (h : ScrAt w b B bs) : scrLen b w = bs.length := by
  obtain ⟨v, h, _⟩ := h
  unfold scrLen
  rw [h.cell]
  obtain ⟨_, _, e, _⟩ := h.2.1
  rw [e]
  rfl

/-- A byte further: the slice, whether it was the last of its room or not. -/
theorem Scr.next {w : World} {b sb soff L cap x B : Nat} {r : List Nat} (h : Scr w b (.slice (some ⟨sb, soff, none⟩) L cap) (x :: r)) (hB : b < B) (hx : sb < B) :
    (cap = 1 → ScrAt (w.setCell ⟨b, 0, none⟩ (.slice (some ⟨sb, soff, none⟩) 0 0)) b B r) ∧ (cap ≠ 1 → ScrAt (w.setCell ⟨b, 0, none⟩ (.slice (some ⟨sb, soff + 1, none⟩) (L - 1) (cap - 1))) b B r) := by
  obtain ⟨_, _, _, e, hL, hc, _⟩ := h.2.1.open
  cases e
  have hL' : r.length + 1 = L := hL.out
  constructor
  · intro e
    obtain rfl : r = [] := List.length_eq_zero_iff.1 (by omega)
    exact ⟨_, h.put _ [] ⟨_, _, rfl, Nat.zero_le _, by unfold maxLen; omega, (fun _ => rfl), fun i hi => absurd hi (by simp)⟩ (fun e => absurd rfl e), hB, fun e => absurd rfl e⟩
  · intro e
    have hr := row_rest (n := 1) h.2.1 (by omega)
    rw [show ((⟨sb, soff, none⟩ : Addr).add 1) = ⟨sb, soff + 1, none⟩ from rfl] at hr
    exact ⟨_, h.put _ _ hr (fun _ y hy => h.2.2 (by simp) y hy), hB, fun _ y hy => by cases hy; exact hx⟩

end Go.Proofs.YtcjaafmlflonhaaGreatDoor
