/- What a range over a function asks of memory (Seq0), and of traces. -/
import Derived.Test.YtcjaafmlflonhaaGreatDoorTra1
import Derived.Test.YtcjaafmlflonhaaGreatDoorSeq0
namespace Go.Proofs.YtcjaafmlflonhaaGreatDoor
open Go.RowKit Go.Shelf

theorem Turn.u64s {B : Nat} {W W' : World} (t : Turn B W W') {v : Value} (h : U64s W v) : U64s W' v := by
  intro b hb
  obtain ⟨cs, fr, hg⟩ := h b hb
  exact ⟨cs, fr, t.cells hg⟩

theorem Turn.isTr {B : Nat} {W W' : World} (t : Turn B W W') {p : Nat} {g : Option Nat} {l : List Ev} (h : IsTr W p g l) : IsTr W' p g l := by
  obtain ⟨v, s, h1, h2, h3, h4⟩ := h
  exact ⟨v, s, t.cells h1, h2, t.own h3, h4⟩

theorem Turn.trIn {B : Nat} {W W' : World} (t : Turn B W W') {o : Tr} (h : TrIn W o) : TrIn W' o := by
  cases o with
  | none => trivial
  | some x => exact ⟨t.isTr h.1, h.2⟩

theorem Turn.did {B : Nat} {w W W' : World} (t : Turn B W W') {o o' : Tr} {m : List Ev} (d : Did w o m W o') (hB : w.heap.size ≤ B) : Did w o m W' o' := by
  refine ⟨t.kept d.1 hB, ?_⟩
  rcases d.2 with h1 | ⟨p, g, l, g', e1, e2, ht, hg⟩
  · exact .inl h1
  · exact .inr ⟨p, g, l, g', e1, e2, t.isTr ht, hg⟩

end Go.Proofs.YtcjaafmlflonhaaGreatDoor
