/- Package ring: Add, Sub. -/
import Derived.Test.YtiljkgoafknefaaGreatRinB
namespace Go.Proofs.YtiljkgoafknefaaGreat
open Go.RowKit

theorem Asked.after {w W : World} {o : Tr} {u : Bool} {P : Prop} {R : List Nat → Nat → Prop} {dE : List Ev} {w' : World} {v' : Value} {c : Nat} (k : Kept Nought w W) (h : Asked W o u P R dE w' v' c) : Asked w o u P R dE w' v' c := by
  obtain ⟨zs, m, o', h1, h2, h3, h4⟩ := h
  exact ⟨zs, m, o', h1, h2.after k.size, Did.after k h3, h4⟩

end Go.Proofs.YtiljkgoafknefaaGreat
