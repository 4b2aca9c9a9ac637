/- The law PadFinds, walked. -/
import Derived.Test.YtegjdjfnpphipaaPad5
import Derived.Test.YtegjdjfnpphipaaWPadFinds
import Derived.Test.YtegjdjfnpphipaaOpenRow
namespace Go.Proofs.Ytegjdjfnpphipaa
open Go.RowKit

theorem kFindD : DFind := by
  intro bo M dap bs c fr w hr hd hc hM h0 h1
  refine (kFind none bo M dap bs c fr w trivial (RowB.none hr) hd hc hM h0 h1).mono ?_
  rintro e w' ⟨a, s, rfl, hf, o', d⟩
  exact ⟨a, s, rfl, hf, d.none.2⟩

theorem kEquD : DEqu := by
  intro ao bo L cap M dap xs bs R w hR hx hb dx db hL hM
  refine (kEqual none ao bo L cap M dap xs bs R w hR trivial (RowB.none hx) (RowB.none hb) dx db hL hM).mono ?_
  rintro e w' ⟨rfl, o', d⟩
  exact ⟨rfl, d.none.2⟩

theorem walkPadFinds (x : Value) (xs : List Nat) (u : Value) (bs : List Nat) (c fr : Int) (w : World) (hx : Row .u8 w x xs) (hu : Row .u8 w u bs) (dx : Digs 256 xs) (db : Digs 256 bs) (hc : (Lit.int .u8 c).wf = true) (hfr : (Lit.int .i64 fr).wf = true) :
    Calls Try.prog 5 #[x, u, .int .u8 c, .int .i64 fr] w fun e w' => e = .returned (.bool true) ∧ Below w.heap.size w w' :=
  wPadFinds kDecD kFindD kEquD x xs u bs c fr w hx hu dx db (wf_u8 c hc) hfr

end Go.Proofs.Ytegjdjfnpphipaa
