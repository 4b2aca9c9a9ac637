/- The walk of the statement on inverses: it returns true for any word. -/
import Derived.Test.YtaddnmnnpnkahaaAwake
import Derived.RowKit3
import Derived.OpenShut
namespace Go.Proofs.Ytaddnmnnpnkahaa
open Go.RowKit

set_option maxHeartbeats 400000 in
theorem walkWordInverts (a0 : Int) (w0 : (Lit.int .u64 a0).wf = true) (w : World) :
    Calls Try.prog 7 #[.int .u64 a0] w fun e w' => e = .returned (.bool true) ∧ Grown w w' := by
  obtain ⟨x0, y0⟩ := bounds_u64 w0
  have z0 : a0 < 18446744073709551616 := by omega
  clear w0 y0
  have : a0 % 2 = 0 ∨ a0 % 2 = 1 := by omega
  rcases this with h | h
  · have ht : (a0 % 2 == 0) = true := by rw [h]; rfl
    clear h
    go_enter Try.func7, Try.ntmps7
    go_wp2_with fail
    refine (awake _).mono ?_
    rintro e w' ⟨rfl, rfl⟩
    go_wp2_with fail
    refine (wInverse a0 x0 z0 _).mono ?_
    rintro e w' ⟨⟨x, rfl, hx⟩, rfl⟩
    have HX : Hid (isInv a0 x) := hx
    clear hx
    go_wp2_with fail
    refine (rInverse a0 x0 z0 _).mono ?_
    rintro e w' ⟨⟨y, rfl, hy⟩, rfl⟩
    obtain rfl := isInv_uniq HX.out hy
    clear hy
    go_wp2
    go_ret
    exact ⟨rfl, Grown.refl _⟩
  · have ht : (a0 % 2 == 0) = false := by rw [h]; rfl
    have HO : Hid (a0 % 2 = 1) := h
    clear h
    go_enter Try.func7, Try.ntmps7
    go_wp2_with fail
    refine (awake _).mono ?_
    rintro e w' ⟨rfl, rfl⟩
    go_wp2_with fail
    refine (wInverse a0 x0 z0 _).mono ?_
    rintro e w' ⟨⟨x, rfl, hx⟩, rfl⟩
    have HX : Hid (isInv a0 x) := hx
    have hw : IntKind.u64.wrap (a0 * x) = 1 := by rw [IntKind.wrap_u64]; exact (dvd_one_sub a0 x).1 (hx.2.2.1 HO.out)
    clear hx
    go_wp2_with fail
    refine (rInverse a0 x0 z0 _).mono ?_
    rintro e w' ⟨⟨y, rfl, hy⟩, rfl⟩
    obtain rfl := isInv_uniq HX.out hy
    clear hy
    go_wp2
    go_ret
    exact ⟨rfl, Grown.refl _⟩
end Go.Proofs.Ytaddnmnnpnkahaa
