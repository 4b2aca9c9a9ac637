/- The walk of the statement that a word that is put is got again: it returns true for any word. -/
import Derived.Test.YtaddnmnnpnkahabAwake
import Derived.Test.YtaddnmnnpnkahabPutGet
import Derived.RowKit3
import Derived.OpenShut
namespace Go.Proofs.Ytaddnmnnpnkahab
open Go.RowKit

set_option maxHeartbeats 400000 in
theorem walkWordBack (a0 : Int) (w0 : (Lit.int .u64 a0).wf = true) (w : World) :
    Calls Try.prog 3 #[.int .u64 a0] w fun e w' => e = .returned (.bool true) ∧ Grown w w' := by
  obtain ⟨x0, y0⟩ := bounds_u64 w0
  have z0 : a0 < 18446744073709551616 := by omega
  clear w0 y0
  have HG : Hid (getN (putBytes a0) 8 = a0) := getN_put a0 x0 z0
  go_enter Try.func3, Try.ntmps3
  go_wp2_with fail
  refine (awake _).mono ?_
  rintro e w' ⟨rfl, rfl⟩
  go_wp2_with fail
  refine (wPut a0 x0 z0 _).mono ?_
  rintro e w1 ⟨rfl, rfl⟩
  go_wp2_with fail
  refine (wGet _ 8 8 (putBytes a0) (by omega) (putBytes_are a0) _ (put_reads a0 _ _)).mono ?_
  rintro e w1 ⟨rfl, rfl⟩
  rw [show min 8 8 = 8 from rfl, HG.out]
  go_wp2
  go_ret
  exact ⟨rfl, (Grown.refl _).alloc _ _⟩
end Go.Proofs.Ytaddnmnnpnkahab
