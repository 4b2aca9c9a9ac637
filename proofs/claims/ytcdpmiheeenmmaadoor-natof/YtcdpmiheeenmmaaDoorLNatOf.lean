/- The law NatOf, walked: whatever the bytes and the length. -/
import Derived.Test.YtcdpmiheeenmmaaDoorNatP
namespace Go.Proofs.YtcdpmiheeenmmaaDoor
open Go.RowKit Go.Shelf

set_option maxRecDepth 20000 in
set_option maxHeartbeats 1000000 in
theorem walkNatOf (v : Value) (bs : List Nat) (n : Int) (w : World) (h : Row .u8 w v bs) (hd : Digs 256 bs) (hT : Tab w) :
    Calls Tryd.prog 3 #[v, .int .i64 n] w fun e w' => e = .returned (.bool true) ∧ Below w.heap.size w w' := by
  have hA := nAwake w hT
  obtain ⟨ao, L, cap, rfl, hL, _, _, _, _⟩ := h.open
  by_cases h4 : 4000 < L
  · have h4' : (L : Int) > 4000 := by omega
    clear h
    go_enter Tryd.func3, Tryd.ntmps3
    go_wp2_with fail
    refine hA.mono ?_
    rintro e w1 ⟨rfl, k1⟩
    go_wp2_with fail
    go_ret
    exact ⟨rfl, below_kept k1 (Nat.le_refl _)⟩
  · have h4' : ¬ (L : Int) > 4000 := by omega
    have hO := fun W (k : Kept Nought w W) => nOf _ bs n W (h.grew k) hd
    have hP := fun W (k : Kept Nought w W) => rOfBytes _ bs n W (h.grew k) hd (by have := hL.out; omega)
    clear h
    generalize resCode (bev bs) n = RC at *
    generalize resList (bev bs) n = RL at *
    go_enter Tryd.func3, Tryd.ntmps3
    go_wp2_with fail
    refine hA.mono ?_
    rintro e w1 ⟨rfl, k1⟩
    go_wp2_with fail
    refine (hO w1 k1).mono ?_
    rintro e w2 ⟨v2, rfl, hr2, k2⟩
    go_wp2_with fail
    refine (hP w2 (k1.trans k2)).mono ?_
    rintro e w3 ⟨v3, rfl, hr3, k3⟩
    have hS := rSame v2 v3 RL RL w3 (hr2.grew k3) hr3
    rw [decide_eq_true rfl] at hS
    clear hO hP hA
    go_wp2_with fail
    refine hS.mono ?_
    rintro e w4 ⟨rfl, m, rfl⟩
    go_wp2_with fail
    go_ret
    exact ⟨rfl, below_kept (((k1.trans k2).trans k3).drewN m) (Nat.le_refl _)⟩

end Go.Proofs.YtcdpmiheeenmmaaDoor
