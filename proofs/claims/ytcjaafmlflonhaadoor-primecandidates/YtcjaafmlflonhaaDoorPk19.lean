/- Put together of: LPriCandidates. -/
import Derived.Test.YtcjaafmlflonhaaDoorPk18

/- The walk of the statement on candidates: it returns true for any bytes and any number of bits. -/
namespace Go.Proofs.YtcjaafmlflonhaaDoor
open Go.RowKit

set_option maxRecDepth 20000 in
set_option maxHeartbeats 1000000 in
theorem walkPrimeCandidates (u : Value) (bs : List Nat) (k : Int) (w : World) (hu : Row .u8 w u bs) (hd : Digs 256 bs) (hk : (Lit.int .i64 k).wf = true) (_ : NoTab w) :
    Calls Tryd.prog 3 #[u, .int .i64 k] w fun e w' => e = .returned (.bool true) ∧ Below w.heap.size w w' := by
  obtain ⟨hk0, hk1⟩ := bounds_i64 hk
  obtain ⟨uo, un, uc, rfl, hul, _⟩ := hu.open
  have HU := toHid hu
  have HD := toHid hd
  have HUL := toHid hul.out
  obtain ⟨E, hE⟩ : ∃ E, E = candE bs k := ⟨_, rfl⟩
  obtain ⟨RL, hRL⟩ : ∃ RL, RL = if E = 0 then digs 18446744073709551616 (candN bs k.toNat) ((k.toNat + 63) / 64) else [] := ⟨_, rfl⟩
  have hA := f18Awake w
  have JF := toHid fun W (kk : Kept Nought w W) => pCand (.slice uo un uc) bs k hk0 hk1 E RL hE hRL W (HU.out.grew kk) HD.out
  have JR := toHid fun W (kk : Kept Nought w W) (hl : un ≤ 600) => r18Cand (.slice uo un uc) bs k hk0 hk1 E RL hE hRL W (HU.out.grew kk) HD.out (by rw [HUL.out]; omega)
  clear hu hd hul hE hRL hk
  by_cases hl : un ≤ 600
  · have g1 : ¬ (un : Int) > 600 := by omega
    have g1' : ¬ (600 : Int) < (un : Int) := by omega
    go_enter Tryd.func3, Tryd.ntmps3
    go_wp2_with fail
    refine hA.mono ?_
    rintro r w1 ⟨rfl, k1⟩
    have HK1 := toHid k1
    have hF := JF.out w1 HK1.out
    clear hA k1
    go_wp2_with fail
    refine hF.mono ?_
    rintro r w3 ⟨x3, rfl, r3, _, k3⟩
    have HK3 := toHid (HK1.out.trans k3)
    have hG := JR.out w3 HK3.out hl
    have R3 := toHid r3
    obtain ⟨xo, xn, xc, rfl, _⟩ := r3.open
    clear hF k3 r3
    go_wp2_with fail
    refine hG.mono ?_
    rintro r w4 ⟨y4, rfl, r4, _, k4⟩
    have HK4 := toHid (HK3.out.trans k4)
    have hS := rSame _ _ _ _ w4 (R3.out.grew k4) r4
    rw [decide_eq_true rfl] at hS
    obtain ⟨yo, yn, yc, rfl, _⟩ := r4.open
    clear hG k4 r4
    go_wp2_with fail
    refine hS.mono ?_
    rintro r w5 ⟨rfl, nq, rfl⟩
    clear hS
    go_wp2_with fail
    go_ret
    exact ⟨rfl, below_kept (HK4.out.drewN nq) (Nat.le_refl _)⟩
  · have g1 : (un : Int) > 600 := by omega
    have g1' : (600 : Int) < (un : Int) := by omega
    go_enter Tryd.func3, Tryd.ntmps3
    go_wp2_with fail
    refine hA.mono ?_
    rintro r w1 ⟨rfl, k1⟩
    have HK1 := toHid k1
    clear hA k1 JF JR
    go_wp2_with fail
    go_ret
    exact ⟨rfl, below_kept HK1.out (Nat.le_refl _)⟩

end Go.Proofs.YtcjaafmlflonhaaDoor

