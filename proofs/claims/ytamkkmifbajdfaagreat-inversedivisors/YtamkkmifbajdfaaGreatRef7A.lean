/- The plain side of layer 7 (package sconceref07): Members. -/
import Derived.Test.YtamkkmifbajdfaaGreatRef6o
namespace Go.Proofs.YtamkkmifbajdfaaGreat
open Go.RowKit

set_option maxRecDepth 40000 in
set_option maxHeartbeats 2000000 in
theorem q7Members (ao bo : Option Addr) (L M cap dap K : Nat) (ms rs : List Nat) (lo : Option Addr) (n ncap : Nat) (A : Nat → Option Addr) (N C : Nat → Nat) (xss : Nat → List Nat) (R : Bool) (hR : R = true ↔ okMod ms K rs ∧ ∀ i, i < n → N i = L ∧ val 18446744073709551616 (xss i) < val 18446744073709551616 ms) (w : World)
    (hu : Row .u64 w (.slice ao L cap) ms) (hv : Row .u64 w (.slice bo M dap) rs) (hd : Digs 18446744073709551616 ms) (hL : L ≤ 1000000) (hs : SlotsR w lo n A N C) (hr : ∀ i, i < n → Row .u64 w (.slice (A i) (N i) (C i)) (xss i)) (hdx : ∀ i, i < n → Digs 18446744073709551616 (xss i)) (hn : n ≤ 1000) :
    Calls Tryz.prog 13 #[.agg #[.slice ao L cap, .int .u64 (K : Nat), .slice bo M dap], .slice lo n ncap] w fun e w' => e = .returned (.bool R) ∧ Kept Nought w w' := by
  have k0 : Kept Nought w (w.alloc (.cells #[.slice ao L cap, .int .u64 (K : Nat), .slice bo M dap] 34)) := (Kept.refl Nought w).alloc _
  have hx0 : (w.alloc (.cells #[.slice ao L cap, .int .u64 (K : Nat), .slice bo M dap] 34)).heap[w.heap.size]? = some (.cells #[.slice ao L cap, .int .u64 (K : Nat), .slice bo M dap] 34 (0, 0)) := heap_alloc_new _ _
  by_cases hok : okMod ms K rs
  · have hCk := q6Check ao bo L M cap dap K ms rs true ⟨fun _ => hok, fun _ => rfl⟩ _ (hu.grew k0) (hv.grew k0) hd hL
    have hMem : Hid (∀ W i R, Kept Nought w W → i < n → R = decide (N i = L ∧ val 18446744073709551616 (xss i) < val 18446744073709551616 ms) → Calls Tryz.prog 28 #[.agg #[.slice ao L cap, .int .u64 (K : Nat), .slice bo M dap], .slice (A i) (N i) (C i)] W fun e w' => e = .returned (.bool R) ∧ Kept Nought W w') := fun W i R k hi hR => q6Member ao (A i) L (N i) cap (C i) _ _ ms (xss i) R hR W (hu.grew k) ((hr i hi).grew k) hd (hdx i hi) hL
    have HR : Hid (R = true ↔ ∀ i, i < n → N i = L ∧ val 18446744073709551616 (xss i) < val 18446744073709551616 ms) := ⟨fun h => (hR.1 h).2, fun h => hR.2 ⟨hok, h⟩⟩
    have HS := toHid hs
    clear hu hv hd hr hdx hok hs hR
    generalize val 18446744073709551616 ms = V at *
    go_enter Tryz.func13, Tryz.ntmps13
    go_wp2_with fail
    refine hCk.mono ?_
    rintro e w1 ⟨rfl, k1⟩
    have HX1 := toHid ((k1.block _ (lt_of_block hx0) (fun f => f)).trans hx0)
    have HK1 := toHid (k0.trans k1)
    clear hCk k0 k1 hx0
    go_wp2_with fail
    go_loopw [12] (fun ii wr => ∃ (k : Nat), k ≤ n ∧ ii = .int .i64 (k : Int) ∧ Hid (∀ j, j < k → N j = L ∧ val 18446744073709551616 (xss j) < V) ∧ Kept Nought w1 wr) (fun ii _ => n - (intOf ii).toNat)
    case atStart => exact ⟨0, Nat.zero_le _, rfl, fun j hj => by omega, Kept.refl _ _⟩
    case round =>
      obtain ⟨k, hk, rfl, hall, hkp⟩ := hrel
      have hxr := (hkp.block _ (lt_of_block HX1.out) (fun f => f)).trans HX1.out
      obtain ⟨p0, p1, p2⟩ := box3 hxr
      have KW := toHid (HK1.out.trans hkp)
      by_cases hkn : k < n
      · have g1 : (k : Int) < (n : Int) := by omega
        obtain ⟨b, off, rfl, hc⟩ := (HS.out.grew KW.out) k hkn
        by_cases hmb : N k = L ∧ val 18446744073709551616 (xss k) < V
        · have hM := hMem.out wr k true KW.out hkn (decide_eq_true hmb).symm
          have HALL : Hid (∀ j, j < k + 1 → N j = L ∧ val 18446744073709551616 (xss j) < V) := fun j hj => by
            by_cases e : j = k
            · subst e; exact hmb
            · exact hall.out j (by omega)
          clear hMem hmb
          generalize A k = a0 at *
          generalize N k = n0 at *
          generalize C k = c0 at *
          go_wp2_with fail
          refine hM.mono ?_
          rintro e w3 ⟨rfl, k3⟩
          go_wp2_with fail
          go_roundw
          case rel => exact ⟨k + 1, by omega, by go_num, HALL, hkp.trans k3⟩
          case measure => simp [intOf]; omega
        · have hM := hMem.out wr k false KW.out hkn (decide_eq_false hmb).symm
          have HF : Hid (R = false) := by
            unfold Hid
            cases hR : R with
            | false => rfl
            | true => exact absurd (HR.out.1 hR k hkn) hmb
          clear hMem hmb
          generalize A k = a0 at *
          generalize N k = n0 at *
          generalize C k = c0 at *
          go_wp2_with fail
          refine hM.mono ?_
          rintro e w3 ⟨rfl, k3⟩
          go_wp2_with fail
          go_ret
          rw [HF.out]
          exact ⟨rfl, KW.out.trans k3⟩
      · have g1 : ¬ (k : Int) < (n : Int) := by omega
        have e : k = n := by omega
        subst e
        have HF : Hid (R = true) := HR.out.2 hall.out
        clear hMem
        go_wp2_with fail
        go_ret
        rw [HF.out]
        exact ⟨rfl, KW.out⟩
  · have hCk := q6Check ao bo L M cap dap K ms rs false ⟨fun h => absurd h (by decide), fun h => absurd h hok⟩ _ (hu.grew k0) (hv.grew k0) hd hL
    have HF : Hid (R = false) := by
      unfold Hid
      cases hR2 : R with
      | false => rfl
      | true => exact absurd (hR.1 hR2).1 hok
    clear hu hv hd hr hdx hok hs hR
    go_enter Tryz.func13, Tryz.ntmps13
    go_wp2_with fail
    refine hCk.mono ?_
    rintro e w1 ⟨rfl, k1⟩
    go_wp2_with fail
    go_ret
    rw [HF.out]
    exact ⟨rfl, k0.trans k1⟩

end Go.Proofs.YtamkkmifbajdfaaGreat
