/- The walk of the statement on what is padded and taken apart again, of the landed contracts. -/
import Derived.Test.YtegjdjfnpphipaaLaw23
import Derived.Test.YtegjdjfnpphipaaOpenRow
namespace Go.Proofs.Ytegjdjfnpphipaa
open Go.RowKit

set_option maxRecDepth 100000 in
set_option maxHeartbeats 4000000 in
theorem wPadBack (hE : DEnc) (hD : DDec) (x : Value) (ms : List Nat) (k : Int) (u : Value) (bs : List Nat) (w : World) (hx : Row .u8 w x ms) (hu : Row .u8 w u bs) (dm : Digs 256 ms) (db : Digs 256 bs) (hk : (Lit.int .i64 k).wf = true) :
    Calls Try.prog 6 #[x, .int .i64 k, u] w fun e w' => e = .returned (.bool true) ∧ Below w.heap.size w w' := by
  obtain ⟨hk0, hk1⟩ := bounds_i64 hk
  obtain ⟨mo, M, mc, rfl, hM, _⟩ := hx.open
  obtain ⟨uo, un, uc, rfl, hul, _⟩ := hu.open
  have J0 := f23Awake hD w
  have HX := toHid hx
  have HU := toHid hu
  have HUL := toHid hul.out
  have HML := toHid hM.out
  have HDM := toHid dm
  have HDB := toHid db
  have HLAND := toHid hE
  have HDEC := toHid hD
  clear hx hu dm db hk hE hD hM hul
  by_cases hf : M ≤ 1200 ∧ un ≤ 1200
  · have HFEW := toHid fun W => few23b mo uo M un mc uc W true (iff_of_true rfl hf)
    have HMN : Hid (M ≤ 1200 ∧ un ≤ 1200) := hf
    clear hf
    go_enter Try.func6, Try.ntmps6
    go_wp2_with fail
    refine J0.mono ?_
    rintro e w1 ⟨rfl, k1⟩
    have HK2 := toHid (k1.alloc (.cells #[.slice mo M mc, .slice uo un uc] 22))
    have J1 := HFEW.out w1
    clear J0 k1
    go_wp2_with fail
    refine J1.mono ?_
    rintro e w2 ⟨rfl, rfl⟩
    generalize w1.alloc (.cells #[.slice mo M mc, .slice uo un uc] 22) = w2 at *
    have J2 := xNew _ _ w2 (HU.out.grew HK2.out) (by have := HUL.out; have := HMN.out; omega)
    clear J1
    go_wp2_with fail
    refine J2.mono ?_
    rintro e w3 ⟨g, rfl, hg, hs3, k3⟩
    have HK3 := toHid (HK2.out.trans k3)
    have HG : Hid (w.heap.size ≤ g ∧ w.heap.size ≤ w3.heap.size) := ⟨Nat.le_trans HK2.out.size hg, HK3.out.size⟩
    have J3 := HLAND.out mo M mc ms k (some ⟨g, 0, none⟩) w3.heap.size bs w3 hk0 hk1 (HX.out.grew HK3.out) HDM.out (by have := HMN.out; omega) hs3 (Nat.le_refl _) HDB.out (by have := HUL.out; have := HMN.out; omega)
    clear J2 k3 hs3
    go_wp2_with fail
    refine J3.mono ?_
    rintro e w5 ⟨v5, rfl, ⟨r5, _⟩, _, k5⟩
    have K5 : Hid (Kept Nought w w5) := HK3.out.next k5 (fun y hy f => by have h1 := ofP_some f; have h2 := HG.out; omega)
    obtain ⟨xo, xn, xc, rfl, hxn, _⟩ := r5.open
    have HXN := toHid hxn.out
    have HR5 := toHid r5
    clear J3 k5 r5 hxn
    by_cases hz : pdE ms bs k = 0
    · obtain ⟨p1, p2, p3, p4⟩ := pad_back hz
      have hxk : (xn : Int) = k := by rw [← p1, HXN.out]
      have HXK : Hid (k ≤ 1024) := p2
      have J4 := HDEC.out xo xn xc _ w5 HR5.out (pdL_digs HDM.out HDB.out) (by omega)
      rw [p3, p4] at J4
      rw [hz]
      subst hxk
      clear p1 p2 p3 p4 hz HR5 HXN hk0 hk1
      go_wp2_with fail
      refine J4.mono ?_
      rintro e w6 ⟨v6, rfl, ⟨r6, _⟩, k6⟩
      obtain ⟨zo, zn, zc, rfl, _⟩ := r6.open
      have K6 := toHid (K5.out.trans k6)
      have JM := r13Same _ _ _ _ w6 r6 (HX.out.grew K6.out) HDM.out HDM.out
      rw [decide_eq_true rfl] at JM
      clear J4 r6 k6
      go_wp2_with fail
      refine JM.mono ?_
      rintro e w7 ⟨rfl, rfl⟩
      clear JM
      go_wp2_with fail
      go_ret
      exact ⟨by first | rfl | simp, below_kept K6.out (Nat.le_refl _)⟩
    · have hz1 : ¬ (pdE ms bs k : Int) = 0 := by omega
      have hz2 : ((pdE ms bs k : Int) != 0) = true := by simp; omega
      have hx0 : xn = 0 := by
        rw [← HXN.out]
        unfold pdL
        rw [if_neg hz]
        rfl
      subst hx0
      generalize pdE ms bs k = E at *
      clear hz HR5 HXN
      go_wp2_with fail
      go_ret
      exact ⟨by first | rfl | simp, below_kept K5.out (Nat.le_refl _)⟩
  · have HFEW := toHid fun W => few23b mo uo M un mc uc W false (iff_of_false (by decide) hf)
    go_enter Try.func6, Try.ntmps6
    go_wp2_with fail
    refine J0.mono ?_
    rintro e w1 ⟨rfl, k1⟩
    have HK2 := toHid (k1.alloc (.cells #[.slice mo M mc, .slice uo un uc] 22))
    have J1 := HFEW.out w1
    clear J0 k1 hf
    go_wp2_with fail
    refine J1.mono ?_
    rintro e w2 ⟨rfl, rfl⟩
    clear J1
    go_wp2_with fail
    go_ret
    exact ⟨rfl, below_kept HK2.out (Nat.le_refl _)⟩

end Go.Proofs.Ytegjdjfnpphipaa
