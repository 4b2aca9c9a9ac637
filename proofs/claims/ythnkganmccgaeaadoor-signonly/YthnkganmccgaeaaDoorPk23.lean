/- Put together of: WSgnVerifies LSignVerifies WSgnOnly LSignOnly. -/
import Derived.Test.YthnkganmccgaeaaDoorPk1
import Derived.Test.YthnkganmccgaeaaDoorPk20
import Derived.Test.YthnkganmccgaeaaDoorPk22

/- The walk of the statement on signatures that verify, of the landed contracts. -/
namespace Go.Proofs.YthnkganmccgaeaaDoor
open Go.RowKit

set_option maxRecDepth 20000 in
set_option maxHeartbeats 1000000 in
theorem wSignVerifies {T : World → Prop} (hT : Stands T) (hE : SEnc T) (hV : SVer T) (h : Int) (u : Value) (ms : List Nat) (x : Value) (em : List Nat) (w : World) (hu : Row .u8 w u ms) (hx : Row .u8 w x em) (dm : Digs 256 ms) (de : Digs 256 em) (hh : (Lit.int .i64 h).wf = true) (ht : T w) :
    Calls Tryd.prog 4 #[.int .i64 h, u, x] w fun e w' => e = .returned (.bool true) ∧ Below w.heap.size w w' := by
  obtain ⟨hh0, hh1⟩ := bounds_i64 hh
  obtain ⟨mo, M, mc, rfl, hM, _⟩ := hu.open
  obtain ⟨eo, L, ec, rfl, hL, _⟩ := hx.open
  have J0 := f25Awake hT hE w ht
  obtain ⟨R, hR⟩ : ∃ R : Bool, R = decide (siE h ms (L : Int) = 0 ∧ siL h ms (L : Int) = em) := ⟨_, rfl⟩
  have JF := toHid fun W (kk : Kept Nought w W) (hm : M ≤ 10000) (hl : L ≤ 10000) => hV h mo M mc ms eo L ec em R W hR (hT _ _ ht kk) hh0 hh1 (hu.grew kk) dm hm (hx.grew kk) de hl
  have JR := toHid fun W (kk : Kept Nought w W) (hm : M ≤ 10000) => r23Signed h (.slice mo M mc) ms eo L ec em R hR W (hu.grew kk) dm (by rw [hM.out]; omega) (hx.grew kk) de
  clear hu hx dm de hM hL hE hV hT hh hR
  by_cases hf : M ≤ 1000 ∧ L ≤ 1100
  · obtain ⟨hm, hl⟩ := hf
    have g1 : ¬ (M : Int) > 1000 := by omega
    have g1' : ¬ (1000 : Int) < (M : Int) := by omega
    have g2 : ¬ (L : Int) > 1100 := by omega
    have g2' : ¬ (1100 : Int) < (L : Int) := by omega
    go_enter Tryd.func4, Tryd.ntmps4
    go_wp2_with fail
    refine J0.mono ?_
    rintro e w1 ⟨rfl, k1⟩
    have HK1 := toHid k1
    have J2 := JF.out w1 HK1.out (by omega) (by omega)
    clear J0 k1
    go_wp2_with fail
    refine J2.mono ?_
    rintro e w4 ⟨rfl, k4⟩
    have HK4 := toHid (HK1.out.trans k4)
    have J3 := JR.out w4 HK4.out (by omega)
    clear J2 k4
    go_wp2_with fail
    refine J3.mono ?_
    rintro e w5 ⟨rfl, k5⟩
    have HK5 := toHid (HK4.out.trans k5)
    clear J3 k5
    go_wp2_with fail
    go_ret
    exact ⟨by first | rfl | simp | (cases R <;> rfl), below_kept HK5.out (Nat.le_refl _)⟩
  · by_cases h1 : M ≤ 1000
    · have g1 : ¬ (M : Int) > 1000 := by omega
      have g1' : ¬ (1000 : Int) < (M : Int) := by omega
      have g2 : (L : Int) > 1100 := by omega
      have g2' : (1100 : Int) < (L : Int) := by omega
      go_enter Tryd.func4, Tryd.ntmps4
      go_wp2_with fail
      refine J0.mono ?_
      rintro e w1 ⟨rfl, k1⟩
      have HK1 := toHid k1
      clear J0 k1 hf
      go_wp2_with fail
      go_ret
      exact ⟨rfl, below_kept HK1.out (Nat.le_refl _)⟩
    · have g1 : (M : Int) > 1000 := by omega
      have g1' : (1000 : Int) < (M : Int) := by omega
      go_enter Tryd.func4, Tryd.ntmps4
      go_wp2_with fail
      refine J0.mono ?_
      rintro e w1 ⟨rfl, k1⟩
      have HK1 := toHid k1
      clear J0 k1 hf
      go_wp2_with fail
      go_ret
      exact ⟨rfl, below_kept HK1.out (Nat.le_refl _)⟩

end Go.Proofs.YthnkganmccgaeaaDoor


/- The law SignVerifies, walked. -/
namespace Go.Proofs.YthnkganmccgaeaaDoor
open Go.RowKit

theorem walkSignVerifies (h : Int) (u : Value) (ms : List Nat) (x : Value) (em : List Nat) (w : World) (hu : Row .u8 w u ms) (hx : Row .u8 w x em) (dm : Digs 256 ms) (de : Digs 256 em) (hh : (Lit.int .i64 h).wf = true) (ht : TabH w) :
    Calls Tryd.prog 4 #[.int .i64 h, u, x] w fun e w' => e = .returned (.bool true) ∧ Below w.heap.size w w' :=
  wSignVerifies sgStands sgEnc sgVer h u ms x em w hu hx dm de hh ht

end Go.Proofs.YthnkganmccgaeaaDoor


/- The walk of the statement that what is made verifies, and with one bit changed doesn't, of the landed contracts. -/
namespace Go.Proofs.YthnkganmccgaeaaDoor
open Go.RowKit

theorem siL_len {h : Int} {ms : List Nat} {k : Int} (e : siE h ms k = 0) : ((siL h ms k).length : Int) = k ∧ k ≤ 1024 := by
  have e0 := e
  unfold siE at e0
  split at e0
  · omega
  split at e0
  · omega
  split at e0
  · omega
  unfold siL
  rw [if_pos e]
  simp only [List.length_append, List.length_replicate, List.length_cons, List.length_nil]
  omega

theorem bit_ne {X c : Nat} (hc : c ≠ 0) : X ^^^ c ≠ X := fun e => by
  have h2 : X ^^^ (X ^^^ c) = c := by rw [← Nat.xor_assoc, Nat.xor_self, Nat.zero_xor]
  rw [e, Nat.xor_self] at h2
  exact hc h2.symm

theorem set_ne {xs : List Nat} {i v : Nat} (hi : i < xs.length) (hv : v ≠ xs.getD i 0) : xs ≠ xs.set i v := fun e => by
  have h : xs.getD i 0 = (xs.set i v).getD i 0 := by rw [← e]
  rw [List.getD_eq_getElem?_getD, List.getD_eq_getElem?_getD, List.getElem?_set_self hi] at h
  refine hv ?_
  rw [List.getD_eq_getElem?_getD]
  exact h.symm

set_option maxRecDepth 20000 in
set_option maxHeartbeats 4000000 in
theorem wSignOnly {T : World → Prop} (hT : Stands T) (hE : SEnc T) (hV : SVer T) (h : Int) (u : Value) (ms : List Nat) (k at_ bit : Int) (w : World) (hu : Row .u8 w u ms) (dm : Digs 256 ms) (hh : (Lit.int .i64 h).wf = true) (hk : (Lit.int .i64 k).wf = true) (ht : T w) :
    Calls Tryd.prog 5 #[.int .i64 h, u, .int .i64 k, .int .i64 at_, .int .i64 bit] w fun e w' => e = .returned (.bool true) ∧ Below w.heap.size w w' := by
  obtain ⟨hh0, hh1⟩ := bounds_i64 hh
  obtain ⟨hk0, hk1⟩ := bounds_i64 hk
  obtain ⟨mo, M, mc, rfl, hM, _⟩ := hu.open
  have J0 := f25Awake hT hE w ht
  have JE := toHid fun W (kk : Kept Nought w W) (hm : M ≤ 10000) => hE h mo M mc ms k W (hT _ _ ht kk) hh0 hh1 hk0 hk1 (hu.grew kk) dm hm
  have JV := toHid fun W (kk : Kept Nought w W) (hm : M ≤ 10000) (eo : Option Addr) (L ec : Nat) (em : List Nat) (R : Bool) (hR : R = decide (siE h ms (L : Int) = 0 ∧ siL h ms (L : Int) = em)) (hr : Row .u8 W (.slice eo L ec) em) (de : Digs 256 em) (hl : L ≤ 10000) => hV h mo M mc ms eo L ec em R W hR (hT _ _ ht kk) hh0 hh1 (hu.grew kk) dm hm hr de hl
  have HLN := toHid fun (e : siE h ms k = 0) => siL_len e
  have HDG := toHid (siL_digs h ms k)
  have HNIL : Hid (siE h ms k ≠ 0 → siL h ms k = []) := fun e => by unfold siL; exact if_neg e
  clear hu dm hh hk hE hV hT ht hM
  by_cases h1 : M ≤ 1000
  · have g1 : ¬ (M : Int) > 1000 := by omega
    have g1' : ¬ (1000 : Int) < (M : Int) := by omega
    by_cases h0 : siE h ms k = 0
    · obtain ⟨hlen, hkb⟩ := HLN.out h0
      obtain ⟨N, rfl⟩ : ∃ N : Nat, k = (N : Int) := ⟨(siL h ms k).length, hlen.symm⟩
      have HL : Hid ((siL h ms (N : Int)).length = N) := by unfold Hid; omega
      have HTRUE : Hid (∀ X, siL h ms (N : Int) = X → true = decide (siE h ms (N : Int) = 0 ∧ siL h ms (N : Int) = X)) := fun X hX => (decide_eq_true ⟨h0, hX⟩).symm
      have HFALSE : Hid (∀ R em, R = decide (siE h ms (N : Int) = 0 ∧ siL h ms (N : Int) = em) → siL h ms (N : Int) ≠ em → R = false) := fun R em hR hne => by rw [hR]; exact decide_eq_false fun e => hne e.2
      have HE0 := toHid h0
      rw [h0] at JE
      clear HLN HNIL h0 hlen
      by_cases hin : 0 ≤ at_ ∧ at_ < (N : Int) ∧ 0 ≤ bit ∧ bit ≤ 7
      · obtain ⟨a0, a1, b0, b1⟩ := hin
        obtain ⟨i, rfl⟩ := Int.eq_ofNat_of_zero_le a0
        have hi : i < N := by omega
        have c1 : ¬ (i : Int) < 0 := by omega
        have c2 : ¬ (i : Int) ≥ (N : Int) := by omega
        have c2' : ¬ (N : Int) ≤ (i : Int) := by omega
        have c3 : ¬ bit < 0 := by omega
        have c4 : ¬ bit > 7 := by omega
        have c4' : ¬ (7 : Int) < bit := by omega
        go_enter Tryd.func5, Tryd.ntmps5
        go_wp2_with fail
        refine J0.mono ?_
        rintro e w1 ⟨rfl, k1⟩
        have HK1 := toHid k1
        have J2 := JE.out w1 HK1.out (by omega)
        clear J0 k1
        go_wp2_with fail
        refine J2.mono ?_
        rintro e w2 ⟨v2, rfl, ⟨r2, _⟩, k2⟩
        obtain ⟨xo, xn, xc, rfl, hxl, -⟩ := r2.open
        obtain rfl : xn = N := hxl.out.symm.trans HL.out
        have HR2 := toHid r2
        have HK2 := toHid (HK1.out.trans k2)
        have J3 := JV.out w2 HK2.out (by omega) xo xn xc _ true (HTRUE.out _ rfl) HR2.out HDG.out (by omega)
        clear J2 r2 k2 hxl
        go_wp2_with fail
        refine J3.mono ?_
        rintro e w3 ⟨rfl, k3⟩
        have HK3 := toHid (HK2.out.trans k3)
        have HR3 := toHid (HR2.out.grew k3)
        clear J3 k3
        go_wp2_with (at_builtin; refine wpList_append_nm rfl _ _ rfl w3.heap.size _ [] rfl (OwnB.nil _ _) _ rfl (siL h ms (xn : Int)) HR3.out ?qc (Nat.le_refl _) ?_)
        case qc => have := HL.out; simp only [List.length_nil]; omega
        intro ls ao n cap w4 e4 f4 ho4 kk4
        obtain rfl : ls = siL h ms (xn : Int) := e4.out
        have hnn : xn = n := HL.out.symm.trans f4.out
        subst hnn
        have hk4 : Kept Nought w3 w4 := (Kept.refl Nought w3).next kk4 (fun x hx (hq : w3.heap.size ≤ x) => by omega)
        have ho := ho4
        unfold OwnB at ho
        rw [HL.out] at ho
        obtain ⟨g, rfl⟩ : ∃ g, ao = some ⟨g, 0, none⟩ := by
          rcases ho.2 with ⟨e, _⟩ | ⟨g, _, _, e, _⟩
          · cases e
            omega
          · cases e
            exact ⟨g, rfl⟩
        have hgb : w3.heap.size ≤ g := (ho4.lt g rfl).1
        have hcell : w4.cell? ⟨g, i, none⟩ = some (.int .u8 (((siL h ms (xn : Int)).getD i 0 : Nat) : Int)) := by
          rw [World.ownsRow.cellAt ho i (by omega), List.getElem?_map, List.getElem?_eq_getElem (by rw [HL.out]; omega), List.getD_eq_getElem?_getD, List.getElem?_eq_getElem (by rw [HL.out]; omega)]
          rfl
        have hf := World.ownsRow.frozenAt ho i
        have HST := toHid fun u => (World.ownsRow.stored ho i u).1
        have lX : (siL h ms (xn : Int)).getD i 0 < 256 := HDG.out.getD (by omega) i
        have HNE := toHid fun v (hv : v ≠ (siL h ms (xn : Int)).getD i 0) => set_ne (xs := siL h ms (xn : Int)) (i := i) (v := v) (by rw [HL.out]; exact hi) hv
        have HDS : Hid (∀ v, v < 256 → Digs 256 ((siL h ms (xn : Int)).set i v)) := fun v hv => fun d hd => by
          rcases List.mem_or_eq_of_mem_set hd with h1 | h1
          · exact HDG.out d h1
          · rw [h1]; exact hv
        have HLS : Hid (∀ v, ((siL h ms (xn : Int)).set i v).length = xn) := fun v => by rw [List.length_set]; exact HL.out
        have HFA : Hid (∀ v, siL h ms (xn : Int) ≠ (siL h ms (xn : Int)).set i v → false = decide (siE h ms (xn : Int) = 0 ∧ siL h ms (xn : Int) = (siL h ms (xn : Int)).set i v)) := fun v hv => (HFALSE.out _ _ rfl hv).symm
        have HK4 := toHid (HK3.out.trans hk4)
        have HKS : Hid (∀ v, Kept Nought w (w4.setCell ⟨g, i, none⟩ v)) := fun v => HK4.out.setCell _ (fun hq => by
          have h' : g < w.heap.size := hq
          have := HK3.out.size
          omega) _
        have HOW : Hid (∀ v, Row .u8 (w4.setCell ⟨g, i, none⟩ (.int .u8 ((v : Nat) : Int))) (.slice (some ⟨g, 0, none⟩) xn cap) ((siL h ms (xn : Int)).set i v)) := fun v => by
          refine OwnB.row (base := w3.heap.size) (OwnB.of (n := xn) ?_)
          unfold OwnN
          rw [List.map_set]
          exact HST.out _
        generalize (siL h ms (xn : Int)).getD i 0 = X at *
        have g0 : (0 : Int) ≤ (i : Int) := by omega
        have gi : (i : Int) < (xn : Int) := by omega
        clear ho4 ho kk4 hk4 e4 f4 HST HTRUE HFALSE
        have hb8 : bit = 0 ∨ bit = 1 ∨ bit = 2 ∨ bit = 3 ∨ bit = 4 ∨ bit = 5 ∨ bit = 6 ∨ bit = 7 := by omega
        obtain ⟨c, hc0, hc1, hcs⟩ : ∃ c : Nat, c ≠ 0 ∧ c < 256 ∧ ((bit = 0 ∧ c = 1) ∨ (bit = 1 ∧ c = 2) ∨ (bit = 2 ∧ c = 4) ∨ (bit = 3 ∧ c = 8) ∨ (bit = 4 ∧ c = 16) ∨ (bit = 5 ∧ c = 32) ∨ (bit = 6 ∧ c = 64) ∨ (bit = 7 ∧ c = 128)) := by
          rcases hb8 with rfl | rfl | rfl | rfl | rfl | rfl | rfl | rfl
          · exact ⟨1, by omega, by omega, by omega⟩
          · exact ⟨2, by omega, by omega, by omega⟩
          · exact ⟨4, by omega, by omega, by omega⟩
          · exact ⟨8, by omega, by omega, by omega⟩
          · exact ⟨16, by omega, by omega, by omega⟩
          · exact ⟨32, by omega, by omega, by omega⟩
          · exact ⟨64, by omega, by omega, by omega⟩
          · exact ⟨128, by omega, by omega, by omega⟩
        have e6 := u8_xor_nat X c (by omega) (by omega)
        have HZN := toHid (bit_ne (X := X) hc0)
        have hZb : X ^^^ c < 256 := Nat.xor_lt_two_pow (n := 8) (by omega) (by omega)
        generalize X ^^^ c = Z at *
        have HR5 := toHid (HOW.out Z)
        have HK5 := toHid (HKS.out (.int .u8 (Z : Int)))
        have J5 := JV.out _ HK5.out (by omega) (some ⟨g, 0, none⟩) xn cap _ false (HFA.out Z (HNE.out Z HZN.out)) HR5.out (HDS.out Z hZb) (by omega)
        clear hb8 HOW HKS HFA HNE HDS HZN
        rcases hcs with ⟨rfl, rfl⟩ | ⟨rfl, rfl⟩ | ⟨rfl, rfl⟩ | ⟨rfl, rfl⟩ | ⟨rfl, rfl⟩ | ⟨rfl, rfl⟩ | ⟨rfl, rfl⟩ | ⟨rfl, rfl⟩
        all_goals
          go_wp2_with fail
          first | rw [show bits .xor .u8 (X : Int) 1 = (Z : Int) from e6] | rw [show bits .xor .u8 (X : Int) 2 = (Z : Int) from e6] | rw [show bits .xor .u8 (X : Int) 4 = (Z : Int) from e6] | rw [show bits .xor .u8 (X : Int) 8 = (Z : Int) from e6] | rw [show bits .xor .u8 (X : Int) 16 = (Z : Int) from e6] | rw [show bits .xor .u8 (X : Int) 32 = (Z : Int) from e6] | rw [show bits .xor .u8 (X : Int) 64 = (Z : Int) from e6] | rw [show bits .xor .u8 (X : Int) 128 = (Z : Int) from e6]
          refine J5.mono ?_
          rintro e w6 ⟨rfl, k6⟩
          go_wp2_with fail
          go_ret
          exact ⟨rfl, below_kept (HK5.out.trans k6) (Nat.le_refl _)⟩
      · have HOUT : Hid (at_ < 0 ∨ (¬ at_ < 0 ∧ at_ ≥ (N : Int)) ∨ (¬ at_ < 0 ∧ ¬ at_ ≥ (N : Int) ∧ bit < 0) ∨ (¬ at_ < 0 ∧ ¬ at_ ≥ (N : Int) ∧ ¬ bit < 0 ∧ bit > 7)) := by unfold Hid; omega
        clear hin
        rcases HOUT.out with c1 | ⟨c1, c2⟩ | ⟨c1, c2, c3⟩ | ⟨c1, c2, c3, c4⟩
        all_goals
          clear HOUT
          go_enter Tryd.func5, Tryd.ntmps5
          go_wp2_with fail
          refine J0.mono ?_
          rintro e w1 ⟨rfl, k1⟩
          have HK1 := toHid k1
          have J2 := JE.out w1 HK1.out (by omega)
          clear J0 k1
          go_wp2_with fail
          refine J2.mono ?_
          rintro e w2 ⟨v2, rfl, ⟨r2, _⟩, k2⟩
          obtain ⟨xo, xn, xc, rfl, hxl, -⟩ := r2.open
          obtain rfl : xn = N := hxl.out.symm.trans HL.out
          have HR2 := toHid r2
          have HK2 := toHid (HK1.out.trans k2)
          have J3 := JV.out w2 HK2.out (by omega) xo xn xc _ true (HTRUE.out _ rfl) HR2.out HDG.out (by omega)
          clear J2 r2 k2 hxl
          go_wp2_with fail
          refine J3.mono ?_
          rintro e w3 ⟨rfl, k3⟩
          have HK3 := toHid (HK2.out.trans k3)
          have J4 := JV.out w3 HK3.out (by omega) xo xn xc _ true (HTRUE.out _ rfl) (HR2.out.grew k3) HDG.out (by omega)
          clear J3 k3
          go_wp2_with fail
          refine J4.mono ?_
          rintro e w4 ⟨rfl, k4⟩
          have HK4 := toHid (HK3.out.trans k4)
          clear J4 k4
          go_wp2_with fail
          go_ret
          exact ⟨rfl, below_kept HK4.out (Nat.le_refl _)⟩
    · have HNL := toHid (HNIL.out h0)
      have g0 : ¬ ((siE h ms k : Nat) : Int) = 0 := by omega
      generalize siE h ms k = E at *
      generalize siL h ms k = SL at *
      clear h0 HLN HNIL
      go_enter Tryd.func5, Tryd.ntmps5
      go_wp2_with fail
      refine J0.mono ?_
      rintro e w1 ⟨rfl, k1⟩
      have HK1 := toHid k1
      have J2 := JE.out w1 HK1.out (by omega)
      clear J0 k1
      go_wp2_with fail
      refine J2.mono ?_
      rintro e w2 ⟨v2, rfl, ⟨r2, _⟩, k2⟩
      obtain ⟨xo, xn, xc, rfl, hxl, -⟩ := r2.open
      obtain rfl : xn = 0 := by have := hxl.out; rw [HNL.out] at this; exact this.symm
      have HK2 := toHid (HK1.out.trans k2)
      clear J2 r2 k2 hxl
      go_wp2_with fail
      go_ret
      exact ⟨by first | rfl | simp, below_kept HK2.out (Nat.le_refl _)⟩
  · have g1 : (M : Int) > 1000 := by omega
    have g1' : (1000 : Int) < (M : Int) := by omega
    go_enter Tryd.func5, Tryd.ntmps5
    go_wp2_with fail
    refine J0.mono ?_
    rintro e w1 ⟨rfl, k1⟩
    have HK1 := toHid k1
    clear J0 k1
    go_wp2_with fail
    go_ret
    exact ⟨rfl, below_kept HK1.out (Nat.le_refl _)⟩

end Go.Proofs.YthnkganmccgaeaaDoor


/- The law SignOnly, walked. -/
namespace Go.Proofs.YthnkganmccgaeaaDoor
open Go.RowKit

theorem walkSignOnly (h : Int) (u : Value) (ms : List Nat) (k at_ bit : Int) (w : World) (hu : Row .u8 w u ms) (dm : Digs 256 ms) (hh : (Lit.int .i64 h).wf = true) (hk : (Lit.int .i64 k).wf = true) (ht : TabH w) :
    Calls Tryd.prog 5 #[.int .i64 h, u, .int .i64 k, .int .i64 at_, .int .i64 bit] w fun e w' => e = .returned (.bool true) ∧ Below w.heap.size w w' :=
  wSignOnly sgStands sgEnc sgVer h u ms k at_ bit w hu dm hh hk ht

end Go.Proofs.YthnkganmccgaeaaDoor

