/- Package mont: Setup. -/
import Derived.Test.YtpgccioblgcjaaaMonG
import Derived.Test.YtpgccioblgcjaaaMonK
namespace Go.Proofs.Ytpgccioblgcjaaa
open Go.RowKit

/-- What a good number is set up to. -/
def SetUp (W : World) (V : Nat) (a b : Value) (K : Nat) : Prop := Row .u64 W a (modM V) ∧ Row .u64 W b (modR V) ∧ isKf V K

theorem rfn_mont (V : Nat) : rfn (wordsN V) V = montE V := rfl

set_option maxRecDepth 20000 in
set_option maxHeartbeats 2000000 in
/-- What Setup attempts. -/
theorem mSetup1 (ao : Option Addr) (L cap bM bO V E : Nat) (xs : List Nat) (w : World) (hx : Row .u64 w (.slice ao L cap) xs) (hd : Digs 18446744073709551616 xs) (hL : L ≤ 1000000) (hV : V = val 18446744073709551616 xs) (hE : E = montE V)
    (hM : Box w bM (.slice ao L cap) 23) (hO : w.heap[bO]? = some (.cells #[.slice none 0 0, .int .u64 0, .slice none 0 0] 28 (0, 0))) :
    Calls Try.prog 34 #[.pointer (some ⟨bM, 0, none⟩), .pointer (some ⟨bO, 0, none⟩)] w fun e w' =>
      (E = 0 ∧ e = .returned (.tuple #[]) ∧ ∃ (a b : Value) (K : Nat) (w1 : World), SetUp w1 V a b K ∧ Fresh w a ∧ Fresh w b ∧ Kept Nought w w1 ∧ w' = ((w1.setCell ⟨bO, 0, none⟩ a).setCell ⟨bO, 1, none⟩ (.int .u64 (K : Int))).setCell ⟨bO, 2, none⟩ b) ∨
      (E ≠ 0 ∧ e = .panicked [refusal (E : Nat)] ∧ Kept Nought w w') := by
  obtain ⟨_, _, _, e1, hLx, hLc, _, hnone, _⟩ := hx.open
  cases e1
  obtain ⟨R, hR⟩ : ∃ R, R = wordsN V := ⟨_, rfl⟩
  have hVL : V < 18446744073709551616 ^ L := by rw [hV, ← hLx.out]; exact val_lt (by omega) hd
  have hRL : R ≤ L := by rw [hR]; exact (wordsN_le V L).2 hVL
  have hVR : V < 18446744073709551616 ^ R := (wordsN_le V R).1 (by omega)
  have hcut := hx.cut (m := R) (by rw [hLx.out]; exact hRL)
  have hcd := hd.take R
  have hcv : val 18446744073709551616 (xs.take R) = V := by rw [val_takeB (by omega) hd, ← hV, Nat.mod_eq_of_lt hVR]
  have hcl : (xs.take R).length = R := by rw [List.length_take, hLx.out]; omega
  have hNe := fun W => mNeeds (.slice ao L cap) xs R (by rw [hR, hV]) W
  have HNe : Hid (∀ W, Kept Nought w W → Calls Try.prog 35 #[.slice ao L cap] W fun e w' => e = .returned (.int .i64 (R : Int)) ∧ w' = W) := fun W k => hNe W (hx.grew k) hd (by rw [hLx.out]; omega)
  have HRN : Hid (∀ W, Kept Nought w W → Calls Try.prog 36 #[.slice ao R cap] W fun e w' => ((E = 0 ∧ e = .returned (.tuple #[])) ∨ (E ≠ 0 ∧ e = .panicked [refusal (E : Nat)])) ∧ w' = W) := fun W k => by
    have := mRefuseNumber ao R cap (xs.take R) W (hcut.grew k) hcd (by omega)
    rw [hcv, hR, rfn_mont, ← hE, ← hR] at this
    exact this
  have hM' := hM.cell
  have gR : (R : Int) ≤ (cap : Int) := by omega
  have gR' : R ≤ cap := by omega
  have HX := toHid hcut
  have HCD := toHid hcd
  have HCV := toHid hcv
  have HCL := toHid hcl
  have HO := toHid hO
  have HR := toHid hR
  have HE := toHid hE
  have HVR := toHid hVR
  clear hx hd hV hE hVL hVR hcut hcd hcv hcl hNe hO hM hR
  go_enter Try.func34, Try.ntmps34
  go_wp2_with fail
  go_region_held3 (fun w' => w'.cell? ⟨bM, 0, none⟩ = some (.slice ao L cap))
    (((try dsimp only); first | (go_keep; done) | assumption))
    (first
    | (go_at_call 35; refine (HNe.out _ ?_).mono ?_; (exact (Kept.refl _ _).drew); rintro e w2 ⟨rfl, rfl⟩))
  go_wp2_with fail
  have kd : Kept Nought w w.drew := (Kept.refl _ _).drew
  refine (HRN.out _ kd).mono ?_
  rintro e w2 ⟨⟨h0, rfl⟩ | ⟨h0, rfl⟩, rfl⟩
  · have hmo := montE_ok (V := V) (by rw [← HE.out]; exact h0)
    have hR0 : 0 < R := by
      rcases Nat.eq_zero_or_pos R with h1 | h1
      · have h2 := HVR.out
        rw [h1, Nat.pow_zero] at h2
        omega
      · exact h1
    obtain ⟨_, _, _, e1, _, _, _, _, hnum⟩ := HX.out.open
    cases e1
    obtain ⟨b1, off1, e1, _⟩ := hnum 0 hR0
    cases e1
    have hC := mClone b1 off1 R cap (xs.take R) w.drew (HX.out.grew kd) (by omega)
    clear HNe HRN hnone hnum hM'
    go_wp2_with fail
    refine hC.mono ?_
    rintro e w3 ⟨v3, rfl, hr3, f3, k3⟩
    obtain ⟨zo, zn, zc, rfl, hL3, _, _, _, hnum3⟩ := hr3.open
    obtain rfl : zn = R := hL3.out.symm.trans HCL.out
    obtain ⟨b3, off3, e3, _⟩ := hnum3 0 hR0
    cases e3
    have hP := mPrep b3 off3 zn zc V (xs.take zn) w3 hr3 HCD.out hR0 (by have := HR.out; omega) HCV.out.symm (above_top HR.out.symm hR0 hmo.2.1 hmo.2.2) hmo.2.2
    have HR3 := toHid hr3
    have HF3 := toHid f3
    have HK3 := toHid k3
    clear hC hr3 f3 k3 hnum3 hL3
    go_wp2_with fail
    refine hP.mono ?_
    rintro e w4 ⟨K, v4, rfl, hK, hgood, hr4, f4, k4⟩
    obtain ⟨yo, yn, yc, rfl, _, _, _, _, _⟩ := hr4.open
    have kk := (kd.trans HK3.out).trans k4
    have hO4 := (kk.block _ (lt_of_block HO.out) (fun f => f)).trans HO.out
    obtain ⟨c0, c1, c2⟩ := cells3 hO4
    obtain ⟨f0, f1, f2⟩ := frees3 hO4
    have HS : Hid (SetUp w4 V (.slice (some ⟨b3, off3, none⟩) zn zc) (.slice yo yn yc) K) := by
      have hE0 : montE V = 0 := by rw [← HE.out]; exact h0
      refine ⟨?_, ?_, hK, fun _ => hgood, fun h => absurd hE0 h⟩
      · unfold modM
        rw [if_pos hE0, ← HR.out, ← digs_val (by omega) HCD.out HCL.out (by rw [HCV.out, Nat.mod_eq_of_lt HVR.out])]
        exact HR3.out.grew k4
      · unfold modR
        rw [if_pos hE0, ← HR.out]
        rw [B64, show 64 * (2 * zn) = 128 * zn by omega] at hr4
        exact hr4
    have HFA := toHid (HF3.out.after kd)
    have HFB := toHid (f4.after (kd.trans HK3.out))
    have HKK := toHid kk
    clear hP hO4 hr4 f4 k4 kk kd HR3 HF3
    go_wp2_with fail
    go_end0
    exact .inl ⟨h0, rfl, _, _, K, w4, HS.out, HFA.out, HFB.out, HKK.out, rfl⟩
  · exact ⟨rfl, .inr ⟨h0, rfl, kd⟩⟩

set_option maxRecDepth 20000 in
set_option maxHeartbeats 2000000 in
/-- Setup. -/
theorem mSetup (ao : Option Addr) (L cap : Nat) (xs : List Nat) (V E : Nat) (hV : V = val 18446744073709551616 xs) (hE : E = montE V) (w : World) (hx : Row .u64 w (.slice ao L cap) xs) (hd : Digs 18446744073709551616 xs) (hL : L ≤ 1000000) :
    Calls Try.prog 11 #[.slice ao L cap] w fun e w' => ∃ a K b, e = .returned (.tuple #[.agg (modCells a K b), .int .i64 (E : Nat)]) ∧ Row .u64 w' a (modM V) ∧ Row .u64 w' b (modR V) ∧ isKf V K ∧ Kept Nought w w' := by
  have hmf : ∀ (fn : Fn) (first cap : Array Value) (w : World), (Instr.makeFunc fn first cap).run Try.prog w = .ok (.func fn first cap) w := fun _ _ _ _ => rfl
  have he : ∀ args w, (callFunc 34 args).run Try.prog w = .ok (.enter 34 args) w := fun _ _ => by simp [go_sem]
  obtain ⟨W, hW⟩ : ∃ W, W = (w.alloc (.cells #[.slice ao L cap] 23)).alloc (.cells #[.slice none 0 0, .int .u64 0, .slice none 0 0] 28) := ⟨_, rfl⟩
  have k0 : Kept Nought w W := by rw [hW]; exact ((Kept.refl Nought w).alloc _).alloc _
  have hsz : W.heap.size = w.heap.size + 1 + 1 := by rw [hW]; simp
  have hM0 : Box W w.heap.size (.slice ao L cap) 23 := by rw [hW]; exact (Box.new w _ _).alloc _
  have hO0 : W.heap[w.heap.size + 1]? = some (.cells #[.slice none 0 0, .int .u64 0, .slice none 0 0] 28 (0, 0)) := by
    rw [hW]
    have := heap_alloc_new (w.alloc (.cells #[.slice ao L cap] 23)) (.cells #[.slice none 0 0, .int .u64 0, .slice none 0 0] 28)
    rwa [show (w.alloc (.cells #[.slice ao L cap] 23)).heap.size = w.heap.size + 1 by simp] at this
  have k1 := k0.alloc (.cells #[.int .i64 0] 29)
  have xe := Box.new W (.int .i64 0) 29
  have hsz1 : (W.alloc (.cells #[.int .i64 0] 29)).heap.size = W.heap.size + 1 := by simp
  have h1 := mSetup1 ao L cap w.heap.size (w.heap.size + 1) V E xs _ (hx.grew k1) hd hL hV hE (hM0.alloc _) (heapAt_alloc hO0)
  have hAt := mAttempt 34 #[.pointer (some ⟨w.heap.size, 0, none⟩), .pointer (some ⟨w.heap.size + 1, 0, none⟩)] W
    (fun c W' => c = (E : Nat) ∧ Kept Nought w W' ∧ ∃ (a b : Value) (K : Nat), SetUp W' V a b K ∧ Fresh W a ∧ Fresh W b ∧ (∀ x, a.ownBlock = some x → x ≠ W.heap.size) ∧ (∀ x, b.ownBlock = some x → x ≠ W.heap.size) ∧ W'.heap[w.heap.size + 1]? = some (.cells #[a, .int .u64 (K : Int), b] 28 (0, 0))) he (h1.mono (by
    rintro e w' (⟨h2, rfl, a, b, K, w1, hS, fa, fb, kk, rfl⟩ | ⟨h2, rfl, kk⟩)
    · have hO1 := (kk.block _ (lt_of_block (heapAt_alloc hO0)) (fun f => f)).trans (heapAt_alloc (o := .cells #[.int .i64 0] 29) hO0)
      have hE1 := (kk.block _ xe.lt (fun f => f)).trans xe
      have k3 := kept3 w1 (w.heap.size + 1) a (.int .u64 (K : Int)) b
      have hfa : ∀ x, a.ownBlock = some x → W.heap.size + 1 ≤ x := fun x hx => by have := fa x hx; omega
      have hfb : ∀ x, b.ownBlock = some x → W.heap.size + 1 ≤ x := fun x hx => by have := fb x hx; omega
      refine ⟨(k3.block _ (lt_of_block hE1) (by omega)).trans hE1, .inl ⟨rfl, by rw [h2]; rfl, (k1.trans kk).next k3 (fun x hx e => by omega), a, b, K, ⟨hS.1.kept k3 (fun x hx e => by have := hfa x hx; omega), hS.2.1.kept k3 (fun x hx e => by have := hfb x hx; omega), hS.2.2⟩, fun x hx => by have := hfa x hx; omega, fun x hx => by have := hfb x hx; omega, fun x hx => by have := hfa x hx; omega, fun x hx => by have := hfb x hx; omega, put3 hO1 _ _ _⟩⟩
    · have hO1 := (kk.block _ (lt_of_block (heapAt_alloc hO0)) (fun f => f)).trans (heapAt_alloc (o := .cells #[.int .i64 0] 29) hO0)
      have hE1 := (kk.block _ xe.lt (fun f => f)).trans xe
      have hb := mod_bad (V := V) (by rw [← hE]; exact h2)
      exact ⟨hE1, .inr ⟨_, rfl, rfl, k1.trans kk, .slice none 0 0, .slice none 0 0, 0, ⟨by rw [hb.1]; exact Row.nil _ _, by rw [hb.2.1]; exact Row.nil _ _, hb.2.2⟩, (fun x hx => by cases hx), (fun x hx => by cases hx), (fun x hx => by cases hx), (fun x hx => by cases hx), hO1⟩⟩))
  have HW := toHid hW
  have HSZ := toHid hsz
  clear h1 hx hd hL hV hE hW k0 k1 hM0 hO0 xe he hsz hsz1
  go_enter Try.func11, Try.ntmps11
  go_wp2_with (rw [← HW.out])
  refine hAt.mono ?_
  rintro e w' ⟨c, w1, rfl, ⟨⟨rfl, k2, a, b, K, hS, fa, fb, na, nb, hO2⟩, hbe⟩, rfl⟩
  obtain ⟨ao2, an2, ac2, rfl, _, _, _, _, _⟩ := hS.1.open
  obtain ⟨bo2, bn2, bc2, rfl, _, _, _, _, _⟩ := hS.2.1.open
  have k3 := kept_box w1 W.heap.size (.int .i64 (E : Nat))
  have hne : w.heap.size + 1 ≠ W.heap.size := by have := HSZ.out; omega
  have hO3 := heapAt_set hO2 (a := ⟨W.heap.size, 0, none⟩) hne (.int .i64 (E : Nat))
  have hS3 : SetUp (w1.setCell ⟨W.heap.size, 0, none⟩ (.int .i64 (E : Nat))) V (.slice ao2 an2 ac2) (.slice bo2 bn2 bc2) K := ⟨hS.1.kept k3 na, hS.2.1.kept k3 nb, hS.2.2⟩
  have k4 := k2.next k3 (fun x hx e => by have := HSZ.out; omega)
  generalize w1.setCell ⟨W.heap.size, 0, none⟩ (.int .i64 (E : Nat)) = w2 at *
  obtain ⟨c0, c1, c2⟩ := cells3 hO3
  obtain ⟨f0, f1, f2⟩ := frees3 hO3
  have hO4 := put3 hO3 (.slice ao2 an2 ac2) (.int .u64 (K : Int)) (.slice bo2 bn2 bc2)
  obtain ⟨d0, d1, d2⟩ := cells3 hO4
  have k5 := kept3 w2 (w.heap.size + 1) (.slice ao2 an2 ac2) (.int .u64 (K : Int)) (.slice bo2 bn2 bc2)
  have HA := toHid (hS3.1.kept k5 (fun x hx e => by have := fa x hx; have := HSZ.out; omega))
  have HB := toHid (hS3.2.1.kept k5 (fun x hx e => by have := fb x hx; have := HSZ.out; omega))
  have HK := toHid hS3.2.2
  have HKK := toHid (k4.next k5 (fun x hx e => by omega))
  clear hAt hS hS3 hO2 hO3 hO4 k2 k3 k4 k5 hbe fa fb na nb
  go_wp2_with fail
  exact bodyPost_ret (v := .tuple #[.agg (modCells (.slice ao2 an2 ac2) K (.slice bo2 bn2 bc2)), .int .i64 (E : Nat)]) (by simp [results, Try.results11, go_sem, d0, d1, d2, modCells]) rfl ⟨_, K, _, rfl, HA.out, HB.out, HK.out, HKK.out⟩

end Go.Proofs.Ytpgccioblgcjaaa
