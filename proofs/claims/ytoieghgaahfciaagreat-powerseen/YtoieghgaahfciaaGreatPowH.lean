/- Package power: asked, where the answer is numbers. -/
import Derived.Test.YtoieghgaahfciaaGreatPowG
namespace Go.Proofs.YtoieghgaahfciaaGreat
open Go.RowKit

set_option maxRecDepth 40000 in
set_option maxHeartbeats 4000000 in
/-- What asked attempts, where the answer is numbers. -/
theorem wAsked1L (o : Tr) (ao bo xo eo : Option Addr) (n l K mcap rcap N1 xc L ecap f : Nat) (fcap : Array Value) (ms rs xs : List Nat) (bT bM bA bE bF bO bX E rm : Nat) (dE : List Ev) (G : Nat → Nat → World → Value → Prop) (a w : World) (hrm : dE.length ≤ rm)
    (ht : TrRoom a o (4000 + rm)) (ka : Kept Nought a w) (hm : RowT a o (.slice ao n mcap) ms) (hr : RowT a o (.slice bo l rcap) rs) (hx : RowT a o (.slice xo N1 xc) xs) (hmd : Digs 18446744073709551616 ms) (hrd : Digs 18446744073709551616 rs) (hdx : Digs 18446744073709551616 xs) (hK : K < 18446744073709551616) (hnb : n ≤ 300) (hbr : a.heap.size ≤ bM ∧ a.heap.size ≤ bO) (hne : bM ≠ bX ∧ bO ≠ bX ∧ bM ≠ bO)
    (hT : Box w bT (trPtr o) 48) (hM : w.heap[bM]? = some (.cells #[.slice ao n mcap, .int .u64 (K : Nat), .slice bo l rcap] 26 (0, 0))) (hA : Box w bA (.slice xo N1 xc) 23) (hB : Box w bE (.slice eo L ecap) 23) (hF : Box w bF (.func (.func f) #[] fcap) 62) (hO : Box w bO (.slice none 0 0) 35) (hX : Box w bX (.int .i64 0) 29)
    (hf : ∀ args w, (callFunc f args).run Tryz.prog w = .ok (.enter f args) w)
    (hdo : ∀ W m o' ao' bo' yo' l' K' mc' rc' yc' ms' rs' X, Did a o m W o' → TrRoom W o' rm → Mod8 W o' ao' bo' n l' K' mc' rc' ms' rs' → MonAt W (.slice yo' n yc') n (val 18446744073709551616 ms') X → Fresh w (.slice yo' n yc') → Kept (fun b => b = bM ∨ trFoot o b) w W → L ≤ 300 → Calls Tryz.prog f (#[.agg #[.slice ao' n mc', .int .u64 (K' : Nat), .slice bo' l' rc'], .slice yo' n yc'] ++ fcap) W fun e w' => ∃ zo zn zc, e = .returned (.slice zo zn zc) ∧ G (val 18446744073709551616 ms') X w' (.slice zo zn zc) ∧ ∃ o2, Did W o' dE w' o2)
    (hG : ∀ V X W W' v, G V X W v → Kept (fun b => b < w.heap.size) W W' → G V X W' v)
    (hE : E = 0 ↔ okMod ms K rs ∧ (N1 = n ∧ val 18446744073709551616 xs < val 18446744073709551616 ms)) (hE1 : E ≤ 1) :
    Calls Tryz.prog 62 #[.pointer (some ⟨bT, 0, none⟩), .pointer (some ⟨bM, 0, none⟩), .pointer (some ⟨bA, 0, none⟩), .pointer (some ⟨bE, 0, none⟩), .pointer (some ⟨bF, 0, none⟩), .pointer (some ⟨bO, 0, none⟩)] w fun e w' =>
      (E = 0 ∧ L ≤ 300 ∧ e = .returned (.tuple #[]) ∧ ∃ zo zn zc o', Left8 a w w' o o' bX bO rm (.slice zo zn zc) 35 (entEv8 n ++ dE) ∧ G (val 18446744073709551616 ms) (val 18446744073709551616 xs) w' (.slice zo zn zc)) ∨
      (∃ c : Nat, ((E = 1 ∧ c = 1) ∨ (E = 0 ∧ 300 < L ∧ c = 2)) ∧ e = .panicked [refusal (c : Nat)] ∧ ∃ m o', Left8 a w w' o o' bX bO rm (.slice none 0 0) 35 m) := by
  obtain ⟨po, hpo⟩ := trPtr_shape o
  have hti := (ht.grew ka).1
  have h0 : Did a o [] w o := Did.of_kept ka ht.1
  have JC : Hid (∀ W m o', Did w o m W o' → W.cell? ⟨bT, 0, none⟩ = some (.pointer po) ∧ W.cell? ⟨bA, 0, none⟩ = some (.slice xo N1 xc) ∧ W.cell? ⟨bE, 0, none⟩ = some (.slice eo L ecap) ∧ W.cell? ⟨bF, 0, none⟩ = some (.func (.func f) #[] fcap)) := fun W m o' d => by
    rw [← hpo]
    exact ⟨(hT.did d hti (by decide) (by decide)).cell, (hA.did d hti (by decide) (by decide)).cell, (hB.did d hti (by decide) (by decide)).cell, (hF.did d hti (by decide) (by decide)).cell⟩
  have JM : Hid (∀ W m o', Did w o m W o' → W.heap[bM]? = some (.cells #[.slice ao n mcap, .int .u64 (K : Nat), .slice bo l rcap] 26 (0, 0))) := fun W m o' d => (d.kept.block _ (lt_of_block hM) (cells_apart hM hti (by decide) (by decide))).trans hM
  have JO : Hid (∀ W m o', Did w o m W o' → Box W bO (.slice none 0 0) 35 ∧ Box W bX (.int .i64 0) 29) := fun W m o' d => ⟨hO.did d hti (by decide) (by decide), hX.did d hti (by decide) (by decide)⟩
  have HFB : Hid (∀ W3 {W4 : World}, Kept (fun b => b = bM) W3 W4 → ∀ {m : List Ev} o', Did w o m W3 o' → W4.cell? ⟨bF, 0, none⟩ = some (.func (.func f) #[] fcap)) := fun W3 W4 k m o' d => ((hF.did d hti (by decide) (by decide)).kept k (fun e => by
    have h1 : w.heap[bF]? = _ := hF
    rw [e, hM] at h1
    simp at h1)).cell
  have hMl := lt_of_block hM
  have hOl := hO.lt
  have HT := toHid ht
  obtain ⟨c0, c1, c2, c3⟩ := JC.out _ _ _ (Did.of_kept (Kept.refl Nought w) hti)
  obtain ⟨p0, p1, p2⟩ := cells3 hM
  have h01 : E = 0 ∨ E = 1 := by omega
  rcases h01 with rfl | rfl
  · obtain ⟨hok, rfl, hlt⟩ := hE.1 rfl
    have hM8 : Mod8 a o ao bo N1 l K mcap rcap ms rs := ⟨hm, hr, hmd, hrd, hK, hok⟩
    obtain ⟨⟨f0, f1⟩, f2, f3, f4, f5⟩ := hM8.facts
    have hEn := ent8 o ao bo xo N1 l K mcap rcap xc ms rs xs w ((ht.grew ka).less (by omega)) (hM8.grew ka) (hx.grew ka) hdx hlt
    rw [hpo] at hEn
    have HL := fun W => wHave ao bo eo N1 l mcap rcap L ecap (K : Int) (decide ((0 < N1 ∧ N1 ≤ 130) ∧ L ≤ 300)) rfl W
    have HM8 := toHid hM8
    have HF1 := toHid f1
    by_cases hL3 : L ≤ 300
    · have HLt : Hid (∀ W, Calls Tryz.prog 51 #[.agg #[.slice ao N1 mcap, .int .u64 (K : Int), .slice bo l rcap], .slice eo L ecap] W fun e w' => e = .returned (.bool true) ∧ Kept Nought W w') := fun W => by
        have := HL W
        rwa [decide_eq_true (show (0 < N1 ∧ N1 ≤ 130) ∧ L ≤ 300 from ⟨⟨f0, f1⟩, hL3⟩)] at this
      have HDO := toHid hdo
      have HGK := toHid hG
      clear ht hm hr hx hmd hrd hdx hK hnb hT hM hA hB hF hO hX hdo hG hE hE1 hok hlt hM8 f0 f1 f2 f3 f4 f5 HL hpo
      go_enter Tryz.func62, Tryz.ntmps62
      go_wp2_with fail
      refine hEn.mono ?_
      rintro e w1 ⟨zo, zc, rfl, hA1, hF1, o1, d1⟩
      obtain ⟨q0, q1, q2, q3⟩ := JC.out _ _ _ d1
      obtain ⟨r0, r1, r2⟩ := cells3 (JM.out _ _ _ d1)
      have HD1 := toHid d1
      have HA1 := toHid hA1
      have HF2 := toHid hF1
      clear hEn c0 c1 c2 c3 p0 p1 p2 d1 hA1 hF1
      go_wp2_with fail
      refine (HLt.out w1).mono ?_
      rintro e w2 ⟨rfl, k2⟩
      have HD2 := toHid (HD1.out.grew k2)
      obtain ⟨q0, q1, q2, q3⟩ := JC.out _ _ _ HD2.out
      obtain ⟨r0, r1, r2⟩ := cells3 (JM.out _ _ _ HD2.out)
      have hroom2 : TrRoom w2 o1 rm := HD2.out.room ((HT.out.grew ka).less (by have := (ev8_len HF1.out).2.1; omega))
      have hDo := HDO.out w2 _ o1 ao bo zo l K mcap rcap zc ms rs _ (did_base h0 HD2.out) hroom2 ((HM8.out.grew ka).did HD2.out) (HA1.out.grew k2) HF2.out (HD2.out.kept.mono (fun _ _ f => .inr f)) hL3
      have HRm2 := toHid hroom2
      clear k2 hroom2
      go_wp2_with fail
      refine hDo.mono ?_
      rintro e w3 ⟨vo, vn, vc, rfl, hG3, o3, d3⟩
      have hRef := wRefuseNo w3
      have HD3 := toHid (HD2.out.trans d3)
      have HG3 := toHid hG3
      obtain ⟨hO3, hX3⟩ := JO.out _ _ _ HD3.out
      have x0 := hO3.cell
      have x1 := hO3.free
      have HO3 := toHid hO3
      have HX3 := toHid hX3
      clear hDo hG3 d3 q0 q1 q2 q3 r0 r1 r2 hO3 hX3
      go_wp2_with fail
      refine hRef.mono ?_
      rintro e w4 ⟨rfl, rfl⟩
      clear hRef
      go_wp2_with fail
      go_end0
      have kb := kept_box w4 bO (.slice vo vn vc)
      have hti4 : TrIn w4 o3 := (HD3.out.room (k := 0) ((HT.out.grew ka).less (by rw [List.length_append]; have := (ev8_len HF1.out).2.1; omega))).1
      refine .inl ⟨by first | rfl | trivial, hL3, rfl, vo, vn, vc, o3, ⟨?_, ?_, HX3.out.kept kb (by omega), HO3.out.set _, ?_⟩, HGK.out _ _ _ _ _ HG3.out (kb.mono (fun b _ e => by omega))⟩
      · exact (did_base h0 HD3.out).wroteNew kb hbr.2 (HO3.out.apart hti4 (by decide) (by decide))
      · rw [List.length_append]
        have := (ev8_len HF1.out).2.1
        omega
      · have := HD3.out.size
        simpa using this
    · have HLf : Hid (∀ W, Calls Tryz.prog 51 #[.agg #[.slice ao N1 mcap, .int .u64 (K : Int), .slice bo l rcap], .slice eo L ecap] W fun e w' => e = .returned (.bool false) ∧ Kept Nought W w') := fun W => by
        have := HL W
        rwa [decide_eq_false (show ¬ ((0 < N1 ∧ N1 ≤ 130) ∧ L ≤ 300) from fun h => hL3 h.2)] at this
      clear ht hm hr hx hmd hrd hdx hK hnb hT hM hA hB hF hO hX hdo hG hE hE1 hok hlt hM8 f0 f1 f2 f3 f4 f5 HL hpo
      go_enter Tryz.func62, Tryz.ntmps62
      go_wp2_with fail
      refine hEn.mono ?_
      rintro e w1 ⟨zo, zc, rfl, hA1, hF1, o1, d1⟩
      obtain ⟨q0, q1, q2, q3⟩ := JC.out _ _ _ d1
      obtain ⟨r0, r1, r2⟩ := cells3 (JM.out _ _ _ d1)
      have HD1 := toHid d1
      clear hEn c0 c1 c2 c3 p0 p1 p2 d1 hA1 hF1
      go_wp2_with fail
      refine (HLf.out w1).mono ?_
      rintro e w2 ⟨rfl, k2⟩
      have HD2 := toHid (HD1.out.grew k2)
      have hR0 := wRefuseNo w2
      clear k2 q0 q1 q2 q3 r0 r1 r2
      go_wp2_with fail
      refine hR0.mono ?_
      rintro e w3 ⟨rfl, rfl⟩
      have hR2 := wRefuseYes 2 (by omega) w3
      clear hR0
      go_wp2_with fail
      refine hR2.mono ?_
      rintro e w4 ⟨rfl, rfl⟩
      obtain ⟨hO3, hX3⟩ := JO.out _ _ _ HD2.out
      exact ⟨rfl, .inr ⟨2, .inr ⟨by first | rfl | trivial, by omega, rfl⟩, rfl, _, o1, ⟨did_base h0 HD2.out, by have := (ev8_len HF1.out).2.1; rw [List.length_append]; simp; omega, hX3, hO3, HD2.out.size⟩⟩⟩
  · have hEn := mEnter o ao bo xo n l K mcap rcap N1 xc 1 ms rs xs w ((ht.grew ka).less (by omega)) (hm.grew ka) (hr.grew ka) (hx.grew ka) hmd hrd hdx hK hnb hE hE1
    rw [hpo] at hEn
    have HL := fun W => wHave ao bo eo n l mcap rcap L ecap (K : Int) (decide ((0 < n ∧ n ≤ 130) ∧ L ≤ 300)) rfl W
    by_cases hL3 : (0 < n ∧ n ≤ 130) ∧ L ≤ 300
    · have HLt : Hid (∀ W, Calls Tryz.prog 51 #[.agg #[.slice ao n mcap, .int .u64 (K : Int), .slice bo l rcap], .slice eo L ecap] W fun e w' => e = .returned (.bool true) ∧ Kept Nought W w') := fun W => by
        have := HL W
        rwa [decide_eq_true hL3] at this
      have HDO := toHid hdo
      clear ht hm hr hx hmd hrd hdx hK hnb hT hM hA hB hF hO hX hdo hG hE hE1 HL hpo
      go_enter Tryz.func62, Tryz.ntmps62
      go_wp2_with fail
      refine hEn.mono ?_
      rintro e w1 ⟨v1, rfl, ⟨Y, hR1, _⟩, _, o1, d1⟩
      obtain ⟨zo, zn, zc, rfl, _, _, _, _, _⟩ := hR1.open
      obtain ⟨q0, q1, q2, q3⟩ := JC.out _ _ _ d1
      obtain ⟨r0, r1, r2⟩ := cells3 (JM.out _ _ _ d1)
      have HD1 := toHid d1
      clear hEn c0 c1 c2 c3 p0 p1 p2 d1 hR1
      go_wp2_with fail
      refine (HLt.out w1).mono ?_
      rintro e w2 ⟨rfl, k2⟩
      have HD2 := toHid (HD1.out.grew k2)
      obtain ⟨q0, q1, q2, q3⟩ := JC.out _ _ _ HD2.out
      obtain ⟨r0, r1, r2⟩ := cells3 (JM.out _ _ _ HD2.out)
      have hSt := wStand n hL3.1.1 hL3.1.2 w2
      clear k2
      go_wp2_with fail
      refine hSt.mono ?_
      rintro e w3 ⟨ao', bo', yo', mc', rc', yc', K', rfl, ms', rs', ⟨s1, s2⟩, ⟨s3, s4, s5, s6⟩, ⟨s7, s8⟩, ⟨s9, s10, s11⟩, k3⟩
      have HD3 := toHid (HD2.out.grew k3)
      have hti3 : TrIn w3 o1 := (HD3.out.room (k := 0) ((HT.out.grew ka).less (by have := ent_len (n := n); omega))).1
      have hMb := JM.out _ _ _ HD3.out
      obtain ⟨q0, q1, q2, q3⟩ := JC.out _ _ _ HD3.out
      obtain ⟨r0, r1, r2⟩ := cells3 hMb
      obtain ⟨g0, g1, g2⟩ := frees3 hMb
      have kp := kept3 w3 bM (.slice ao' n mc') (.int .u64 (K' : Int)) (.slice bo' n rc')
      have hMb4 := put3 hMb (.slice ao' n mc') (.int .u64 (K' : Int)) (.slice bo' n rc')
      have hMl3 : bM < w2.heap.size := by have := HD2.out.size; omega
      obtain ⟨t0, t1, t2⟩ := cells3 hMb4
      have d4 := (did_base h0 HD3.out).wroteNew kp hbr.1 (cells_apart hMb hti3 (by decide) (by decide))
      have hti2 : TrIn w2 o1 := (HD2.out.room (k := 0) ((HT.out.grew ka).less (by have := ent_len (n := n); omega))).1
      have hroom4 : TrRoom ((((w3.setCell ⟨bM, 0, none⟩ (.slice ao' n mc')).setCell ⟨bM, 1, none⟩ (.int .u64 (K' : Int))).setCell ⟨bM, 2, none⟩ (.slice bo' n rc'))) o1 rm := d4.room (HT.out.less (by have := ent_len (n := n); simp only [List.nil_append]; omega))
      have hne4 : ∀ v : Value, Fresh w2 v → ∀ b, v.ownBlock = some b → ¬ b = bM := fun v hF b hb e => by have := hF b hb; omega
      have hM4 : Mod8 ((((w3.setCell ⟨bM, 0, none⟩ (.slice ao' n mc')).setCell ⟨bM, 1, none⟩ (.int .u64 (K' : Int))).setCell ⟨bM, 2, none⟩ (.slice bo' n rc'))) o1 ao' bo' n n K' mc' rc' ms' rs' := ⟨fresh_rowT s9 hti2 (s1.kept kp (hne4 _ s9)), fresh_rowT s10 hti2 (s2.kept kp (hne4 _ s10)), s3, s4, s5, s6⟩
      have hA4 : MonAt ((((w3.setCell ⟨bM, 0, none⟩ (.slice ao' n mc')).setCell ⟨bM, 1, none⟩ (.int .u64 (K' : Int))).setCell ⟨bM, 2, none⟩ (.slice bo' n rc'))) (.slice yo' n yc') n (val 18446744073709551616 ms') 0 := ⟨by rw [mon_zero, digs_zero]; exact s7.kept kp (hne4 _ s11), s8.kept kp (hne4 _ s11)⟩
      have k4 := (HD3.out.kept.mono (T := fun b => b = bM ∨ trFoot o b) (fun _ _ f => .inr f)).next kp (fun x _ e => .inl e)
      have hF4 : Fresh w (.slice yo' n yc') := fun b hb => Nat.le_trans HD2.out.size (s11 b hb)
      have hDo := HDO.out _ _ o1 ao' bo' yo' n K' mc' rc' yc' ms' rs' 0 d4 hroom4 hM4 hA4 hF4 k4 hL3.2
      have JO4 : Hid (∀ W m o', Did ((((w3.setCell ⟨bM, 0, none⟩ (.slice ao' n mc')).setCell ⟨bM, 1, none⟩ (.int .u64 (K' : Int))).setCell ⟨bM, 2, none⟩ (.slice bo' n rc'))) o1 m W o' → Box W bO (.slice none 0 0) 35 ∧ Box W bX (.int .i64 0) 29) := fun W m o' d => by
        obtain ⟨hO3, hX3⟩ := JO.out _ _ _ HD3.out
        exact ⟨(hO3.kept kp (by omega)).did d hroom4.1 (by decide) (by decide), (hX3.kept kp (by omega)).did d hroom4.1 (by decide) (by decide)⟩
      have hq3 : ((((w3.setCell ⟨bM, 0, none⟩ (.slice ao' n mc')).setCell ⟨bM, 1, none⟩ (.int .u64 (K' : Int))).setCell ⟨bM, 2, none⟩ (.slice bo' n rc'))).cell? ⟨bF, 0, none⟩ = some (.func (.func f) #[] fcap) := HFB.out _ kp _ HD3.out
      have HD4 := toHid d4
      have HSz : Hid (w.heap.size ≤ ((((w3.setCell ⟨bM, 0, none⟩ (.slice ao' n mc')).setCell ⟨bM, 1, none⟩ (.int .u64 (K' : Int))).setCell ⟨bM, 2, none⟩ (.slice bo' n rc'))).heap.size) := k4.size
      clear hSt s1 s2 s3 s4 s5 s6 s7 s8 s9 s10 s11 k3 kp hMb hMb4 d4 hroom4 hM4 hA4 k4 hF4 hne4 hti2 hti3
      go_wp2_with fail
      generalize ((((w3.setCell ⟨bM, 0, none⟩ (.slice ao' n mc')).setCell ⟨bM, 1, none⟩ (.int .u64 (K' : Int))).setCell ⟨bM, 2, none⟩ (.slice bo' n rc'))) = w4 at *
      refine hDo.mono ?_
      rintro e w5 ⟨vo, vn, vc, rfl, _, o5, d5⟩
      have hR1 := wRefuseYes 1 (by omega) w5
      clear hDo
      go_wp2_with fail
      refine hR1.mono ?_
      rintro e w6 ⟨rfl, rfl⟩
      obtain ⟨hO3, hX3⟩ := JO4.out _ _ _ d5
      exact ⟨rfl, .inr ⟨1, .inl ⟨by first | rfl | trivial, rfl⟩, rfl, _, o5, ⟨HD4.out.trans d5, by have := ent_len (n := n); simp only [List.nil_append, List.length_append] at this ⊢; omega, hX3, hO3, Nat.le_trans HSz.out d5.size⟩⟩⟩
    · have HLf : Hid (∀ W, Calls Tryz.prog 51 #[.agg #[.slice ao n mcap, .int .u64 (K : Int), .slice bo l rcap], .slice eo L ecap] W fun e w' => e = .returned (.bool false) ∧ Kept Nought W w') := fun W => by
        have := HL W
        rwa [decide_eq_false hL3] at this
      clear ht hm hr hx hmd hrd hdx hK hnb hT hM hA hB hF hO hX hdo hG hE hE1 HL hpo
      go_enter Tryz.func62, Tryz.ntmps62
      go_wp2_with fail
      refine hEn.mono ?_
      rintro e w1 ⟨v1, rfl, ⟨Y, hR1, _⟩, _, o1, d1⟩
      obtain ⟨zo, zn, zc, rfl, _, _, _, _, _⟩ := hR1.open
      obtain ⟨q0, q1, q2, q3⟩ := JC.out _ _ _ d1
      obtain ⟨r0, r1, r2⟩ := cells3 (JM.out _ _ _ d1)
      have HD1 := toHid d1
      clear hEn c0 c1 c2 c3 p0 p1 p2 d1 hR1
      go_wp2_with fail
      refine (HLf.out w1).mono ?_
      rintro e w2 ⟨rfl, k2⟩
      have HD2 := toHid (HD1.out.grew k2)
      have hR1 := wRefuseYes 1 (by omega) w2
      clear k2 q0 q1 q2 q3 r0 r1 r2
      go_wp2_with fail
      refine hR1.mono ?_
      rintro e w3 ⟨rfl, rfl⟩
      obtain ⟨hO3, hX3⟩ := JO.out _ _ _ HD2.out
      exact ⟨rfl, .inr ⟨1, .inl ⟨by first | rfl | trivial, rfl⟩, rfl, _, o1, ⟨did_base h0 HD2.out, by have := ent_len (n := n); simp only [List.nil_append]; omega, hX3, hO3, HD2.out.size⟩⟩⟩

end Go.Proofs.YtoieghgaahfciaaGreat
