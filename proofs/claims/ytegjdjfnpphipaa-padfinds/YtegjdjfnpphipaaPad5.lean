/- Package pad: message, Decode, of any trace. -/
import Derived.Test.YtegjdjfnpphipaaPad4
import Derived.Test.YtegjdjfnpphipaaLaw23
namespace Go.Proofs.Ytegjdjfnpphipaa
open Go.RowKit

/-- What Unpad answers, by what Find finds. -/
theorem un_of {em : List Nat} {a : Nat} {F : Bool} (h1 : 11 ≤ em.length) (h2 : em.length ≤ 1024) (h : FndR em 0 2 (-1) a (bN F)) :
    ((em.take 2 = [0, 2] ∧ F = true ∧ ¬ a < 10) → unE em = 0 ∧ em.drop (a + 1) = unL em ∧ a + 1 ≤ em.length) ∧ (¬ (em.take 2 = [0, 2] ∧ F = true ∧ ¬ a < 10) → unE em = 230) := by
  match em, h1, h2, h with
  | x :: y :: l, h1, h2, h =>
    have hd : (x :: y :: l).drop 2 = l := rfl
    have ht : (x :: y :: l).take 2 = [0, 2] ↔ x = 0 ∧ y = 2 := by simp
    have g0 : (x :: y :: l).getD 0 0 = x := rfl
    have g1 : (x :: y :: l).getD 1 0 = y := rfl
    have gj : ∀ j, (x :: y :: l).getD (j + 2) 0 = l.getD j 0 := fun j => by simp
    have hlen : (x :: y :: l).length = l.length + 2 := rfl
    rcases h with ⟨hs, k1, k2, k3, k4, k5⟩ | ⟨hs, k1, k5⟩
    · have hF : F = true := by
        cases F
        · exact absurd hs (by decide)
        · rfl
      subst hF
      obtain ⟨b, rfl⟩ : ∃ b, a = b + 2 := ⟨a - 2, by omega⟩
      have hf : fstC 0 l = b := fstC_at (by omega) (by rw [← gj]; exact k4) (fun j hj => by rw [← gj]; exact k5 (j + 2) (by omega) (by omega) (by omega))
      unfold unL unE
      rw [hd, hf, g0, g1, ht]
      constructor
      · rintro ⟨⟨rfl, rfl⟩, _, h10⟩
        rw [if_neg (by omega), if_pos rfl]
        exact ⟨rfl, rfl, by omega⟩
      · intro hn
        rw [if_pos]
        by_cases e1 : x = 0
        · by_cases e2 : y = 2
          · exact .inr (.inl (Decidable.byContradiction fun e3 => hn ⟨⟨e1, e2⟩, rfl, by omega⟩))
          · exact .inl (.inr (.inr (.inr e2)))
        · exact .inl (.inr (.inr (.inl e1)))
    · have hF : F = false := by
        cases F
        · rfl
        · exact absurd hs (by decide)
      subst hF
      have hf : fstC 0 l = l.length := fstC_none (fun j hj => by rw [← gj]; exact k5 (j + 2) (by omega) (by omega) (by omega))
      refine ⟨fun e => absurd e.2.1 (by decide), fun _ => ?_⟩
      unfold unE
      rw [hd, hf, if_pos (.inr (.inr (by omega)))]

/-- head, wherever it is called. -/
theorem kHeadR (w W : World) (k : Kept Nought w W) : Calls Try.prog 25 #[] W fun e W' => ∃ g, e = .returned (.slice (some ⟨g, 0, none⟩) 2 2) ∧ Row .u8 W' (.slice (some ⟨g, 0, none⟩) 2 2) [0, 2] ∧ w.heap.size ≤ g ∧ Kept Nought w W' := by
  refine (kHead W).mono ?_
  rintro e W' ⟨rfl, rfl⟩
  refine ⟨_, rfl, Row.of_own (base := W.heap.size) (e := 5) (World.ownsRow_lit W #[.int .u8 0, .int .u8 2] 2 (Nat.le_refl _) (by unfold maxLen; omega) rfl), k.size, k.alloc _⟩

set_option maxRecDepth 20000 in
set_option maxHeartbeats 2000000 in
/-- message. -/
theorem kMsg (o : Tr) (mo : Option Addr) (M mc : Nat) (em : List Nat) (w : World) (ht : TrRoom w o 2) (h : RowB w o (.slice mo M mc) em) (hd : Digs 256 em) (hM1 : 11 ≤ M) (hM : M ≤ 1024) :
    Calls Try.prog 27 #[trPtr o, .slice mo M mc] w fun e w' => ∃ a r, e = .returned (.tuple #[.int .i64 ((a : Nat) : Int), .int .u64 ((r : Nat) : Int)]) ∧ ((unE em = 0 ∧ r = 1 ∧ a ≤ M ∧ em.drop a = unL em) ∨ (unE em = 230 ∧ r = 0)) ∧ ∃ o', Did w o [(1, 2, 0), (1, (M : Int), 0)] w' o' := by
  obtain ⟨_, _, _, e1, hML, hMc, hcm, hnn, hnum⟩ := h.1.open
  cases e1
  obtain ⟨bb, off, rfl, _⟩ := hnum 0 (by omega)
  have hTk : Row .u8 w (.slice (some ⟨bb, off, none⟩) 2 mc) (em.take 2) := by
    have := row_part (s := 0) (m := 2) h.1 (by omega)
    simpa using this
  have hne : em ≠ [] := fun e => by
    have := hML.out
    rw [e] at this
    simp at this
    omega
  have hTl : (em.take 2).length = 2 := by
    have := hML.out
    rw [List.length_take]
    omega
  obtain ⟨R, hR⟩ : ∃ R, R = decide (em.take 2 = [0, 2]) := ⟨_, rfl⟩
  have hRR : bN R = if em.take 2 = [0, 2] then 1 else 0 := by
    rw [hR]
    by_cases e : em.take 2 = [0, 2]
    · rw [decide_eq_true e, if_pos e]
      rfl
    · rw [decide_eq_false e, if_neg e]
      rfl
  have JH := toHid fun W (k : Kept Nought w W) => kHeadR w W k
  have JE : Hid (∀ W g, Kept Nought w W → Row .u8 W (.slice (some ⟨g, 0, none⟩) 2 2) [0, 2] → w.heap.size ≤ g → Calls Try.prog 18 #[trPtr o, .slice (some ⟨bb, off, none⟩) 2 mc, .slice (some ⟨g, 0, none⟩) 2 2] W fun e w' => e = .returned (.int .u64 ((bN R : Nat) : Int)) ∧ ∃ o', Did w o [(1, 2, 0)] w' o') := fun W g k hr hg => by
    refine (kEqual o _ _ 2 mc 2 2 (em.take 2) [0, 2] (bN R) W hRR (ht.1.grew k) ⟨hTk.grew k, fun _ b hb f => h.2 hne b hb f⟩ ⟨hr, fun _ b hb f => ?_⟩ (hd.take 2) (fun d hd => by simp at hd; omega) (by omega) (by omega)).mono ?_
    · have e : g = b := by simpa [Value.ownBlock] using hb
      have := ht.1.foot b f
      omega
    · rintro e w' ⟨rfl, o', d⟩
      exact ⟨rfl, o', d.after k⟩
  have JF : Hid (∀ W o1, Did w o [(1, 2, 0)] W o1 → Calls Try.prog 17 #[trPtr o, .slice (some ⟨bb, off, none⟩) M mc, .int .u8 0, .int .i64 2] W fun e w' => ∃ a s, e = .returned (.tuple #[.int .i64 ((a : Nat) : Int), .int .u64 ((s : Nat) : Int)]) ∧ FndR em 0 2 (-1) a s ∧ ∃ o', Did w o [(1, 2, 0), (1, (M : Int), 0)] w' o') := fun W o1 d => by
    have ht1 := d.room (k := 1) ht
    rw [← d.ptr]
    refine (kFind o1 _ M mc em 0 2 W ht1.1 ⟨h.did d, fun hn b hb f => ?_⟩ hd (by omega) (by omega) (by omega) (by omega)).mono ?_
    · have hlt := h.1.lt hn b hb
      exact h.2 hn b hb (d.foot hlt f)
    · rintro e w' ⟨a, s, rfl, hF, o', d'⟩
      exact ⟨a, s, rfl, hF, o', d.trans d'⟩
  have HUN : Hid (∀ a F, FndR em 0 2 (-1) a (bN F) → ((em.take 2 = [0, 2] ∧ F = true ∧ ¬ a < 10) → unE em = 0 ∧ em.drop (a + 1) = unL em ∧ a + 1 ≤ em.length) ∧ (¬ (em.take 2 = [0, 2] ∧ F = true ∧ ¬ a < 10) → unE em = 230)) := fun a F hf => un_of (by rw [hML.out]; exact hM1) (by rw [hML.out]; exact hM) hf
  have HML := toHid hML.out
  have HRD := toHid hR
  have gc : (2 : Int) ≤ (mc : Int) := by omega
  have HA : Hid (∀ a s, FndR em 0 2 (-1) a s → a ≤ M ∧ ∃ F : Bool, s = bN F) := fun a s hf => by
    rcases hf with ⟨rfl, h1, _⟩ | ⟨rfl, h1, _⟩
    · exact ⟨by have := hML.out; omega, true, rfl⟩
    · exact ⟨by have := hML.out; omega, false, rfl⟩
  clear h hd ht hML hnn hnum hTk hR hRR hne hTl
  generalize trPtr o = tp at *
  go_enter Try.func27, Try.ntmps27
  go_wp2_with fail
  go_region_held3 (fun _ => True) (trivial)
    (first
    | (go_at_call 25; refine (JH.out _ ?_).mono ?_; (first | exact (Kept.refl _ _).drew | exact Kept.refl _ _); rintro e w1 ⟨g, rfl, hr1, hg1, k1⟩)
    | (go_at_call 18; refine (JE.out _ g k1 hr1 hg1).mono ?_; rintro e w2 ⟨rfl, o2, d2⟩))
  all_goals
    have J3 := JF.out w2 o2 d2
    clear d2 hr1 k1
    go_wp2_with fail
    refine J3.mono ?_
    rintro e w3 ⟨a, s, rfl, hf, o3, d3⟩
    obtain ⟨ha, F, rfl⟩ := HA.out a s hf
    have HUA := toHid (HUN.out a F hf)
    have HD3 := toHid d3
    have ga : IntKind.u64.wrap (a : Int) = (a : Int) := by rw [IntKind.wrap_u64]; omega
    have J4 := wLess (a : Int) 10 (by omega) (by omega) (by omega) w3
    rw [show (10 : Int) = ((10 : Nat) : Int) from rfl, bor_bN] at J4
    obtain ⟨X, hX⟩ : ∃ X, X = decide (a < 10) := ⟨_, rfl⟩
    rw [← hX] at J4
    have HXD := toHid hX
    have x1 := xor_bN X
    have x2 := and_bN R F
    have x3 := and_bN (R && F) (!X)
    obtain ⟨a1, ha1⟩ : ∃ a1, a1 = a + 1 := ⟨_, rfl⟩
    have gap : (a : Int) + 1 = (a1 : Int) := by omega
    have HA1 := toHid ha1
    clear J3 hf d3 hX ha1
    go_wp2_with fail
    refine J4.mono ?_
    rintro e w4 ⟨rfl, rfl⟩
    clear J4
    go_wp2_with fail
    go_ret2
    refine ⟨a1, bN (R && F && !X), by first | rfl | (rw [x2, x3]), ?_, o3, HD3.out⟩
    have hu := HUA.out
    by_cases hall : em.take 2 = [0, 2] ∧ F = true ∧ ¬ a < 10
    · obtain ⟨h1, h2, h3⟩ := hu.1 hall
      refine .inl ⟨h1, ?_, by have := HML.out; have := HA1.out; omega, by rw [HA1.out]; exact h2⟩
      rw [HRD.out, HXD.out, decide_eq_true hall.1, hall.2.1, decide_eq_false hall.2.2]
      rfl
    · refine .inr ⟨hu.2 hall, ?_⟩
      have e : (R && F && !X) = false := by
        by_cases e1 : em.take 2 = [0, 2]
        · cases F
          · rw [Bool.and_false, Bool.false_and]
          · rw [HXD.out, decide_eq_true (show a < 10 from Decidable.byContradiction fun e2 => hall ⟨e1, rfl, e2⟩), Bool.not_true, Bool.and_false]
        · rw [HRD.out, decide_eq_false e1, Bool.false_and, Bool.false_and]
      rw [e]
      rfl

/-- What Decode writes down. -/
def decEv (M : Nat) : List Ev := if 11 ≤ M ∧ M ≤ 1024 then [(1, 2, 0), (1, (M : Int), 0)] else []

theorem addr_add (b off a : Nat) : (⟨b, off, none⟩ : Addr).add a = ⟨b, off + a, none⟩ := by
  unfold Addr.add
  by_cases h : a = 0
  · subst h
    rfl
  · rw [if_neg h]

set_option maxRecDepth 20000 in
set_option maxHeartbeats 2000000 in
/-- Decode. -/
theorem kDec (o : Tr) (mo : Option Addr) (M mc : Nat) (em : List Nat) (w : World) (ht : TrRoom w o 2) (h : RowB w o (.slice mo M mc) em) (hd : Digs 256 em) :
    Calls Try.prog 15 #[trPtr o, .slice mo M mc] w fun e w' => ∃ u, e = .returned (.tuple #[u, .int .i64 (unE em : Nat)]) ∧ (Row .u8 w' u (unL em) ∧ ∀ b, u.ownBlock = some b → w.heap.size ≤ b) ∧ ∃ o', Did w o (decEv M) w' o' := by
  obtain ⟨_, _, _, e1, hML, hMc, hcm, hnn, hnum⟩ := h.1.open
  cases e1
  by_cases hM : 11 ≤ M ∧ M ≤ 1024
  · obtain ⟨hM1, hM2⟩ := hM
    have hev : decEv M = [(1, 2, 0), (1, (M : Int), 0)] := if_pos ⟨hM1, hM2⟩
    rw [hev]
    have a1 : ¬ (M : Int) < 11 := by omega
    have a2 : ¬ (M : Int) > 1024 := by omega
    have a3 : ¬ (1024 : Int) < (M : Int) := a2
    have J := kMsg o mo M mc em w ht h hd hM1 hM2
    obtain ⟨bb, off, rfl, _⟩ := hnum 0 (by omega)
    have HROW : Hid (∀ W o', Did w o [(1, 2, 0), (1, (M : Int), 0)] W o' → Row .u8 W (.slice (some ⟨bb, off, none⟩) M mc) em) := fun W o' d => h.did d
    have HML := toHid hML.out
    clear h hd ht hML hnn hnum hev hM1
    generalize trPtr o = tp at *
    go_enter Try.func15, Try.ntmps15
    go_wp2_with fail
    refine J.mono ?_
    rintro e w1 ⟨a, r, rfl, hr, o1, d1⟩
    have HD1 := toHid d1
    rcases hr with ⟨hz, rfl, ha, hdr⟩ | ⟨hz, rfl⟩
    · have hrow := HROW.out w1 o1 d1
      have hcut := row_cut (s := a) (m := M - a) hrow (by omega)
      have hall : (em.drop a).take (M - a) = unL em := by
        rw [← hdr]
        exact List.take_of_length_le (by rw [List.length_drop, HML.out]; exact Nat.le_refl _)
      rw [hall] at hcut
      have hZ : (unL em).length = M - a := by rw [← hdr, List.length_drop, HML.out]
      have HZ := toHid hz
      have hs1 := d1.size
      by_cases hc : mc = a
      · subst hc
        have hr0 := hcut.2.1 _ rfl rfl
        obtain rfl : M = mc := by omega
        have JL := kLen _ (unL em) 0 w1 hr0 (by omega) (by omega)
        rw [hZ, Nat.sub_self, Nat.sub_self, List.replicate_zero, List.append_nil] at JL
        clear J d1 hdr hrow hcut hall hz hZ
        go_wp2_with fail
        refine JL.mono ?_
        rintro e w2 ⟨u, rfl, ho, k2⟩
        have HO := toHid ho
        have HDD := toHid (HD1.out.grew k2)
        clear JL ho k2
        go_wp2_with fail
        go_ret2
        exact ⟨_, by rw [HZ.out]; rfl, ⟨HO.out.row, fun b hb => Nat.le_trans hs1 (HO.out.lt b hb).1⟩, o1, HDD.out⟩
      · have hr0 := hcut.2.2 _ rfl hc
        have JL := kLen _ (unL em) (M - a) w1 hr0 (by omega) (by omega)
        rw [hZ, Nat.sub_self, List.replicate_zero, List.append_nil] at JL
        rw [show (⟨bb, off, none⟩ : Addr).add a = ⟨bb, off + a, none⟩ from addr_add bb off a] at JL
        have hcne : ¬ (mc : Int) = (a : Int) := by omega
        clear J d1 hdr hrow hcut hall hz hZ hr0
        go_wp2_with fail
        refine JL.mono ?_
        rintro e w2 ⟨u, rfl, ho, k2⟩
        have HO := toHid ho
        have HDD := toHid (HD1.out.grew k2)
        clear JL ho k2
        go_wp2_with fail
        go_ret2
        exact ⟨_, by rw [HZ.out]; rfl, ⟨HO.out.row, fun b hb => Nat.le_trans hs1 (HO.out.lt b hb).1⟩, o1, HDD.out⟩
    · have e2 : unL em = [] := by unfold unL; rw [hz]; rfl
      have HE2 := toHid e2
      have HZ := toHid hz
      clear J d1 e2
      go_wp2_with fail
      go_ret2
      exact ⟨_, by rw [HZ.out]; rfl, ⟨by rw [HE2.out]; exact Row.nil _ _, fun b hb => by cases hb⟩, o1, HD1.out⟩
  · have e1 : unE em = 230 := by
      unfold unE
      rw [if_pos (.inl (by rw [hML.out]; omega))]
    have e2 : unL em = [] := by unfold unL; rw [e1]; rfl
    have e3 : decEv M = [] := if_neg hM
    rw [e1, e2, e3]
    have HD := toHid (Did.of_kept (Kept.refl Nought w) ht.1)
    clear e1 e2 e3 h hd ht hML hnn hnum
    generalize trPtr o = tp at *
    by_cases h1 : M < 11
    · have g1 : (M : Int) < 11 := by omega
      clear hM
      go_enter Try.func15, Try.ntmps15
      go_wp2_with fail
      go_ret2
      exact ⟨_, rfl, ⟨Row.nil _ _, fun b hb => by cases hb⟩, o, HD.out⟩
    · have g1 : ¬ (M : Int) < 11 := by omega
      have g2 : (M : Int) > 1024 := by omega
      have g3 : (1024 : Int) < (M : Int) := g2
      clear hM
      go_enter Try.func15, Try.ntmps15
      go_wp2_with fail
      go_ret2
      exact ⟨_, rfl, ⟨Row.nil _ _, fun b hb => by cases hb⟩, o, HD.out⟩

/-- Decode, with no trace. -/
theorem kDecD : DDec := by
  intro mo M mc em w hr hd hM
  refine (kDec none mo M mc em w (TrRoom.none w 2 (by omega)) (RowB.none hr) hd).mono ?_
  rintro e w' ⟨u, rfl, h1, o', d⟩
  exact ⟨u, rfl, h1, d.none.2⟩

end Go.Proofs.Ytegjdjfnpphipaa
