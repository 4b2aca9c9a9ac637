/- Package script: take, Read. -/
import Derived.Test.YtegjdjfnpphipaaLsc1
import Derived.Test.YtegjdjfnpphipaaCut0
namespace Go.Proofs.Ytegjdjfnpphipaa
open Go.RowKit

set_option maxRecDepth 20000 in
set_option maxHeartbeats 1000000 in
/-- take of a script that nobody made. -/
theorem xTakeNil (B n : Nat) (w : World) :
    Calls Try.prog 39 #[.pointer none, .int .i64 (n : Int)] w fun e w' => ∃ u, e = .returned (.tuple #[u, .int .i64 (readE [] n : Nat)]) ∧ Row .u8 w' u (readL [] n) ∧ Lsc w' none B (readR [] n) ∧ Kept (ofP none) w w' := by
  have hR : readR [] (n : Int) = [] := by unfold readR; split <;> simp
  have hL : readL [] (n : Int) = [] := by unfold readL; split <;> simp
  rw [hR, hL]
  have J := xNew (.slice none 0 0) [] w (Row.nil _ _) (by simp)
  by_cases h0 : n = 0
  · subst h0
    have hE : readE [] ((0 : Nat) : Int) = 0 := rfl
    rw [hE]
    clear hE hR hL
    go_enter Try.func39, Try.ntmps39
    go_wp2_with fail
    refine J.mono ?_
    rintro e w1 ⟨b, rfl, hb, h1, k1⟩
    have J2 := xLeft _ _ _ w1 h1
    have HK1 := toHid k1
    have H1 := toHid h1
    clear J k1 h1
    go_wp2_with fail
    refine J2.mono ?_
    rintro e w2 ⟨rfl, k2⟩
    have HK2 := toHid (HK1.out.trans k2)
    have h2 := H1.out.grew k2
    rcases h2 with ⟨e, _⟩ | ⟨b', v, ps, k, e, ed, h2⟩
    · cases e
    cases e
    obtain ⟨c0, c1⟩ := h2.cells
    have f1 := h2.free
    have h3 := h2.put k h2.2.2.1
    obtain ⟨d0, d1⟩ := h3.cells
    have hkb := h2.2.2.2.1
    have hkl : k = ps.length := by
      have e1 := congrArg List.length ed
      rw [List.length_drop] at e1
      have e2 := h2.2.2.1
      have e3 : ([] : List Nat).length = 0 := rfl
      omega
    obtain ⟨ao, L, cap, rfl, hL, hLc, hcm, hnn, hnum⟩ := h2.2.1.open
    obtain rfl : k = L := hkl.trans hL.out
    have HK3 : Hid (Kept (ofP none) w (w2.setCell ⟨b, 1, none⟩ (.int .i64 (k : Nat)))) := (HK2.out.any (S := ofP none)).setCell _ (fun h => absurd h (by show ¬ b < w.heap.size; omega)) _
    have g1 : (k : Int) + 0 = (k : Int) := by omega
    have g0 : (0 : Int) ≤ (k : Int) := by omega
    have g2 : (k : Int) ≤ (cap : Int) := by omega
    have hkb2 : k ≤ 1000000 := by omega
    have HN := toHid hnn
    have HB := toHid hb
    clear J2 h2 h3 k2 hnum hnn HK1 HK2 H1 ed hkl hL hkb hb
    cases ao with
    | none =>
      obtain rfl := HN.out rfl
      obtain rfl : k = 0 := by omega
      go_wp2_with fail
      go_quiet (fail)
      go_wp2_with fail
      go_ret2
      exact ⟨_, rfl, Row.nil _ _, .inl ⟨rfl, rfl⟩, HK3.out.drewN _⟩
    | some ad =>
      by_cases hck : cap = k
      · subst hck
        go_wp2_with fail
        go_quiet (fail)
        go_wp2_with fail
        go_ret2
        exact ⟨_, rfl, row_empty (fun e => by cases e) (by unfold maxLen at *; omega), .inl ⟨rfl, rfl⟩, HK3.out.drewN _⟩
      · go_wp2_with fail
        go_quiet (fail)
        go_wp2_with fail
        go_ret2
        exact ⟨_, rfl, row_empty (fun e => by cases e) (by unfold maxLen at *; omega), .inl ⟨rfl, rfl⟩, HK3.out.drewN _⟩
  · have hE : readE [] (n : Int) = 150 := by unfold readE; rw [if_neg (by omega), if_pos (by simp; omega)]
    rw [hE]
    have g1 : (n : Int) > ((0 : Nat) : Int) := by omega
    have g2 : ((0 : Nat) : Int) < (n : Int) := by omega
    have g3 : (0 : Int) < (n : Int) := by omega
    clear hE hR hL
    go_enter Try.func39, Try.ntmps39
    go_wp2_with fail
    refine J.mono ?_
    rintro e w1 ⟨b, rfl, hb, h1, k1⟩
    have J2 := xLeft _ _ _ w1 h1
    have HK1 := toHid k1
    have H1 := toHid h1
    clear J k1 h1
    go_wp2_with fail
    refine J2.mono ?_
    rintro e w2 ⟨rfl, k2⟩
    have HK2 := toHid (HK1.out.trans k2)
    have h2 := H1.out.grew k2
    rcases h2 with ⟨e, _⟩ | ⟨b', v, ps, k, e, ed, h2⟩
    · cases e
    cases e
    obtain ⟨c0, c1⟩ := h2.cells
    have f1 := h2.free
    obtain ⟨ao, L, cap, rfl, hL, hLc, hcm, hnn, hnum⟩ := h2.2.1.open
    have HK3 : Hid (Kept (ofP none) w (w2.setCell ⟨b, 1, none⟩ (.int .i64 (L : Nat)))) := (HK2.out.any (S := ofP none)).setCell _ (fun h => absurd h (by show ¬ b < w.heap.size; omega)) _
    clear J2 h2 k2 hnum hnn HK1 HK2 H1 ed
    go_wp2_with fail
    go_ret2
    exact ⟨_, rfl, Row.nil _ _, .inl ⟨rfl, rfl⟩, HK3.out⟩

set_option maxRecDepth 20000 in
set_option maxHeartbeats 1000000 in
/-- take of a script in memory. -/
theorem xTakeB (b B n k : Nat) (v : Value) (ps : List Nat) (w : World) (h : LscB w b B v ps k) :
    Calls Try.prog 39 #[.pointer (some ⟨b, 0, none⟩), .int .i64 (n : Int)] w fun e w' => ∃ u, e = .returned (.tuple #[u, .int .i64 (readE (ps.drop k) n : Nat)]) ∧ Row .u8 w' u (readL (ps.drop k) n) ∧ Lsc w' (some ⟨b, 0, none⟩) B (readR (ps.drop k) n) ∧ Kept (fun x => x = b) w w' := by
  have J := xLeft _ _ _ w h.lsc
  have H := toHid h
  obtain ⟨ao, L, cap, rfl, hL, hLc, hcm, hnn, hnum⟩ := h.2.1.open
  have hkL : k ≤ L := by rw [← hL.out]; exact h.2.2.1
  have hLb : L ≤ 1000000 := by rw [← hL.out]; exact h.2.2.2.1
  have hd : (ps.drop k).length = L - k := by rw [List.length_drop, hL.out]
  rw [hd] at J
  obtain ⟨d, hdd⟩ : ∃ d, d = L - k := ⟨_, rfl⟩
  rw [← hdd] at J hd
  by_cases h1 : d < n
  · have e1 : readE (ps.drop k) (n : Int) = 150 := by unfold readE; rw [if_neg (by omega), if_pos (by omega)]
    have e2 : readL (ps.drop k) (n : Int) = [] := by unfold readL; rw [e1]; rfl
    have e3 : readR (ps.drop k) (n : Int) = ps.drop ps.length := by
      unfold readR
      rw [if_neg (by omega), List.drop_of_length_le (by rw [hd]; show d ≤ ((n : Int)).toNat; omega), List.drop_of_length_le (Nat.le_refl _)]
    rw [e1, e2, e3]
    have g1 : (n : Int) > (d : Int) := by omega
    have g2 : (d : Int) < (n : Int) := by omega
    have HPL := toHid hL.out
    clear e1 e2 e3 h hnum hnn hdd hd hL
    go_enter Try.func39, Try.ntmps39
    go_wp2_with fail
    refine J.mono ?_
    rintro e w1 ⟨rfl, k1⟩
    have H1 := toHid (H.out.kept k1 (fun _ _ f => f))
    obtain ⟨c0, c1⟩ := H1.out.cells
    have f1 := H1.out.free
    have HP := toHid (H1.out.put L (by rw [HPL.out]; exact Nat.le_refl _))
    have HK := toHid ((k1.any (S := fun x => x = b)).setCell ⟨b, 1, none⟩ (fun _ => rfl) (.int .i64 (L : Nat)))
    clear J k1
    go_wp2_with fail
    go_ret2
    exact ⟨_, rfl, Row.nil _ _, by rw [HPL.out]; exact HP.out.lsc, HK.out⟩
  · have e1 : readE (ps.drop k) (n : Int) = 0 := by unfold readE; rw [if_neg (by omega), if_neg (by omega)]
    have e2 : readL (ps.drop k) (n : Int) = (ps.drop k).take n := by unfold readL; rw [e1]; rfl
    have e3 : readR (ps.drop k) (n : Int) = ps.drop (k + n) := by
      unfold readR
      rw [if_neg (by omega), List.drop_drop]
      rfl
    rw [e1, e2, e3]
    obtain ⟨m, hm⟩ : ∃ m, m = k + n := ⟨_, rfl⟩
    rw [← hm]
    have g1 : ¬ (n : Int) > (d : Int) := by omega
    have g2 : ¬ (d : Int) < (n : Int) := by omega
    have g3 : (k : Int) + (n : Int) = (m : Int) := by omega
    have g4 : (k : Int) ≤ (m : Int) := by omega
    have g5 : (m : Int) ≤ (cap : Int) := by omega
    have g6 : (0 : Int) ≤ (k : Int) := by omega
    have g7 : m - k = n := by omega
    have hmL : m ≤ L := by omega
    have hmc : m ≤ cap := by omega
    have hkm : k ≤ m := by omega
    have HPL := toHid hL.out
    have hkb : k ≤ 1000000 := by omega
    have hmb : m ≤ 1000000 := by omega
    have HN := toHid hnn
    have HLE := toHid (show k + n ≤ L by omega)
    clear e1 e2 e3 h hnum hdd hd hL hm
    go_enter Try.func39, Try.ntmps39
    go_wp2_with fail
    refine J.mono ?_
    rintro e w1 ⟨rfl, k1⟩
    have H1 := toHid (H.out.kept k1 (fun _ _ f => f))
    obtain ⟨c0, c1⟩ := H1.out.cells
    have f1 := H1.out.free
    have HP := toHid (H1.out.put m (by rw [HPL.out]; exact hmL))
    obtain ⟨d0, d1⟩ := HP.out.cells
    have HK := toHid ((k1.any (S := fun x => x = b)).setCell ⟨b, 1, none⟩ (fun _ => rfl) (.int .i64 (m : Nat)))
    have HC := toHid (row_cut HP.out.2.1 HLE.out)
    clear J k1
    cases ao with
    | none =>
      obtain rfl := HN.out rfl
      obtain rfl : L = 0 := by omega
      obtain rfl : m = 0 := by omega
      obtain rfl : k = 0 := by omega
      obtain rfl : n = 0 := by omega
      have HC2 := toHid (HC.out.1 rfl)
      clear HC hnn
      go_wp2_with fail
      go_quiet (fail)
      go_wp2_with fail
      go_ret2
      exact ⟨_, rfl, HC2.out.kept' (S := Nought) ((Kept.refl _ _).drewN _) (fun _ _ _ f => f), HP.out.lsc.grew ((Kept.refl _ _).drewN _), HK.out.drewN _⟩
    | some ad =>
      by_cases hck : cap = k
      · have HC2 := toHid (HC.out.2.1 ad rfl hck)
        obtain rfl : m = k := by omega
        obtain rfl : n = 0 := by omega
        subst hck
        clear HC hnn
        go_wp2_with fail
        go_quiet (fail)
        go_wp2_with fail
        go_ret2
        exact ⟨_, rfl, HC2.out.kept' (S := Nought) ((Kept.refl _ _).drewN _) (fun _ _ _ f => f), HP.out.lsc.grew ((Kept.refl _ _).drewN _), HK.out.drewN _⟩
      · have HC2 := toHid (HC.out.2.2 ad rfl hck)
        clear HC hnn
        go_wp2_with fail
        go_quiet (fail)
        go_wp2_with fail
        go_ret2
        exact ⟨_, rfl, HC2.out.kept' (S := Nought) ((Kept.refl _ _).drewN _) (fun _ _ _ f => f), HP.out.lsc.grew ((Kept.refl _ _).drewN _), HK.out.drewN _⟩

/-- take: any script. -/
theorem xTake (p : Option Addr) (B n : Nat) (bs : List Nat) (w : World) (h : Lsc w p B bs) :
    Calls Try.prog 39 #[.pointer p, .int .i64 (n : Int)] w fun e w' => ∃ u, e = .returned (.tuple #[u, .int .i64 (readE bs n : Nat)]) ∧ Row .u8 w' u (readL bs n) ∧ Lsc w' p B (readR bs n) ∧ Kept (ofP p) w w' := by
  rcases h with ⟨rfl, rfl⟩ | ⟨b, v, ps, k, rfl, rfl, h⟩
  · exact xTakeNil B n w
  · refine (xTakeB b B n k v ps w h).mono ?_
    rintro e w' ⟨u, he, h1, h2, h3⟩
    exact ⟨u, he, h1, h2, h3.mono fun x _ e => by cases e; rfl⟩

theorem readE_or (bs : List Nat) (n : Nat) : readE bs n = 0 ∨ readE bs n = 150 := by
  unfold readE
  rw [if_neg (by omega)]
  split <;> simp

theorem readL_le (bs : List Nat) (n : Int) : (readL bs n).length ≤ bs.length := by
  unfold readL
  split
  · rw [List.length_take]
    omega
  · simp

end Go.Proofs.Ytegjdjfnpphipaa
