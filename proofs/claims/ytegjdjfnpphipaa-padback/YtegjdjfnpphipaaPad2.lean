/- Package pad: Encode. -/
import Derived.Test.YtegjdjfnpphipaaPad0
import Derived.Test.YtegjdjfnpphipaaCat2
import Derived.Test.YtegjdjfnpphipaaLsc3
import Derived.Test.YtegjdjfnpphipaaLaw23
namespace Go.Proofs.Ytegjdjfnpphipaa
open Go.RowKit

/-- A row of bytes that came in lies apart from a script. -/
theorem lsc_apart8 {w : World} {p : Option Addr} {B : Nat} {bs xs : List Nat} {v : Value} (h : Lsc w p B bs) (hr : Row .u8 w v xs) (hne : xs ≠ []) : ∀ x, v.ownBlock = some x → ¬ ofP p x := by
  rcases h with ⟨rfl, _⟩ | ⟨b, sv, ps, k, rfl, _, h1, hrow, _⟩
  · intro x _ f
    cases f
  · intro x hx f
    have e : b = x := by simpa [ofP] using f
    subst e
    obtain ⟨ao, cap, rfl, _, _, _, h4⟩ := hr
    obtain ⟨b2, off, rfl, hc⟩ := h4 0 (by cases xs with
      | nil => exact absurd rfl hne
      | cons a l => simp)
    have e : b2 = b := by simpa [Value.ownBlock] using hx
    subst e
    have hs : ∃ so sn sc, sv = .slice so sn sc := by
      obtain ⟨so, sc, e, _⟩ := hrow
      exact ⟨so, _, sc, e⟩
    obtain ⟨so, sn, sc, rfl⟩ := hs
    simp only [World.cell?, h1] at hc
    cases ho : off + 0 with
    | zero => simp [ho] at hc
    | succ j => cases j with
      | zero => simp [ho] at hc
      | succ j => simp [ho] at hc

/-- Concat of the four rows that Encode lays. -/
theorem kFour (w1 : World) (uo mo : Option Addr) (pn uc M mc : Nat) (ps ms : List Nat) (hU : Row .u8 w1 (.slice uo pn uc) ps) (hR : Row .u8 w1 (.slice mo M mc) ms) (hP : ps.length = pn) (hML : ms.length = M) (hb : pn + M ≤ 100000) :
    Calls Try.prog 24 #[.slice (some ⟨w1.heap.size + 1 + 1, 0, none⟩) 4 4] (((w1.alloc (.cells #[.int .u8 0, .int .u8 2] 5)).alloc (.cells #[.int .u8 0] 5)).alloc (.cells #[.slice (some ⟨w1.heap.size, 0, none⟩) 2 2, .slice uo pn uc, .slice (some ⟨w1.heap.size + 1, 0, none⟩) 1 1, .slice mo M mc] 22)) fun e w' => ∃ v', e = .returned v' ∧ OwnB w' w1.heap.size v' ([0, 2] ++ ps ++ [0] ++ ms) ∧ Kept Nought w1 w' := by
  obtain ⟨w2, hw2⟩ : ∃ w2, w2 = w1.alloc (.cells #[.int .u8 0, .int .u8 2] 5) := ⟨_, rfl⟩
  obtain ⟨w3, hw3⟩ : ∃ w3, w3 = w2.alloc (.cells #[.int .u8 0] 5) := ⟨_, rfl⟩
  have hs2 : w2.heap.size = w1.heap.size + 1 := by rw [hw2, World.size_alloc]
  have hs3 : w3.heap.size = w1.heap.size + 1 + 1 := by rw [hw3, World.size_alloc, hs2]
  obtain ⟨w4, hw4⟩ : ∃ w4, w4 = w3.alloc (.cells #[.slice (some ⟨w1.heap.size, 0, none⟩) 2 2, .slice uo pn uc, .slice (some ⟨w2.heap.size, 0, none⟩) 1 1, .slice mo M mc] 22) := ⟨_, rfl⟩
  have k12 : Kept Nought w1 w2 := by rw [hw2]; exact (Kept.refl _ _).alloc _
  have k23 : Kept Nought w2 w3 := by rw [hw3]; exact (Kept.refl _ _).alloc _
  have k34 : Kept Nought w3 w4 := by rw [hw4]; exact (Kept.refl _ _).alloc _
  rw [← hs3, ← hs2, ← hw2, ← hw3, ← hw4]
  have o2 : Row .u8 w4 (.slice (some ⟨w1.heap.size, 0, none⟩) 2 2) [0, 2] := by
    refine Row.grew ?_ (k23.trans k34)
    rw [hw2]
    exact (own_lit8 w1 [0, 2] _ rfl 2 rfl (by omega) (by omega)).row
  have o3 : Row .u8 w4 (.slice (some ⟨w2.heap.size, 0, none⟩) 1 1) [0] := by
    refine Row.grew ?_ k34
    rw [hw3]
    exact (own_lit8 w2 [0] _ rfl 1 rfl (by omega) (by omega)).row
  have hU4 := hU.grew ((k12.trans k23).trans k34)
  have hR4 := hR.grew ((k12.trans k23).trans k34)
  have hb4 : w4.heap[w3.heap.size]? = some (.cells #[.slice (some ⟨w1.heap.size, 0, none⟩) 2 2, .slice uo pn uc, .slice (some ⟨w2.heap.size, 0, none⟩) 1 1, .slice mo M mc] 22 (0, 0)) := by
    rw [hw4]
    exact heap_alloc_new _ _
  obtain ⟨A, hA⟩ : ∃ A : Nat → Option Addr, ∀ i, A i = if i = 0 then some ⟨w1.heap.size, 0, none⟩ else if i = 1 then uo else if i = 2 then some ⟨w2.heap.size, 0, none⟩ else mo := ⟨_, fun _ => rfl⟩
  obtain ⟨L, hL⟩ : ∃ A : Nat → Nat, ∀ i, A i = if i = 0 then 2 else if i = 1 then pn else if i = 2 then 1 else M := ⟨_, fun _ => rfl⟩
  obtain ⟨C, hC⟩ : ∃ A : Nat → Nat, ∀ i, A i = if i = 0 then 2 else if i = 1 then uc else if i = 2 then 1 else mc := ⟨_, fun _ => rfl⟩
  obtain ⟨Z, hZ⟩ : ∃ A : Nat → List Nat, ∀ i, A i = if i = 0 then [0, 2] else if i = 1 then ps else if i = 2 then [0] else ms := ⟨_, fun _ => rfl⟩
  have hsum : sumT L 4 = 3 + pn + M := by
    simp only [sumT, hL]
    simp
    omega
  have hcat : catT Z 4 = [0, 2] ++ ps ++ [0] ++ ms := by
    simp only [catT, hZ]
    simp
  rw [← hcat]
  have k14 := (k12.trans k23).trans k34
  clear hw2 hw3 hw4 k12 k23 k34 hU hR
  refine Calls.mono (sConcatN w3.heap.size 0 4 A L C Z w4 (by omega) (fun i hi => ?_) (fun i hi => ?_) (by rw [hsum]; omega) (by rw [hsum]; omega)) ?_
  · have h4 : i = 0 ∨ i = 1 ∨ i = 2 ∨ i = 3 := by omega
    rcases h4 with rfl | rfl | rfl | rfl <;> rw [hA, hL, hC]
    · exact (cell_of_row _ _ 0 _ _ _ hb4).trans rfl
    · exact (cell_of_row _ _ 1 _ _ _ hb4).trans rfl
    · exact (cell_of_row _ _ 2 _ _ _ hb4).trans rfl
    · exact (cell_of_row _ _ 3 _ _ _ hb4).trans rfl
  · have h4 : i = 0 ∨ i = 1 ∨ i = 2 ∨ i = 3 := by omega
    rcases h4 with rfl | rfl | rfl | rfl <;> rw [hA, hL, hC, hZ]
    · exact o2
    · exact hU4
    · exact o3
    · exact hR4
  · rintro e w' ⟨v', rfl, ho, k⟩
    exact ⟨v', rfl, ho.base k14.size, k14.trans k⟩

set_option maxRecDepth 20000 in
set_option maxHeartbeats 2000000 in
/-- Encode. -/
theorem kEnc : DEnc := by
  intro mo M mc ms k p B bs w hk0 hk1 hm dm hM h hB db hl
  obtain ⟨_, _, _, e1, hML, -, -, -, -⟩ := hm.open
  cases e1
  have HS := toHid h
  have JF := toHid fun n => xFilled p B bs n w h hB
  have HRow : Hid (∀ W, Kept (ofP p) w W → Row .u8 W (.slice mo M mc) ms) := fun W kk => hm.kept' kk (fun hne x hx => lsc_apart8 h hm hne x hx)
  have HML := toHid hML.out
  have HInP := toHid fun x (hx : ofP p x) => (h.inP hx).2
  by_cases h1 : k < 0 ∨ 1024 < k
  · have e1 : pdE ms bs k = 1 := by unfold pdE; rw [if_pos h1]
    have e2 : pdL ms bs k = [] := by unfold pdL; rw [e1]; rfl
    have e3 : pdR ms bs k = bs := by unfold pdR; rw [if_pos h1]
    rw [e1, e2, e3]
    clear e1 e2 e3 h hl hB hm hML JF dm db
    by_cases h2 : k < 0
    · clear h1
      go_enter Try.func11, Try.ntmps11
      go_wp2_with fail
      go_ret2
      exact ⟨_, rfl, ⟨Row.nil _ _, fun b hb => by cases hb⟩, HS.out, Kept.refl _ _⟩
    · have g1 : k > 1024 := by omega
      have g2 : (1024 : Int) < k := by omega
      clear h1
      go_enter Try.func11, Try.ntmps11
      go_wp2_with fail
      go_ret2
      exact ⟨_, rfl, ⟨Row.nil _ _, fun b hb => by cases hb⟩, HS.out, Kept.refl _ _⟩
  · have a1 : ¬ k < 0 := fun e => h1 (.inl e)
    have a2 : ¬ k > 1024 := fun e => h1 (.inr e)
    have a3 : ¬ (1024 : Int) < k := a2
    by_cases h2 : (M : Int) > k - 11
    · have e1 : pdE ms bs k = 231 := by unfold pdE; rw [if_neg h1, if_pos (by rw [hML.out]; exact h2)]
      have e2 : pdL ms bs k = [] := by unfold pdL; rw [e1]; rfl
      have e3 : pdR ms bs k = bs := by unfold pdR; rw [if_neg h1, if_pos (by rw [hML.out]; exact h2)]
      rw [e1, e2, e3]
      have g1 : k - 11 < (M : Int) := h2
      clear e1 e2 e3 h hl hB hm hML JF h1 dm db
      go_enter Try.func11, Try.ntmps11
      go_wp2_with fail
      go_ret2
      exact ⟨_, rfl, ⟨Row.nil _ _, fun b hb => by cases hb⟩, HS.out, Kept.refl _ _⟩
    · obtain ⟨n, hn⟩ : ∃ n : Nat, k - 3 - (M : Int) = (n : Int) := ⟨(k - 3 - (M : Int)).toNat, by omega⟩
      have HE : Hid (pdE ms bs k = filE bs (n : Int)) := by unfold Hid pdE; rw [if_neg h1, if_neg (by rw [hML.out]; exact h2), hML.out, hn]
      have HLL : Hid (pdL ms bs k = if pdE ms bs k = 0 then [0, 2] ++ filL bs (n : Int) ++ [0] ++ ms else []) := by unfold Hid pdL; rw [hML.out, hn]
      have e3 : pdR ms bs k = filR bs (n : Int) := by unfold pdR; rw [if_neg h1, if_neg (by rw [hML.out]; exact h2), hML.out, hn]
      rw [e3]
      have hF := JF.out (n : Int)
      have g1 : ¬ k - 11 < (M : Int) := h2
      have g3 : k - 2 - 1 - (M : Int) = (n : Int) := by omega
      have hnb : n ≤ 1024 := by omega
      clear e3 h hl hB hm hML JF h1 dm db hn
      go_enter Try.func11, Try.ntmps11
      go_wp2_with fail
      refine hF.mono ?_
      rintro e w1 ⟨u, rfl, ho, hs, k1⟩
      have HK1 := toHid k1
      have HO1 := toHid ho
      have HS1 := toHid hs
      obtain ⟨uo, pn, uc, rfl, hpn, -⟩ := ho.row.open
      clear hF ho hs k1
      by_cases h0 : filE bs (n : Int) = 0
      · have hlen := fil_len h0
        have HL0 : Hid (pdL ms bs k = [0, 2] ++ filL bs (n : Int) ++ [0] ++ ms) := by unfold Hid; rw [HLL.out, HE.out, if_pos h0]
        have HE0 : Hid (pdE ms bs k = 0) := HE.out.trans h0
        rw [h0]
        rw [hpn.out] at hlen
        generalize filL bs (n : Int) = ps at *
        have R1 := toHid (HRow.out w1 HK1.out)
        have HU1 := toHid HO1.out.row
        have HPN := toHid hpn.out
        have J2 := kHead w1
        clear h0 HE HLL HRow hpn
        go_wp2_with fail
        refine J2.mono ?_
        rintro e w2 ⟨rfl, rfl⟩
        have J3 := kFour w1 uo mo pn uc M mc ps ms HU1.out R1.out HPN.out HML.out (by omega)
        rw [← HL0.out] at J3
        clear J2
        go_wp2_with fail
        refine J3.mono ?_
        rintro e w5 ⟨v5, rfl, ho5, k5⟩
        have HO5 := toHid ho5
        have HK5 : Hid (Kept (ofP p) w w5) := HK1.out.next k5 (fun _ _ f => f.elim)
        have HS5 := toHid (HS1.out.grew k5)
        have hsz := HK1.out.size
        clear J3 ho5 k5
        go_wp2_with fail
        go_ret2
        exact ⟨_, by rw [HE0.out]; rfl, ⟨HO5.out.row, fun b hb => Nat.le_trans hsz (HO5.out.lt b hb).1⟩, HS5.out, HK5.out⟩
      · have HL0 : Hid (pdL ms bs k = []) := by unfold Hid; rw [HLL.out, HE.out, if_neg h0]
        have g0 : ¬ ((filE bs (n : Int) : Nat) : Int) = 0 := by omega
        generalize filE bs (n : Int) = E at *
        clear h0
        go_wp2_with fail
        go_ret2
        exact ⟨_, by rw [HE.out]; rfl, by rw [HL0.out]; exact ⟨Row.nil _ _, fun b hb => by cases hb⟩, HS1.out, HK1.out⟩

end Go.Proofs.Ytegjdjfnpphipaa
