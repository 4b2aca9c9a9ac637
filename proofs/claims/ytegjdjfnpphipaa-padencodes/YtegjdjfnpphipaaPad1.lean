/- The plain side of layer 23 (package sconceref23): Pad, Unpad. -/
import Derived.Test.YtegjdjfnpphipaaScr2
import Derived.Test.YtegjdjfnpphipaaCut0
namespace Go.Proofs.Ytegjdjfnpphipaa
open Go.RowKit

/-- What Pad answers: the error, the bytes, what is left of the script. -/
def pdE (ms bs : List Nat) (k : Int) : Nat := if k < 0 ∨ 1024 < k then 1 else if (ms.length : Int) > k - 11 then 231 else filE bs (k - 3 - ms.length)
def pdL (ms bs : List Nat) (k : Int) : List Nat := if pdE ms bs k = 0 then [0, 2] ++ filL bs (k - 3 - ms.length) ++ [0] ++ ms else []
def pdR (ms bs : List Nat) (k : Int) : List Nat := if k < 0 ∨ 1024 < k then bs else if (ms.length : Int) > k - 11 then bs else filR bs (k - 3 - ms.length)

/-- Bytes lie apart from a plain script. -/
theorem scr_apart8 {w : World} {b B : Nat} {bs xs : List Nat} {v : Value} (h : ScrAt w b B bs) (hr : Row .u8 w v xs) (hne : xs ≠ []) : ∀ x, v.ownBlock = some x → x ≠ b := by
  obtain ⟨sv, ⟨h1, hrow, _⟩, _⟩ := h
  intro x hx e
  subst e
  obtain ⟨ao, cap, rfl, _, _, _, h4⟩ := hr
  obtain ⟨b2, off, rfl, hc⟩ := h4 0 (by cases xs with
    | nil => exact absurd rfl hne
    | cons a l => simp)
  have e : b2 = x := by simpa [Value.ownBlock] using hx
  subst e
  have hs : ∃ so sn sc, sv = .slice so sn sc := by
    obtain ⟨so, sc, e, _⟩ := hrow
    exact ⟨so, _, sc, e⟩
  obtain ⟨so, sn, sc, rfl⟩ := hs
  simp only [World.cell?, h1] at hc
  cases ho : off + 0 with
  | zero => simp [ho] at hc
  | succ j => simp [ho] at hc

theorem fil_len {bs : List Nat} {n : Nat} (h : filE bs n = 0) : (filL bs n).length ≤ n := by
  have key : ∀ (bs : List Nat) (n : Nat), (filN bs n).1.length ≤ n := by
    intro bs
    induction bs with
    | nil => intro n; cases n <;> simp [filN]
    | cons x l ih =>
      intro n
      cases n with
      | zero => simp [filN]
      | succ m =>
        unfold filN
        split
        · exact ih _
        · have := ih m
          simp
          omega
  unfold filL
  rw [if_pos h]
  exact key bs n

set_option maxRecDepth 20000 in
set_option maxHeartbeats 2000000 in
/-- Pad. -/
theorem r23Pad (mo : Option Addr) (M mc : Nat) (ms : List Nat) (k : Int) (b B : Nat) (bs : List Nat) (w : World) (hm : Row .u8 w (.slice mo M mc) ms) (hM : M ≤ 1000000) (h : ScrAt w b B bs) (hl : bs.length ≤ 1000000) (hB : B ≤ w.heap.size) :
    Calls Try.prog 12 #[.slice mo M mc, .int .i64 k, .pointer (some ⟨b, 0, none⟩)] w fun e w' => ∃ u, e = .returned (.tuple #[u, .int .i64 (pdE ms bs k : Nat)]) ∧ OwnB w' w.heap.size u (pdL ms bs k) ∧ ScrAt w' b B (pdR ms bs k) ∧ Kept (fun x => x = b) w w' := by
  obtain ⟨_, _, _, e1, hML, -, -, -, -⟩ := hm.open
  cases e1
  have HS := toHid h
  have JF := toHid fun n => r15Filled b B bs n w h hl hB
  have HRow : Hid (∀ W, Kept (fun x => x = b) w W → Row .u8 W (.slice mo M mc) ms) := fun W kk => hm.kept' kk (fun hne x hx e => scr_apart8 h hm hne x hx e)
  have HML := toHid hML.out
  by_cases h1 : k < 0 ∨ 1024 < k
  · have e1 : pdE ms bs k = 1 := by unfold pdE; rw [if_pos h1]
    have e2 : pdL ms bs k = [] := by unfold pdL; rw [e1]; rfl
    have e3 : pdR ms bs k = bs := by unfold pdR; rw [if_pos h1]
    rw [e1, e2, e3]
    clear e1 e2 e3 h hl hB hm hML JF
    by_cases h2 : k < 0
    · clear h1
      go_enter Try.func12, Try.ntmps12
      go_wp2_with fail
      go_ret2
      exact ⟨_, rfl, OwnB.nil _ _, HS.out, Kept.refl _ _⟩
    · have g1 : k > 1024 := by omega
      have g2 : (1024 : Int) < k := by omega
      clear h1
      go_enter Try.func12, Try.ntmps12
      go_wp2_with fail
      go_ret2
      exact ⟨_, rfl, OwnB.nil _ _, HS.out, Kept.refl _ _⟩
  · have a1 : ¬ k < 0 := fun e => h1 (.inl e)
    have a2 : ¬ k > 1024 := fun e => h1 (.inr e)
    have a3 : ¬ (1024 : Int) < k := a2
    by_cases h2 : (M : Int) > k - 11
    · have e1 : pdE ms bs k = 231 := by unfold pdE; rw [if_neg h1, if_pos (by rw [hML.out]; exact h2)]
      have e2 : pdL ms bs k = [] := by unfold pdL; rw [e1]; rfl
      have e3 : pdR ms bs k = bs := by unfold pdR; rw [if_neg h1, if_pos (by rw [hML.out]; exact h2)]
      rw [e1, e2, e3]
      have g1 : k - 11 < (M : Int) := h2
      clear e1 e2 e3 h hl hB hm hML JF h1
      go_enter Try.func12, Try.ntmps12
      go_wp2_with fail
      go_ret2
      exact ⟨_, rfl, OwnB.nil _ _, HS.out, Kept.refl _ _⟩
    · obtain ⟨n, hn⟩ : ∃ n : Nat, k - 3 - (M : Int) = (n : Int) := ⟨(k - 3 - (M : Int)).toNat, by omega⟩
      have HE : Hid (pdE ms bs k = filE bs (n : Int)) := by unfold Hid pdE; rw [if_neg h1, if_neg (by rw [hML.out]; exact h2), hML.out, hn]
      have HLL : Hid (pdL ms bs k = if pdE ms bs k = 0 then [0, 2] ++ filL bs (n : Int) ++ [0] ++ ms else []) := by unfold Hid pdL; rw [hML.out, hn]
      have e3 : pdR ms bs k = filR bs (n : Int) := by unfold pdR; rw [if_neg h1, if_neg (by rw [hML.out]; exact h2), hML.out, hn]
      rw [e3]
      have hF := JF.out (n : Int)
      have g1 : ¬ k - 11 < (M : Int) := h2
      have hnb : n ≤ 1024 := by omega
      have HBW := toHid h.lt
      have HB := toHid hB
      clear e3 h hl hB hm hML JF h1
      go_enter Try.func12, Try.ntmps12
      go_wp2_with fail
      refine hF.mono ?_
      rintro e w1 ⟨u, rfl, ho, hs, k1⟩
      have HK1 := toHid k1
      have HO1 := toHid ho
      have HS1 := toHid hs
      obtain ⟨uo, pn, uc, rfl, hpn, -⟩ := ho.row.open
      clear hF ho hs k1
      by_cases h0 : filE bs (n : Int) = 0
      · have hlen := fil_len h0
        have HL0 : Hid (pdL ms bs k = [0, 2] ++ filL bs (n : Int) ++ [0] ++ ms) := by unfold Hid; rw [HLL.out, HE.out, if_pos h0]
        have HE0 : Hid (pdE ms bs k = 0) := HE.out.trans h0
        rw [h0]
        rw [hpn.out] at hlen
        generalize filL bs (n : Int) = ps at *
        have R1 := toHid (HRow.out w1 HK1.out)
        have HU1 := toHid HO1.out.row
        have HPN := toHid hpn.out
        obtain ⟨A1, hA1⟩ : ∃ A1 : List Nat, A1 = [0, 2] := ⟨_, rfl⟩
        obtain ⟨A2, hA2⟩ : ∃ A2 : List Nat, A2 = [0] := ⟨_, rfl⟩
        have HO2 : Hid (OwnB (w1.alloc (.cells #[.int .u8 0, .int .u8 2] 5)) w1.heap.size (.slice (some ⟨w1.heap.size, 0, none⟩) 2 2) A1) := own_lit8 w1 A1 _ (by rw [hA1]; rfl) 2 (by rw [hA1]; rfl) (by omega) (by omega)
        have HN2 : Hid (∀ W : World, OwnB (W.alloc (.cells #[.int .u8 0] 5)) W.heap.size (.slice (some ⟨W.heap.size, 0, none⟩) 1 1) A2) := fun W => own_lit8 W A2 _ (by rw [hA2]; rfl) 1 (by rw [hA2]; rfl) (by omega) (by omega)
        have HA1 : Hid (A1.length = 2) := by unfold Hid; rw [hA1]; rfl
        have HA2 : Hid (A2.length = 1) := by unfold Hid; rw [hA2]; rfl
        rw [← hA1, ← hA2] at HL0
        clear h0 HE HLL HRow hpn hA1 hA2
        go_wp2_with (at_builtin; refine wpList_append_nm rfl _ _ rfl w1.heap.size _ A1 rfl HO2.out _ rfl ps ?qa ?qb ?qc ?_)
        case qa => exact HU1.out.grew ((Kept.refl Nought w1).alloc _)
        case qb => have := HPN.out; have := HA1.out; omega
        case qc => simp
        intro l3 ao3 n3 c3 w3 e3 f3 ho3 kk3
        have k3 : Kept Nought w1 w3 := ((Kept.refl Nought w1).alloc _).next kk3 (fun x hx (h : w1.heap.size ≤ x) => by omega)
        have HO3 := toHid ho3
        have HK3 := toHid k3
        have hn3 : n3 = pn + 2 := by have h1 := f3.out; rw [e3.out, List.length_append, HPN.out, HA1.out] at h1; omega
        have hs3 := k3.size
        clear ho3 kk3 k3
        go_wp2_with (at_builtin; refine wpList_append_nm rfl _ _ rfl w1.heap.size _ l3 rfl (HO3.out.grew ((Kept.refl Nought w3).alloc _)) _ rfl A2 (HN2.out w3).row ?ql ?qm ?_)
        case ql => have := f3.out; have := HA2.out; omega
        case qm => simp; omega
        intro l4 ao4 n4 c4 w4 e4 f4 ho4 kk4
        have k4 : Kept Nought w1 w4 := (HK3.out.alloc _).next kk4 (fun x hx (h : w1.heap.size ≤ x) => by omega)
        have HO4 := toHid ho4
        have HK4 := toHid k4
        have hn4 : n4 = n3 + 1 := by have h1 := f4.out; rw [e4.out, List.length_append, f3.out, HA2.out] at h1; omega
        have hs4 := k4.size
        clear ho4 kk4 k4
        go_wp2_with (at_builtin; refine wpList_append_nm rfl _ _ rfl w1.heap.size _ l4 rfl HO4.out _ rfl ms (R1.out.grew HK4.out) ?qn hs4 ?_)
        case qn => have := f4.out; have := HML.out; omega
        intro l5 ao5 n5 c5 w5 e5 f5 ho5 kk5
        have k5 : Kept Nought w1 w5 := HK4.out.next kk5 (fun x hx (h : w1.heap.size ≤ x) => by omega)
        have HF5 : Hid (OwnB w5 w.heap.size (.slice ao5 n5 c5) (pdL ms bs k)) := by unfold Hid; rw [HL0.out, ← e3.out, ← e4.out, ← e5.out]; exact ho5.base HK1.out.size
        have HK5 : Hid (Kept (fun x => x = b) w w5) := HK1.out.next k5 (fun _ _ f => f.elim)
        have HS5 := toHid (HS1.out.kept k5 (fun _ _ f => f))
        clear ho5 kk5 k5
        go_wp2_with fail
        go_ret2
        exact ⟨_, by rw [HE0.out]; rfl, HF5.out, HS5.out, HK5.out⟩
      · have HL0 : Hid (pdL ms bs k = []) := by unfold Hid; rw [HLL.out, HE.out, if_neg h0]
        have g0 : ¬ ((filE bs (n : Int) : Nat) : Int) = 0 := by omega
        generalize filE bs (n : Int) = E at *
        clear h0
        go_wp2_with fail
        go_ret2
        exact ⟨_, by rw [HE.out]; rfl, by rw [HL0.out]; exact OwnB.nil _ _, HS1.out, HK1.out⟩

/-- The first place of a byte; the length, if there is none. -/
def fstC (c : Nat) : List Nat → Nat
  | [] => 0
  | x :: l => if x = c then 0 else fstC c l + 1

theorem fstC_at {c : Nat} : ∀ {l : List Nat} {i : Nat}, i < l.length → l.getD i 0 = c → (∀ j, j < i → l.getD j 0 ≠ c) → fstC c l = i
  | [], i, h, _, _ => absurd h (by simp)
  | x :: l, 0, _, h, _ => by
    have h' : x = c := by simpa using h
    unfold fstC
    rw [if_pos h']
  | x :: l, i + 1, hl, h, hn => by
    have h0 : x ≠ c := by simpa using hn 0 (by omega)
    unfold fstC
    rw [if_neg h0, fstC_at (i := i) (by simpa using hl) (by simpa using h) (fun j hj => by simpa using hn (j + 1) (by omega))]

theorem fstC_none {c : Nat} : ∀ {l : List Nat}, (∀ j, j < l.length → l.getD j 0 ≠ c) → fstC c l = l.length
  | [], _ => rfl
  | x :: l, h => by
    have h0 : x ≠ c := by simpa using h 0 (by simp)
    unfold fstC
    rw [if_neg h0, fstC_none (l := l) (fun j hj => by simpa using h (j + 1) (by simpa using hj))]
    rfl

/-- What Unpad answers. -/
def unE (em : List Nat) : Nat := if (1024 < em.length ∨ em.length < 11 ∨ em.getD 0 0 ≠ 0 ∨ em.getD 1 0 ≠ 2) ∨ fstC 0 (em.drop 2) < 8 ∨ em.length ≤ fstC 0 (em.drop 2) + 2 then 230 else 0
def unL (em : List Nat) : List Nat := if unE em = 0 then em.drop (fstC 0 (em.drop 2) + 3) else []

set_option maxRecDepth 20000 in
set_option maxHeartbeats 2000000 in
/-- Unpad. -/
theorem r23Unpad (v : Value) (em : List Nat) (w : World) (hv : Row .u8 w v em) (hl : em.length ≤ 1000000) :
    Calls Try.prog 16 #[v] w fun e w' => ∃ u, e = .returned (.tuple #[u, .int .i64 (unE em : Nat)]) ∧ OwnB w' w.heap.size u (unL em) ∧ Kept Nought w w' := by
  have HV := toHid hv
  obtain ⟨ao, L, cap, rfl, hL, hLc, hcm, hnn, hnum⟩ := hv.open
  have hLb : L ≤ 1000000 := by have := hL.out; omega
  have HL := toHid hL.out
  by_cases h1 : 1024 < L ∨ L < 11
  · have e1 : unE em = 230 := by unfold unE; rw [if_pos (.inl (by rw [hL.out]; omega))]
    have e2 : unL em = [] := by unfold unL; rw [e1]; rfl
    rw [e1, e2]
    clear e1 e2 hv hnum hL
    by_cases h2 : 1024 < L
    · have g1 : (L : Int) > 1024 := by omega
      have g2 : (1024 : Int) < (L : Int) := by omega
      clear h1
      go_enter Try.func16, Try.ntmps16
      go_wp2_with fail
      go_ret2
      exact ⟨_, rfl, OwnB.nil _ _, Kept.refl _ _⟩
    · have g1 : ¬ (L : Int) > 1024 := by omega
      have g2 : ¬ (1024 : Int) < (L : Int) := by omega
      have g3 : (L : Int) < 11 := by omega
      clear h1
      go_enter Try.func16, Try.ntmps16
      go_wp2_with fail
      go_ret2
      exact ⟨_, rfl, OwnB.nil _ _, Kept.refl _ _⟩
  · have a1 : ¬ (L : Int) > 1024 := by omega
    have a2 : ¬ (1024 : Int) < (L : Int) := by omega
    have a3 : ¬ (L : Int) < 11 := by omega
    have a4 : (0 : Int) < (L : Int) := by omega
    have a5 : (1 : Int) < (L : Int) := by omega
    obtain ⟨bb, off, rfl, c0⟩ := hnum 0 (by omega)
    obtain ⟨_, _, e0, c1⟩ := hnum 1 (by omega)
    cases e0
    have HNUM : Hid (∀ i, i < L → w.cell? ⟨bb, off + i, none⟩ = some (.int .u8 (em.getD i 0 : Nat))) := fun i hi => by
      obtain ⟨_, _, e0, c⟩ := hnum i hi
      cases e0
      exact c
    rw [Nat.add_zero] at c0
    obtain ⟨x0, hx0⟩ : ∃ x0, x0 = em.getD 0 0 := ⟨_, rfl⟩
    obtain ⟨x1, hx1⟩ : ∃ x1, x1 = em.getD 1 0 := ⟨_, rfl⟩
    rw [← hx0] at c0
    rw [← hx1] at c1
    have HX : Hid (x0 = em.getD 0 0 ∧ x1 = em.getD 1 0) := ⟨hx0, hx1⟩
    clear hnum hx0 hx1 hv hL hnn
    by_cases b0 : x0 = 0
    · by_cases b1 : x1 = 2
      · subst b0
        subst b1
        have HBase : Hid (¬ (1024 < em.length ∨ em.length < 11 ∨ em.getD 0 0 ≠ 0 ∨ em.getD 1 0 ≠ 2)) := by
          unfold Hid
          rw [HL.out, ← HX.out.1, ← HX.out.2]
          omega
        go_enter Try.func16, Try.ntmps16
        go_wp2_with fail
        go_loopw [4] (fun iv wr => wr = w ∧ ∃ i : Nat, 2 ≤ i ∧ i ≤ L ∧ iv = .int .i64 (i : Int) ∧ Hid (∀ j, j < i - 2 → (em.drop 2).getD j 0 ≠ 0)) (fun iv _ => L - (intOf iv).toNat)
        case atStart => exact ⟨rfl, 2, by omega, by omega, rfl, fun j hj => by omega⟩
        case round =>
          obtain ⟨rfl, i, hi2, hiL, rfl, HI⟩ := hrel
          by_cases hin : i < L
          · have g1 : (i : Int) < (L : Int) := by omega
            have g0 : (0 : Int) ≤ (i : Int) := by omega
            have ci := HNUM.out i hin
            have hdr : (em.drop 2).getD (i - 2) 0 = em.getD i 0 := by
              rw [List.getD_eq_getElem?_getD, List.getD_eq_getElem?_getD, List.getElem?_drop]
              rw [show 2 + (i - 2) = i by omega]
            obtain ⟨x, hx⟩ : ∃ x, x = em.getD i 0 := ⟨_, rfl⟩
            rw [← hx] at ci hdr
            have HDR := toHid hdr
            clear hx hdr
            by_cases hx0 : x = 0
            · subst hx0
              have hfst : fstC 0 (em.drop 2) = i - 2 := fstC_at (by rw [List.length_drop, HL.out]; omega) HDR.out HI.out
              by_cases hi10 : i < 10
              · have g3 : (i : Int) < 10 := by omega
                have HE : Hid (unE em = 230) := by unfold Hid unE; rw [if_pos (.inr (.inl (by omega)))]
                clear hfst
                go_wp2_with fail
                go_ret2
                exact ⟨_, by rw [HE.out]; rfl, by unfold unL; rw [HE.out]; exact OwnB.nil _ _, Kept.refl _ _⟩
              · have g3 : ¬ (i : Int) < 10 := by omega
                have HE : Hid (unE em = 0) := by
                  unfold Hid unE
                  rw [if_neg]
                  rintro (h | h | h)
                  · exact HBase.out h
                  · omega
                  · rw [HL.out] at h
                    omega
                have HU : Hid (unL em = (em.drop (i + 1)).take (L - (i + 1))) := by
                  unfold Hid unL
                  rw [HE.out, if_pos rfl, hfst, show i - 2 + 3 = i + 1 by omega, List.take_of_length_le (by rw [List.length_drop, HL.out]; exact Nat.le_refl _)]
                obtain ⟨s, hs⟩ : ∃ s, s = i + 1 := ⟨_, rfl⟩
                have gs : IntKind.i64.wrap ((i : Int) + 1) = (s : Int) := by rw [IntKind.wrap_i64]; omega
                have gs0 : (0 : Int) ≤ (s : Int) := by omega
                have gs1 : (s : Int) ≤ (L : Int) := by omega
                have gs2 : (i : Int) + 1 = (s : Int) := by omega
                have gs3 : s ≤ L := by omega
                rw [← hs] at HU
                have HP2 : Hid (cap = s → Row .u8 wr (.slice (some ⟨bb, off, none⟩) 0 0) ((em.drop s).take (L - s))) := (row_cut (s := s) (m := L - s) HV.out (by omega)).2.1 _ rfl
                have HP3 : Hid (Row .u8 wr (.slice (some ⟨bb, off + s, none⟩) (L - s) (cap - s)) ((em.drop s).take (L - s))) := row_part HV.out (by omega)
                have hlt : ((em.drop s).take (L - s)).length ≤ 1000000 := by rw [List.length_take]; omega
                clear hfst hs HBase HX c0 c1 HI
                by_cases hcs : cap = s
                · have hr := HP2.out hcs
                  have hnil : (em.drop s).take (L - s) = [] := by rw [show L - s = 0 by omega]; rfl
                  rw [hnil] at hr HU
                  have HR := toHid hr
                  obtain rfl : L = s := by omega
                  subst hcs
                  clear hnil
                  clear hr
                  go_wp2_with (at_builtin; refine wpList_append_row rfl _ _ rfl wr.heap.size _ [] rfl (OwnB.nil _ _) _ rfl _ HR.out (by rw [List.length_nil]; omega) (Nat.le_refl _) ?_)
                  intro v3 w3 ho3 hg3
                  have k3 : Kept Nought wr w3 := (Kept.refl Nought wr).grown hg3 (fun q hq hlt => by cases hq)
                  have HO3 : Hid (OwnB w3 wr.heap.size v3 (unL em)) := by unfold Hid; rw [HU.out]; exact ho3
                  obtain ⟨yo, yc, rfl⟩ := own_slice ho3
                  clear ho3 hg3
                  go_wp2_with fail
                  go_ret2
                  exact ⟨_, by rw [HE.out]; rfl, HO3.out, k3⟩
                · have hr := HP3.out
                  have HR := toHid hr
                  clear hr
                  go_wp2_with (at_builtin; refine wpList_append_row rfl _ _ rfl wr.heap.size _ [] rfl (OwnB.nil _ _) _ rfl _ HR.out (by rw [List.length_nil]; omega) (Nat.le_refl _) ?_)
                  intro v3 w3 ho3 hg3
                  have k3 : Kept Nought wr w3 := (Kept.refl Nought wr).grown hg3 (fun q hq hlt => by cases hq)
                  have HO3 : Hid (OwnB w3 wr.heap.size v3 (unL em)) := by unfold Hid; rw [HU.out]; exact ho3
                  obtain ⟨yo, yc, rfl⟩ := own_slice ho3
                  clear ho3 hg3
                  go_wp2_with fail
                  go_ret2
                  exact ⟨_, by rw [HE.out]; rfl, HO3.out, k3⟩
            · have g3 : ¬ (x : Int) = 0 := by omega
              have HI2 : Hid (∀ j, j < i + 1 - 2 → (em.drop 2).getD j 0 ≠ 0) := fun j hj => by
                by_cases e : j = i - 2
                · rw [e, HDR.out]
                  exact hx0
                · exact HI.out j (by omega)
              go_wp2_with fail
              go_roundw
              case rel => exact ⟨trivial, i + 1, by omega, by omega, by go_num, HI2⟩
              case measure => simp [intOf]; omega
          · have g1 : ¬ (i : Int) < (L : Int) := by omega
            have hfst : fstC 0 (em.drop 2) = L - 2 := by
              rw [fstC_none, List.length_drop, HL.out]
              intro j hj
              rw [List.length_drop, HL.out] at hj
              exact HI.out j (by omega)
            have HE : Hid (unE em = 230) := by unfold Hid unE; rw [if_pos (.inr (.inr (by rw [HL.out, hfst]; omega)))]
            go_wp2_with fail
            go_ret2
            exact ⟨_, by rw [HE.out]; rfl, by unfold unL; rw [HE.out]; exact OwnB.nil _ _, Kept.refl _ _⟩
      · subst b0
        have e1 : unE em = 230 := by unfold unE; rw [if_pos (.inl (.inr (.inr (.inr (by rw [← HX.out.2]; exact b1)))))]
        have e2 : unL em = [] := by unfold unL; rw [e1]; rfl
        rw [e1, e2]
        have g1 : ¬ (x1 : Int) = 2 := by omega
        clear e1 e2
        go_enter Try.func16, Try.ntmps16
        go_wp2_with fail
        go_ret2
        exact ⟨_, rfl, OwnB.nil _ _, Kept.refl _ _⟩
    · have e1 : unE em = 230 := by unfold unE; rw [if_pos (.inl (.inr (.inr (.inl (by rw [← HX.out.1]; exact b0)))))]
      have e2 : unL em = [] := by unfold unL; rw [e1]; rfl
      rw [e1, e2]
      have g1 : ¬ (x0 : Int) = 0 := by omega
      clear e1 e2
      go_enter Try.func16, Try.ntmps16
      go_wp2_with fail
      go_ret2
      exact ⟨_, rfl, OwnB.nil _ _, Kept.refl _ _⟩

end Go.Proofs.Ytegjdjfnpphipaa
