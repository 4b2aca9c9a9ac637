/- Put together of: Cat2 Oap5 Oap6 WOaeRooms LOaepRooms. -/
import Derived.Test.YtnhkfdbeacmepaaDoorPk1
import Derived.Test.YtnhkfdbeacmepaaDoorPk9
import Derived.Test.YtnhkfdbeacmepaaDoorPk24
import Derived.Test.YtnhkfdbeacmepaaDoorPk31
import Derived.Test.YtnhkfdbeacmepaaDoorPk32
import Derived.Test.YtnhkfdbeacmepaaDoorPk34

/- slices.Concat of any rows of bytes. -/
namespace Go.Proofs.YtnhkfdbeacmepaaDoor
open Go.RowKit

/-- The first t of some numbers, added up. -/
def sumT (L : Nat → Nat) : Nat → Nat
  | 0 => 0
  | t + 1 => sumT L t + L t

/-- The first t of some rows, one behind the other. -/
def catT (Z : Nat → List Nat) : Nat → List Nat
  | 0 => []
  | t + 1 => catT Z t ++ Z t

theorem sumT_le {L : Nat → Nat} {t : Nat} : ∀ {T : Nat}, t ≤ T → sumT L t ≤ sumT L T
  | 0, h => by
    obtain rfl : t = 0 := by omega
    exact Nat.le_refl _
  | T + 1, h => by
    by_cases e : t = T + 1
    · subst e
      exact Nat.le_refl _
    · exact Nat.le_trans (sumT_le (T := T) (by omega)) (Nat.le_add_right _ _)

theorem catT_len {L : Nat → Nat} {Z : Nat → List Nat} {T : Nat} (h : ∀ i, i < T → (Z i).length = L i) : ∀ {t : Nat}, t ≤ T → (catT Z t).length = sumT L t
  | 0, _ => rfl
  | t + 1, ht => by
    unfold catT sumT
    rw [List.length_append, catT_len h (t := t) (by omega), h t (by omega)]

set_option maxRecDepth 20000 in
set_option maxHeartbeats 2000000 in
/-- slices.Concat of any rows. -/
theorem sConcatN (lb off T : Nat) (A : Nat → Option Addr) (L C : Nat → Nat) (Z : Nat → List Nat) (w : World) (hT : T ≤ 1000) (hc : ∀ i, i < T → w.cell? ⟨lb, off + i, none⟩ = some (.slice (A i) (L i) (C i))) (hr : ∀ i, i < T → Row .u8 w (.slice (A i) (L i) (C i)) (Z i)) (h0 : 0 < sumT L T) (hl : sumT L T ≤ 10000000) :
    Calls Tryd.prog 26 #[.slice (some ⟨lb, off, none⟩) T T] w fun e w' => ∃ v', e = .returned v' ∧ OwnB w' w.heap.size v' (catT Z T) ∧ Kept Nought w w' := by
  have HLen : Hid (∀ i, i < T → (Z i).length = L i) := fun i hi => by
    obtain ⟨_, _, _, e1, hL, _, _, _, _⟩ := (hr i hi).open
    cases e1
    exact hL.out
  obtain ⟨N, hN⟩ : ∃ N, N = sumT L T := ⟨_, rfl⟩
  have HLE : Hid (∀ t, t < T → sumT L (t + 1) ≤ N) := fun t ht => by rw [hN]; exact sumT_le ht
  rw [← hN] at h0 hl
  have JG := toHid (fun W => sGrow N h0 (by omega) W)
  have JC : Hid (∀ W, Kept Nought w W → ∀ i, i < T → W.cell? ⟨lb, off + i, none⟩ = some (.slice (A i) (L i) (C i))) := fun W k i hi => k.cellN (hc i hi)
  have JX : Hid (∀ W, Kept Nought w W → ∀ i, i < T → Row .u8 W (.slice (A i) (L i) (C i)) (Z i)) := fun W k i hi => (hr i hi).grew k
  have HN := toHid hN
  clear hr hN hc
  go_enter Tryd.func26, Tryd.ntmps26
  go_wp2_with fail
  go_loopw [3, 11] (fun sv iv wr => ∃ t S : Nat, t ≤ T ∧ S ≤ N ∧ iv = .int .i64 (t : Int) ∧ sv = .int .i64 (S : Int) ∧ Hid (S = sumT L t) ∧ Hid (Kept Nought w wr)) (fun _ iv _ => T - (intOf iv).toNat)
  case atStart => exact ⟨0, 0, by omega, by omega, rfl, rfl, rfl, Kept.refl _ _⟩
  case round =>
    obtain ⟨t, S, ht, hSN, rfl, rfl, HS, HK0⟩ := hrel
    by_cases htT : t < T
    · have g1 : (t : Int) < (T : Int) := by omega
      have d0 := JC.out _ HK0.out t htT
      have hle := HLE.out t htT
      obtain ⟨ao, hao⟩ : ∃ ao, ao = A t := ⟨_, rfl⟩
      obtain ⟨l, hll⟩ : ∃ l, l = L t := ⟨_, rfl⟩
      obtain ⟨cp, hcp⟩ : ∃ cp, cp = C t := ⟨_, rfl⟩
      rw [← hao, ← hll, ← hcp] at d0
      obtain ⟨S2, hS2⟩ : ∃ S2, S2 = S + l := ⟨_, rfl⟩
      have HS2 : Hid (S2 = sumT L (t + 1)) := by
        unfold Hid
        rw [hS2, HS.out, hll]
        rfl
      rw [← HS2.out] at hle
      have gS : (S : Int) + (l : Int) = (S2 : Int) := by omega
      have gn : ¬ (S2 : Int) < 0 := by omega
      clear hao hll hcp hS2 HS
      go_wp2_with fail
      go_roundw
      case rel => exact ⟨t + 1, S2, by omega, hle, by go_num, rfl, HS2.out, HK0.out⟩
      case measure => simp [intOf]; omega
    · obtain rfl : t = T := by omega
      obtain rfl : S = N := HS.out.trans HN.out.symm
      have g1 : ¬ (t : Int) < (t : Int) := by omega
      have gNN : ¬ (S : Int) < 0 := by omega
      go_wp2_with fail
      refine (JG.out _).mono ?_
      rintro e w1 ⟨v1, rfl, o1, k1⟩
      obtain ⟨vo1, vc1, rfl⟩ := own_slice o1
      have HO1 := toHid (OwnB.base o1 HK0.out.size)
      have HK1 := toHid (HK0.out.trans k1)
      clear o1 k1 HK0 HS
      go_wp2_with fail
      go_loopw [6, 27] (fun ov iv wr => ∃ (k : Nat) (ls : List Nat) (n : Nat) (ao : Option Addr) (cc : Nat), k ≤ t ∧ iv = .int .i64 (k : Int) ∧ ov = .slice ao n cc ∧ n ≤ S ∧ Hid (ls = catT Z k) ∧ Hid (ls.length = n) ∧ Hid (OwnB wr w.heap.size (.slice ao n cc) ls) ∧ Hid (Kept Nought w wr)) (fun _ iv _ => t - (intOf iv).toNat)
      case atStart => exact ⟨0, [], 0, _, _, by omega, rfl, rfl, by omega, rfl, rfl, HO1.out, HK1.out⟩
      case round =>
        clear HO1 HK1
        obtain ⟨k, ls, n, ao, cc, hk, rfl, rfl, hn, HLS, HLN, HO, HK⟩ := hrel
        by_cases hkt : k < t
        · have g2 : (k : Int) < (t : Int) := by omega
          have d0 := JC.out _ HK.out k hkt
          have r0 := JX.out _ HK.out k hkt
          have hle := HLE.out k hkt
          have hlen := HLen.out k hkt
          have HZ : Hid (ls ++ Z k = catT Z (k + 1)) := by
            unfold Hid
            rw [HLS.out]
            rfl
          have hls : (ls ++ Z k).length ≤ S := by
            rw [HZ.out, catT_len HLen.out (by omega)]
            exact hle
          obtain ⟨bo, hbo⟩ : ∃ ao, ao = A k := ⟨_, rfl⟩
          obtain ⟨l, hll⟩ : ∃ l, l = L k := ⟨_, rfl⟩
          obtain ⟨cp, hcp⟩ : ∃ cp, cp = C k := ⟨_, rfl⟩
          rw [← hbo, ← hll, ← hcp] at d0 r0
          have HR := toHid r0
          have HLS2 := toHid hls
          obtain ⟨zs, hzs⟩ : ∃ zs, zs = Z k := ⟨_, rfl⟩
          rw [← hzs] at HR HZ HLS2
          have hsz := HK.out.size
          clear r0 hle hlen hls hbo hll hcp hzs HLS
          go_wp2_with (at_builtin; refine wpList_append_nm rfl _ _ rfl w.heap.size _ ls rfl HO.out _ rfl zs HR.out ?qc hsz ?_)
          case qc =>
            have h1 := HLS2.out
            rw [List.length_append] at h1
            omega
          intro l4 ao4 n4 c4 w4 e4 f4 ho4 kk4
          have HO4 := toHid ho4
          have HK4 : Hid (Kept Nought w w4) := HK.out.next kk4 (fun x hx h => by omega)
          have HL4 : Hid (l4 = catT Z (k + 1)) := e4.out.trans HZ.out
          have hn4 : n4 ≤ S := by
            have h1 := HLS2.out
            rw [← e4.out, f4.out] at h1
            exact h1
          clear ho4 kk4 HO HK d0 hsz e4
          go_wp2_with fail
          go_roundw
          case rel => exact ⟨k + 1, l4, n4, _, _, by omega, by go_num, rfl, hn4, HL4.out, f4.out, HO4.out, HK4.out⟩
          case measure => simp [intOf]; omega
        · obtain rfl : k = t := by omega
          have g2 : ¬ (k : Int) < (k : Int) := by omega
          go_wp2_with fail
          go_ret
          exact ⟨_, rfl, by rw [← HLS.out]; exact HO.out, HK.out⟩

end Go.Proofs.YtnhkfdbeacmepaaDoor


/- Package oaep: Encode. -/
namespace Go.Proofs.YtnhkfdbeacmepaaDoor
open Go.RowKit Go.Shelf

/-- A row of bytes that came in lies apart from a script. -/
theorem lsc_apart24 {w : World} {p : Option Addr} {B : Nat} {bs : List Nat} (h : Lsc w p B bs) {k : IntKind} {b off : Nat} {z : Int} (hk : k ≠ .i64) (hc : w.cell? ⟨b, off, none⟩ = some (.int k z)) : ¬ ofP p b := by
  rcases h with ⟨rfl, _⟩ | ⟨b2, sv, ps, kk, rfl, _, h1, hrow, _⟩
  · intro f
    cases f
  · intro f
    have e : b2 = b := by simpa [ofP] using f
    subst e
    obtain ⟨so, sc, e, _⟩ := hrow
    subst e
    simp only [World.cell?, h1] at hc
    match off, hc with
    | 0, hc => simp at hc
    | 1, hc =>
      simp at hc
      exact hk hc.1.symm
    | j + 2, hc => simp at hc

theorem lsc_row24 {w : World} {p : Option Addr} {B : Nat} {bs xs : List Nat} {v : Value} (h : Lsc w p B bs) (hr : Row .u8 w v xs) (hne : xs ≠ []) : ∀ x, v.ownBlock = some x → ¬ ofP p x := by
  intro x hx
  obtain ⟨ao, cap, rfl, _, _, _, h4⟩ := hr
  obtain ⟨b2, off, rfl, hc⟩ := h4 0 (by cases xs with
    | nil => exact absurd rfl hne
    | cons a l => simp)
  have e : b2 = x := by simpa [Value.ownBlock] using hx
  subst e
  exact lsc_apart24 h (by decide) hc

theorem TabH.read {w w' : World} {p : Option Addr} {B : Nat} {bs : List Nat} (h : TabH w) (hs : Lsc w p B bs) (k : Kept (ofP p) w w') : TabH w' := h.but k fun x hx => by
  rcases hx with rfl | rfl | rfl | rfl | rfl
  · exact lsc_apart24 hs (by decide) (h.t11.start 0 (by omega))
  · exact lsc_apart24 hs (by decide) (h.t11.words 0 (by omega))
  · exact lsc_apart24 hs (by decide) (h.t12.start 0 (by omega))
  · exact lsc_apart24 hs (by decide) (h.t12.short 0 (by omega))
  · exact lsc_apart24 hs (by decide) (h.t12.words 0 (by omega))

/-- Concat of the six rows that Encode lays. -/
theorem zSix (w2 : World) (a0 a1 a2 a3 a5 : Option Addr) (l1 l2 l3 l5 c0 c1 c2 c3 c5 : Nat) (S nm zs ms : List Nat) (h0 : Row .u8 w2 (.slice a0 1 c0) [0]) (h1 : Row .u8 w2 (.slice a1 l1 c1) S) (h2 : Row .u8 w2 (.slice a2 l2 c2) nm) (h3 : Row .u8 w2 (.slice a3 l3 c3) zs) (h5 : Row .u8 w2 (.slice a5 l5 c5) ms) (hb : l1 + l2 + l3 + l5 ≤ 100000) :
    Calls Tryd.prog 26 #[.slice (some ⟨w2.heap.size + 1, 0, none⟩) 6 6] ((w2.alloc (.cells #[.int .u8 1] 5)).alloc (.cells #[.slice a0 1 c0, .slice a1 l1 c1, .slice a2 l2 c2, .slice a3 l3 c3, .slice (some ⟨w2.heap.size, 0, none⟩) 1 1, .slice a5 l5 c5] 22)) fun e w' => ∃ v', e = .returned v' ∧ OwnB w' w2.heap.size v' ([0] ++ S ++ (nm ++ zs ++ [1] ++ ms)) ∧ Kept Nought w2 w' := by
  obtain ⟨w3, hw3⟩ : ∃ w3, w3 = w2.alloc (.cells #[.int .u8 1] 5) := ⟨_, rfl⟩
  have hs3 : w3.heap.size = w2.heap.size + 1 := by rw [hw3, World.size_alloc]
  obtain ⟨w4, hw4⟩ : ∃ w4, w4 = w3.alloc (.cells #[.slice a0 1 c0, .slice a1 l1 c1, .slice a2 l2 c2, .slice a3 l3 c3, .slice (some ⟨w2.heap.size, 0, none⟩) 1 1, .slice a5 l5 c5] 22) := ⟨_, rfl⟩
  have k23 : Kept Nought w2 w3 := by rw [hw3]; exact (Kept.refl _ _).alloc _
  have k34 : Kept Nought w3 w4 := by rw [hw4]; exact (Kept.refl _ _).alloc _
  rw [← hs3, ← hw3, ← hw4]
  have o3 : Row .u8 w4 (.slice (some ⟨w2.heap.size, 0, none⟩) 1 1) [1] := by
    refine Row.grew ?_ k34
    rw [hw3]
    exact (own_lit8 w2 [1] _ rfl 1 rfl (by omega) (by omega)).row
  have k24 := k23.trans k34
  have r0 := h0.grew k24
  have r1 := h1.grew k24
  have r2 := h2.grew k24
  have r3 := h3.grew k24
  have r5 := h5.grew k24
  have hb4 : w4.heap[w3.heap.size]? = some (.cells #[.slice a0 1 c0, .slice a1 l1 c1, .slice a2 l2 c2, .slice a3 l3 c3, .slice (some ⟨w2.heap.size, 0, none⟩) 1 1, .slice a5 l5 c5] 22 (0, 0)) := by
    rw [hw4]
    exact heap_alloc_new _ _
  obtain ⟨A, hA⟩ : ∃ A : Nat → Option Addr, ∀ i, A i = if i = 0 then a0 else if i = 1 then a1 else if i = 2 then a2 else if i = 3 then a3 else if i = 4 then some ⟨w2.heap.size, 0, none⟩ else a5 := ⟨_, fun _ => rfl⟩
  obtain ⟨L, hL⟩ : ∃ A : Nat → Nat, ∀ i, A i = if i = 0 then 1 else if i = 1 then l1 else if i = 2 then l2 else if i = 3 then l3 else if i = 4 then 1 else l5 := ⟨_, fun _ => rfl⟩
  obtain ⟨C, hC⟩ : ∃ A : Nat → Nat, ∀ i, A i = if i = 0 then c0 else if i = 1 then c1 else if i = 2 then c2 else if i = 3 then c3 else if i = 4 then 1 else c5 := ⟨_, fun _ => rfl⟩
  obtain ⟨Z, hZ⟩ : ∃ A : Nat → List Nat, ∀ i, A i = if i = 0 then [0] else if i = 1 then S else if i = 2 then nm else if i = 3 then zs else if i = 4 then [1] else ms := ⟨_, fun _ => rfl⟩
  have hsum : sumT L 6 = 2 + l1 + l2 + l3 + l5 := by
    simp only [sumT, hL]
    simp
    omega
  have hcat : catT Z 6 = [0] ++ S ++ (nm ++ zs ++ [1] ++ ms) := by
    simp only [catT, hZ]
    simp
  rw [← hcat]
  clear hw3 hw4 k23 k34 h0 h1 h2 h3 h5
  refine Calls.mono (sConcatN w3.heap.size 0 6 A L C Z w4 (by omega) (fun i hi => ?_) (fun i hi => ?_) (by rw [hsum]; omega) (by rw [hsum]; omega)) ?_
  · have h4 : i = 0 ∨ i = 1 ∨ i = 2 ∨ i = 3 ∨ i = 4 ∨ i = 5 := by omega
    rcases h4 with rfl | rfl | rfl | rfl | rfl | rfl <;> rw [hA, hL, hC]
    · exact (cell_of_row _ _ 0 _ _ _ hb4).trans rfl
    · exact (cell_of_row _ _ 1 _ _ _ hb4).trans rfl
    · exact (cell_of_row _ _ 2 _ _ _ hb4).trans rfl
    · exact (cell_of_row _ _ 3 _ _ _ hb4).trans rfl
    · exact (cell_of_row _ _ 4 _ _ _ hb4).trans rfl
    · exact (cell_of_row _ _ 5 _ _ _ hb4).trans rfl
  · have h4 : i = 0 ∨ i = 1 ∨ i = 2 ∨ i = 3 ∨ i = 4 ∨ i = 5 := by omega
    rcases h4 with rfl | rfl | rfl | rfl | rfl | rfl <;> rw [hA, hL, hC, hZ]
    · exact r0
    · exact r1
    · exact r2
    · exact r3
    · exact o3
    · exact r5
  · rintro e w' ⟨v', rfl, ho, k⟩
    exact ⟨v', rfl, ho.base k24.size, k24.trans k⟩

set_option maxRecDepth 20000 in
set_option maxHeartbeats 4000000 in
/-- Encode. -/
theorem zEnc : OEnc TabH := by
  intro h lo ll lc lb mo M mc ms k p B bs w hT hh0 hh1 hk0 hk1 hlb dlb hll hm dm hM h hB db hl
  rename_i hi
  obtain ⟨_, _, _, e1, hML, -, -, -, -⟩ := hm.open
  cases e1
  obtain ⟨_, _, _, e1, hLL, -, -, -, -⟩ := hlb.open
  cases e1
  have HSC := toHid h
  have J1 := zRoom hi k w hk0 hk1
  have JZ := toHid fun W => z13Size hi W
  have JR := toHid fun W (kk : Kept Nought w W) (n : Int) => xRead p B bs n W (h.grew kk)
  have HRM : Hid (∀ W, Kept (ofP p) w W → Row .u8 W (.slice mo M mc) ms) := fun W kk => hm.kept' kk (fun hne x hx => lsc_row24 h hm hne x hx)
  have HRL : Hid (∀ W, Kept (ofP p) w W → Row .u8 W (.slice lo ll lc) lb) := fun W kk => hlb.kept' kk (fun hne x hx => lsc_row24 h hlb hne x hx)
  have HTB : Hid (∀ W, Kept (ofP p) w W → TabH W) := fun W kk => hT.read h kk
  have JS := toHid fun W (kk : Kept (ofP p) w W) => z13Sum hi (.slice lo ll lc) lb W (HTB.out W kk) (HRL.out W kk) dlb (by have := hLL.out; omega)
  have HML := toHid hML.out
  have HDB := toHid db
  have HDM := toHid dm
  clear h hm hlb dlb hLL hML hl dm db hT
  by_cases c1 : rmE hi k = 0
  case neg =>
    have HE : Hid (seE hi ms bs k = rmE hi k) := by unfold Hid seE; rw [if_pos c1]
    have HL0 : Hid (seL hi lb ms bs k = []) := by unfold Hid seL; rw [HE.out, if_neg c1]
    have HR0 : Hid (seR hi ms bs k = bs) := by unfold Hid seR; rw [if_pos (.inl c1)]
    have g1 : ¬ ((rmE hi k : Nat) : Int) = 0 := by omega
    generalize rmE hi k = E at *
    generalize rmN hi k = RN at *
    clear c1
    go_enter Tryd.func11, Tryd.ntmps11
    go_wp2_with fail
    refine J1.mono ?_
    rintro e w1 ⟨rfl, k1⟩
    clear J1
    go_wp2_with fail
    go_ret2
    exact ⟨_, by rw [HE.out]; rfl, ⟨by rw [HL0.out]; exact Row.nil _ _, fun b hb => by cases hb⟩, by rw [HR0.out]; exact HSC.out.grew k1, k1.any⟩
  obtain ⟨hz, hk1, hk2, hrn⟩ := rm_zero c1
  obtain ⟨hhe, hme⟩ := hsh_ok hz
  have hz64 := hsz_le hi
  obtain ⟨rn, hrn2⟩ : ∃ rn : Nat, rmN hi k = (rn : Int) := ⟨(rmN hi k).toNat, by omega⟩
  have HE : Hid (seE hi ms bs k = if M > rn then 231 else readE bs (hszN hi : Int)) := by
    unfold Hid seE
    rw [if_neg (by omega), HML.out, hrn2]
    by_cases c : M > rn
    · rw [if_pos c, if_pos (by omega)]
    · rw [if_neg c, if_neg (by omega)]
  rw [c1, hrn2] at J1
  rw [hhe] at JS
  by_cases c2 : M > rn
  · have HE1 : Hid (seE hi ms bs k = 231) := by unfold Hid; rw [HE.out, if_pos c2]
    have HL0 : Hid (seL hi lb ms bs k = []) := by unfold Hid seL; rw [HE1.out]; rfl
    have HR0 : Hid (seR hi ms bs k = bs) := by unfold Hid seR; rw [if_pos (.inr (by rw [HML.out, hrn2]; omega))]
    have g2 : (M : Int) > (rn : Int) := by omega
    have g2' : (rn : Int) < (M : Int) := by omega
    clear HE c1 c2 hrn hrn2
    go_enter Tryd.func11, Tryd.ntmps11
    go_wp2_with fail
    refine J1.mono ?_
    rintro e w1 ⟨rfl, k1⟩
    clear J1
    go_wp2_with fail
    go_ret2
    exact ⟨_, by rw [HE1.out]; rfl, ⟨by rw [HL0.out]; exact Row.nil _ _, fun b hb => by cases hb⟩, by rw [HR0.out]; exact HSC.out.grew k1, k1.any⟩
  have g2 : ¬ (M : Int) > (rn : Int) := by omega
  have g2' : ¬ (rn : Int) < (M : Int) := by omega
  have HE2 : Hid (seE hi ms bs k = readE bs (hszN hi : Int)) := by unfold Hid; rw [HE.out, if_neg c2]
  have HR0 : Hid (seR hi ms bs k = readR bs (hszN hi : Int)) := by unfold Hid seR; rw [if_neg]; rintro (e | e); exact e c1; rw [HML.out, hrn2] at e; omega
  have HLL : Hid (seL hi lb ms bs k = if seE hi ms bs k = 0 then [0] ++ xorN (readL bs (hszN hi : Int)) (mskN hi (xorN (seD hi lb ms rn) (mskN hi (readL bs (hszN hi : Int)) (seD hi lb ms rn).length)) (hszN hi)) ++ xorN (seD hi lb ms rn) (mskN hi (readL bs (hszN hi : Int)) (seD hi lb ms rn).length) else []) := by
    unfold Hid seL seX
    rw [hrn2]
    rfl
  have HDD : Hid (seD hi lb ms rn = hshN hi lb ++ List.replicate (rn - M) 0 ++ [1] ++ ms) := by unfold Hid seD; rw [HML.out]
  have HHL := toHid (hshN_length hi lb)
  have HHD := toHid (hshN_digs hi lb)
  have hRL := fun (e : readE bs (hszN hi : Int) = 0) => read_len e
  have HRLN := toHid hRL
  have HRDG : Hid (Digs 256 (readL bs (hszN hi : Int))) := read_digs HDB.out
  have hrs : rn + 2 * hszN hi + 2 ≤ 1024 := by omega
  have HZ := toHid hz
  obtain ⟨z, hzz⟩ : ∃ z, z = hszN hi := ⟨_, rfl⟩
  have HZZ := toHid hzz
  rw [← hzz] at HE2 HR0 HLL HHL HRLN HRDG hrs hz64 JZ
  clear HE c1 hrn hrn2 hhe hme hRL hk1 hk2 hz hzz
  go_enter Tryd.func11, Tryd.ntmps11
  go_wp2_with fail
  refine J1.mono ?_
  rintro e w1 ⟨rfl, k1⟩
  have HK1 := toHid k1
  have hS := JZ.out w1
  clear J1 k1
  go_wp2_with fail
  refine hS.mono ?_
  rintro e w2 ⟨rfl, k2⟩
  have HK2 := toHid (HK1.out.trans k2)
  have hR := JR.out w2 HK2.out (z : Int)
  clear hS k2 JZ JR HK1
  go_wp2_with fail
  refine hR.mono ?_
  rintro e w3 ⟨u3, rfl, o3, s3, k3⟩
  have HK3 : Hid (Kept (ofP p) w w3) := HK2.out.any.trans k3
  have HS3 : Hid (Lsc w3 p B (seR hi ms bs k)) := by unfold Hid; rw [HR0.out]; exact s3
  obtain ⟨so, sn, sc, rfl, hsn, -, -, -, -⟩ := o3.row.open
  have HR3 := toHid o3.row
  clear hR o3 s3 k3 HR0 HK2 HSC
  by_cases c3 : readE bs (z : Int) = 0
  case neg =>
    have HL0 : Hid (seL hi lb ms bs k = []) := by unfold Hid; rw [HLL.out, HE2.out, if_neg c3]
    have g3 : ¬ ((readE bs (z : Int) : Nat) : Int) = 0 := by omega
    generalize readE bs (z : Int) = E at *
    clear c3
    go_wp2_with fail
    go_ret2
    exact ⟨_, by rw [HE2.out]; rfl, ⟨by rw [HL0.out]; exact Row.nil _ _, fun b hb => by cases hb⟩, HS3.out, HK3.out⟩
  have hln := HRLN.out c3
  have HE0 : Hid (seE hi ms bs k = 0) := HE2.out.trans c3
  have HL1 := HLL.out
  rw [if_pos HE0.out] at HL1
  rw [c3]
  have hsn2 : sn = z := by have := hsn.out; omega
  subst hsn2
  have HRS := toHid hrs
  have dS : Digs 256 (readL bs (sn : Int)) := HRDG.out
  have dD : Digs 256 (seD hi lb ms rn) := by
    rw [HDD.out]
    exact ((HHD.out.append (rep_digs _)).append (Digs.one (by omega))).append HDM.out
  have lD : (seD hi lb ms rn).length = sn + (rn - M) + 1 + M := by
    rw [HDD.out]
    simp [HHL.out, HML.out]
    omega
  have e2 := unm_two (h := hi) (A := [0]) (S := readL bs (sn : Int)) (D := seD hi lb ms rn) rfl (by rw [hln, ← HZZ.out])
  rw [← HZZ.out] at e2
  have e1 := unm_one (h := hi) (em := [0] ++ readL bs (sn : Int) ++ xorN (seD hi lb ms rn) (mskN hi (readL bs (sn : Int)) (seD hi lb ms rn).length))
  rw [← HZZ.out] at e1
  have dX := xorN_digs dD (mskN_digs hi (readL bs (sn : Int)) (seD hi lb ms rn).length)
  have lX := xorN_length (seD hi lb ms rn) (mskN hi (readL bs (sn : Int)) (seD hi lb ms rn).length)
  generalize xorN (seD hi lb ms rn) (mskN hi (readL bs (sn : Int)) (seD hi lb ms rn).length) = X at *
  have hSum := JS.out w3 HK3.out
  generalize readL bs (sn : Int) = S at *
  have p1 : ([0] ++ S ++ X).drop (1 + sn) = X := by rw [List.drop_append_of_le_length (by simp; omega), List.drop_of_length_le (by simp; omega)]; rfl
  have p2 : (([0] ++ S ++ X).drop 1).take sn = S := by
    show (S ++ X).take sn = S
    rw [List.take_append_of_le_length (by omega), List.take_of_length_le (by omega)]
  have p3 : List.take 1 ([0] ++ S ++ X) = [0] := rfl
  rw [p1, p2, p3, ← HL1] at e1
  obtain ⟨N, hN⟩ : ∃ N, N = 1 + sn + (sn + (rn - M) + 1 + M) := ⟨_, rfl⟩
  have l0 : ([0] ++ S ++ seD hi lb ms rn).length = N := by simp [hln, lD, hN]; omega
  have l1 : ([0] ++ S ++ X).length = N := by simp [hln, lX, lD, hN]; omega
  obtain ⟨n1, hn1⟩ : ∃ n1, n1 = N - (1 + sn) := ⟨_, rfl⟩
  have lD1 : (seD hi lb ms rn).length = n1 := by rw [lD, hn1, hN]; omega
  have p4 : List.take n1 X = X := List.take_of_length_le (by omega)
  rw [l1, ← hn1] at e1
  rw [lD1] at e2
  have hz' := HZ.out
  rw [← HZZ.out] at hz'
  have HL1' : Hid (∀ a pp q b cap W o, LayS a none [] hi pp q b cap ([0] ++ S ++ seD hi lb ms rn) W o → TabH a → _) := fun a pp q b cap W o g hta => zLayS g (1 + sn) n1 1 sn (by rw [← HZZ.out]; exact hz') (TrRoom.none _ _ (by simp)) hta ApT.none (((Digs.one (by omega)).append dS).append dD) (by omega) (by omega) (by omega)
  have HL2' : Hid (∀ a pp q b cap W o, LayS a none ([] ++ [(1, (n1 : Int), 0)]) hi pp q b cap ([0] ++ S ++ X) W o → TabH a → _) := fun a pp q b cap W o g hta => zLayS g 1 sn (1 + sn) n1 (by rw [← HZZ.out]; exact hz') (TrRoom.none _ _ (by simp)) hta ApT.none (((Digs.one (by omega)).append dS).append dX) (by omega) (by omega) (by omega)
  rw [e2] at HL1'
  rw [p4] at e1
  rw [p1, p4] at HL2'
  rw [e1] at HL2'
  have HSL : Hid ((seL hi lb ms bs k).length = N) := by
    unfold Hid
    rw [← e1, lyB_length _ (by omega), l1]
  have HD0 : Hid ([0] ++ S ++ (hshN hi lb ++ List.replicate (rn - M) 0 ++ [1] ++ ms) = [0] ++ S ++ seD hi lb ms rn) := by unfold Hid; rw [HDD.out]
  have HN1 : Hid (n1 = N - (1 + sn)) := hn1
  have HLS := toHid hln
  obtain ⟨r, hr⟩ : ∃ r, r = rn - M := ⟨_, rfl⟩
  rw [← hr] at HD0
  have gr : (rn : Int) - (M : Int) = (r : Int) := by omega
  have hr1 : r ≤ 1024 := by omega
  have gsz : 2 * sn + 2 ≤ N := by omega
  have gN : sn + sn + r + M ≤ 100000 := by omega
  have HL0 := toHid l0
  have hT3 := toHid (HTB.out w3 HK3.out)
  have hM3 := toHid (HRM.out w3 HK3.out)
  obtain ⟨i0, hi0, hz0, hz1, hz2⟩ := info_parts Tryd.info8s
  generalize [0] ++ S ++ seD hi lb ms rn = B0 at *
  generalize [0] ++ S ++ X = B1 at *
  generalize seD hi lb ms rn = D at *
  clear HL1 e1 e2 p1 p2 p3 p4 l0 l1 lD lD1 lX dX dS dD hz' hr hn1 HLL HRLN HE2 c3 HRDG HDD HTB HRM HRL JS hln hrs c2 g2 g2' hN HDB HDM
  go_wp2_with fail
  refine hSum.mono ?_
  rintro e w4 ⟨u4, rfl, r4, _, k4⟩
  obtain ⟨no, nn, nc, rfl, hnl, -, -, -, -⟩ := r4.open
  obtain rfl : nn = sn := hnl.out.symm.trans HHL.out
  have HR4 := toHid r4
  have HK4 := toHid k4
  clear hSum r4 k4 hnl HHL
  go_wp2_with (at_make; refine wpList_make_full _ rfl _ _ 22 rfl (w4.alloc (.cells #[.int .u8 0] 5)).heap.size 5 i0 _ 1 Tryd.underlying22 hi0 hz0 hz1 _ _ _ _ r rfl rfl rfl rfl (by rw [hz2]; omega) (by unfold maxLen; omega) (Nat.le_refl _) ?_; intro w5 ho5 hg5; rw [zeros_map] at ho5; have k5 := ((Kept.refl Nought w4).alloc (.cells #[.int .u8 0] 5)).trans (grown_kept hg5); have J6 := zSix w5 (some ⟨w4.heap.size, 0, none⟩) so no (some ⟨w4.heap.size + 1, 0, none⟩) mo nn nn r M 1 sc nc r mc S (hshN hi lb) (List.replicate r 0) ms ((own_lit8 w4 [0] _ rfl 1 rfl (by omega) (by omega)).row.grew (grown_kept hg5)) (HR3.out.grew (HK4.out.trans k5)) (HR4.out.grew k5) (by rw [World.size_alloc] at ho5; exact Row.of_own (base := w4.heap.size + 1) (e := 5) (by rw [List.length_replicate]; exact ho5)) (hM3.out.grew (HK4.out.trans k5)) (by omega); have HK5 := toHid (HK4.out.trans k5); clear ho5 hg5 k5)
  rw [HD0.out] at J6
  refine J6.mono ?_
  rintro e w6 ⟨v6, rfl, o6, k6⟩
  obtain ⟨b, cap, rfl, hb6, hB6⟩ := Blk.of_own o6 (fun e => by have := HL0.out; rw [e] at this; simp at this; omega)
  have hs5 := HK5.out.size
  have HB6 := toHid hB6
  have HOB : Hid (w3.heap.size ≤ b) := Nat.le_trans hs5 hb6
  have HK6 := toHid (HK5.out.trans k6)
  have hcap : N ≤ cap ∧ cap ≤ maxLen := by
    obtain ⟨ts, _, h2, h3⟩ := hB6
    have := HL0.out
    exact ⟨by omega, h3⟩
  rw [HL0.out]
  have J7 := zCut b N cap nn w6 hz64 gsz hcap.1 hcap.2
  rw [← HN1.out] at J7
  clear J6 o6 k6 hB6 hb6 HK5 hs5 HK4 HR4 HR3 hM3 HD0
  go_wp2_with fail
  refine J7.mono ?_
  rintro e w7 ⟨rfl, k7⟩
  have HK7 := toHid (HK6.out.trans k7)
  have HB7 := toHid (HB6.out.grew k7)
  have J8 := zMasks none hi w7
  clear J7 k7 HK6 HB6
  go_wp2_with fail
  refine J8.mono ?_
  rintro e w8 ⟨rfl, b1, b2, _, k8⟩
  have HK8 := toHid (HK7.out.trans k8)
  have hS8 : LayS w3 none [] hi w7.heap.size (w7.heap.size + 1) b cap B0 w8 none := ⟨Did.of_kept HK8.out trivial, HOB.out, b1, b2, HB7.out.grew k8⟩
  generalize w7.heap.size = pp at *
  have J9 := HL1'.out _ _ _ _ _ _ _ hS8 hT3.out
  clear J8 b1 b2 k8 hS8 HK7 HB7 HL1' HK8
  go_wp2_with fail
  refine J9.mono ?_
  rintro e w9 ⟨rfl, o9, hS9⟩
  have J10 := HL2'.out _ _ _ _ _ _ _ hS9 hT3.out
  clear J9 HL2' hS9
  go_wp2_with fail
  refine J10.mono ?_
  rintro e w10 ⟨rfl, o10, hS10⟩
  have HS10 := toHid hS10
  clear J10 hS10
  go_wp2_with fail
  go_ret2
  obtain ⟨_, kk⟩ := HS10.out.did.none
  have hr := HS10.out.blk.row
  rw [HSL.out] at hr
  exact ⟨_, by rw [HE0.out]; rfl, ⟨hr, fun x hx => by
    have e : b = x := Option.some.inj hx
    have h1 := HOB.out
    have h2 := HK3.out.size
    omega⟩, HS3.out.grew kk, HK3.out.trans kk.any⟩

end Go.Proofs.YtnhkfdbeacmepaaDoor


/- Package oaep: what the laws ask of it. -/
namespace Go.Proofs.YtnhkfdbeacmepaaDoor
open Go.RowKit

theorem oStands : Stands TabH := fun _ _ h k => h.grew k

theorem oDec : ODec TabH := fun h lo ll lc lb eo L ec em w hT _ _ hl dl hll he de _ => by
  refine (zDec none h lo ll lc lb eo L ec em w hT ApT.none (TrRoom.none _ _ (by omega)) hl dl hll (RowB.none he) de).mono ?_
  rintro e w' ⟨u, rfl, hu, o', d⟩
  exact ⟨u, rfl, hu, d.none.2⟩

theorem oRoo : ORoo := fun h k w _ _ hk0 hk1 => zRoom h k w hk0 hk1

end Go.Proofs.YtnhkfdbeacmepaaDoor


/- The walk of the statement on how much room there is, of the landed contracts. (written by wip/gen/w24.py) -/
namespace Go.Proofs.YtnhkfdbeacmepaaDoor
open Go.RowKit

set_option maxRecDepth 100000 in
set_option maxHeartbeats 4000000 in
theorem wOaepRooms {T : World → Prop} (hT : Stands T) (hE : OEnc T) (hD : ODec T) (hR : ORoo) (h k : Int) (w : World) (hh : (Lit.int .i64 h).wf = true) (hk : (Lit.int .i64 k).wf = true) (ht : T w) :
    Calls Tryd.prog 5 #[.int .i64 h, .int .i64 k] w fun e w' => e = .returned (.bool true) ∧ Below w.heap.size w w' := by
  obtain ⟨hh0, hh1⟩ := bounds_i64 hh
  obtain ⟨hk0, hk1⟩ := bounds_i64 hk
  have J0 := f24Awake hT hE hD hR w ht
  have J1 := toHid fun W => hR h k W hh0 hh1 hk0 hk1
  have J2 := toHid fun W => r23Room h k W
  generalize rmN h k = N at *
  generalize rmE h k = E at *
  clear hh hk hT hE hD hR ht
  go_enter Tryd.func5, Tryd.ntmps5
  go_wp2_with fail
  refine J0.mono ?_
  rintro r w1 ⟨rfl, k1⟩
  have HK1 := toHid k1
  clear J0 k1
  go_wp2_with fail
  refine (J1.out w1).mono ?_
  rintro r w2 ⟨rfl, k2⟩
  have HK2 := toHid (HK1.out.trans k2)
  clear J1 k2
  go_wp2_with fail
  refine (J2.out w2).mono ?_
  rintro r w3 ⟨rfl, k3⟩
  have HK3 : Hid (Kept Nought w w3) := HK2.out.trans k3
  clear J2 k3
  go_wp2_with fail
  go_ret
  exact ⟨by first | rfl | simp, below_kept HK3.out (Nat.le_refl _)⟩

end Go.Proofs.YtnhkfdbeacmepaaDoor


/- The law OaepRooms, walked. -/
namespace Go.Proofs.YtnhkfdbeacmepaaDoor
open Go.RowKit

theorem walkOaepRooms (h k : Int) (w : World) (hh : (Lit.int .i64 h).wf = true) (hk : (Lit.int .i64 k).wf = true) (ht : TabH w) :
    Calls Tryd.prog 5 #[.int .i64 h, .int .i64 k] w fun e w' => e = .returned (.bool true) ∧ Below w.heap.size w w' :=
  wOaepRooms oStands zEnc oDec oRoo h k w hh hk ht

end Go.Proofs.YtnhkfdbeacmepaaDoor

