/- Melted of: Ref6A Ref6B Ref6C. -/
import Derived.Test.YtamkkmifbajdfaaGreatBigM
import Derived.Test.YtamkkmifbajdfaaGreatBase2
import Derived.Test.YtamkkmifbajdfaaGreatInv0
import Derived.Test.YtamkkmifbajdfaaGreatBase1
import Derived.Test.YtamkkmifbajdfaaGreatBase3

/- The plain side of layer 6 (package sconceref06): any number as a modulus. -/
namespace Go.Proofs.YtamkkmifbajdfaaGreat
open Go.RowKit

/-- The error's number of a modulus. -/
def montE (V : Nat) : Nat := if 130 < wordsN V then 2 else if V < 2 then 1 else if V % 2 = 0 then 60 else 0

/-- K is the number that goes with the modulus V. -/
def isKf (V K : Nat) : Prop := K < 18446744073709551616 ∧ (montE V = 0 → (V * K + 1) % 18446744073709551616 = 0) ∧ (montE V ≠ 0 → K = 0)

def modM (V : Nat) : List Nat := if montE V = 0 then digs 18446744073709551616 V (wordsN V) else []

def modR (V : Nat) : List Nat := if montE V = 0 then digs 18446744073709551616 (2 ^ (128 * wordsN V) % V) (wordsN V) else []

theorem montE_ok {V : Nat} (h : montE V = 0) : wordsN V ≤ 130 ∧ 2 ≤ V ∧ V % 2 = 1 := by
  unfold montE at h
  by_cases h1 : 130 < wordsN V
  · rw [if_pos h1] at h; omega
  · rw [if_neg h1] at h
    by_cases h2 : V < 2
    · rw [if_pos h2] at h; omega
    · rw [if_neg h2] at h
      by_cases h3 : V % 2 = 0
      · rw [if_pos h3] at h; omega
      · omega

theorem isKf_uniq {V K K' : Nat} (h : isKf V K) (h' : isKf V K') : K = K' := by
  by_cases h0 : montE V = 0
  · have e1 := h.2.1 h0
    have e2 := h'.2.1 h0
    have o := (montE_ok h0).2.2
    have l1 := h.1
    have l2 := h'.1
    have i1 : (18446744073709551616 : Int) ∣ 1 - (V : Int) * (-(K : Int)) := by
      have : (((V * K + 1 : Nat) : Int)) = 1 - (V : Int) * (-(K : Int)) := by rw [Int.mul_neg]; omega
      rw [← this]; omega
    have i2 : (18446744073709551616 : Int) ∣ 1 - (V : Int) * (-(K' : Int)) := by
      have : (((V * K' + 1 : Nat) : Int)) = 1 - (V : Int) * (-(K' : Int)) := by rw [Int.mul_neg]; omega
      rw [← this]; omega
    have key : ∀ (X : Nat), X < 18446744073709551616 → (18446744073709551616 : Int) ∣ 1 - (V : Int) * (-(X : Int)) → (18446744073709551616 : Int) ∣ 1 - (V : Int) * ((-(X : Int)) % 18446744073709551616) := by
      intro X _ hX
      obtain ⟨t, ht⟩ : ∃ t, (-(X : Int)) % 18446744073709551616 = -(X : Int) + 18446744073709551616 * t := ⟨((-(X : Int)) % 18446744073709551616 + X) / 18446744073709551616, by omega⟩
      rw [ht, Int.mul_add, Int.mul_left_comm]
      generalize (V : Int) * t = q
      generalize (V : Int) * (-(X : Int)) = p at *
      omega
    have := inv_uniq (V : Int) _ _ (by omega) (by omega) (by omega) (by omega) (key K l1 i1) (key K' l2 i2)
    omega
  · rw [h.2.2 h0, h'.2.2 h0]

/-- The words that a number needs, by its highest word that is not 0. -/
theorem words_trim {xs : List Nat} {n : Nat} (hd : Digs 18446744073709551616 xs) (hn : n ≤ xs.length) (hz : ∀ i, n ≤ i → xs.getD i 0 = 0) (ht : n = 0 ∨ xs.getD (n - 1) 0 ≠ 0) : wordsN (val 18446744073709551616 xs) = n ∧ val 18446744073709551616 (xs.take n) = val 18446744073709551616 xs := by
  have e := take_trim (B := 18446744073709551616) hn hz
  refine ⟨?_, e⟩
  have hl : (xs.take n).length = n := by rw [List.length_take]; omega
  have hlt := val_lt (by omega) (hd.take n)
  rw [e, hl] at hlt
  have h1 := (wordsN_le (val 18446744073709551616 xs) n).2 hlt
  have h2 : ¬ wordsN (val 18446744073709551616 xs) ≤ n - 1 ∨ n = 0 := by
    rcases ht with h0 | h0
    · exact .inr h0
    · by_cases hn0 : n = 0
      · exact .inr hn0
      · left
        intro h
        have h3 := (wordsN_le _ _).1 h
        have ht2 : Trimmed (xs.take n) := trimmed_take hn (.inr h0)
        have h4 := val_le_of_top (B := 18446744073709551616) ht2 (by omega)
        rw [e, hl] at h4
        omega
  omega

/-- K, out of the inverse. -/
theorem isKf_of {V d : Nat} {x : Int} (hV : montE V = 0) (hd : d % 18446744073709551616 = V % 18446744073709551616) (hi : isInv (d : Int) x) : ∃ K : Nat, IntKind.u64.wrap (-x) = (K : Int) ∧ isKf V K := by
  obtain ⟨x0, x1, h1, _⟩ := hi
  have o := (montE_ok hV).2.2
  have hx := h1 (by omega)
  refine ⟨(IntKind.u64.wrap (-x)).toNat, by rw [IntKind.wrap_u64]; omega, by rw [IntKind.wrap_u64]; omega, fun _ => ?_, fun h => absurd hV h⟩
  rw [IntKind.wrap_u64]
  obtain ⟨K, hK⟩ : ∃ K : Nat, ((-x) % 18446744073709551616).toNat = K := ⟨_, rfl⟩
  rw [hK]
  obtain ⟨t, ht⟩ : ∃ t : Int, (K : Int) = -x + 18446744073709551616 * t := ⟨((K : Int) + x) / 18446744073709551616, by omega⟩
  obtain ⟨s, hs⟩ : ∃ s : Int, (V : Int) = (d : Int) + 18446744073709551616 * s := ⟨((V : Int) - d) / 18446744073709551616, by omega⟩
  have e : ((V * K + 1 : Nat) : Int) = 1 - (d : Int) * x + 18446744073709551616 * ((d : Int) * t + s * (K : Int)) := by
    have h1 : (V : Int) * (K : Int) = (d : Int) * (K : Int) + 18446744073709551616 * (s * (K : Int)) := by rw [hs, Int.add_mul, Int.mul_assoc]
    have h2 : (d : Int) * (K : Int) = -((d : Int) * x) + 18446744073709551616 * ((d : Int) * t) := by rw [ht, Int.mul_add, Int.mul_neg, Int.mul_left_comm]
    have h3 : ((V * K + 1 : Nat) : Int) = (V : Int) * (K : Int) + 1 := by simp
    rw [h3, h1, h2, Int.mul_add]
    omega
  have : (18446744073709551616 : Int) ∣ ((V * K + 1 : Nat) : Int) := by
    rw [e]; omega
  omega

end Go.Proofs.YtamkkmifbajdfaaGreat

/- The plain side of layer 6: Setup. -/
namespace Go.Proofs.YtamkkmifbajdfaaGreat
open Go.RowKit

/-- The cells of a modulus. -/
def modCells (a : Value) (K : Nat) (b : Value) : Array Value := #[a, .int .u64 (K : Nat), b]

/-- A number's lowest digit. -/
theorem big_low {w : World} {v : Value} {V : Nat} (h : IsBig w v V) (hV : 0 < V) : ∃ b off n cap d, v = .slice (some ⟨b, off, none⟩) n cap ∧ 0 < n ∧ w.cell? ⟨b, off, none⟩ = some (.int .u32 (d : Nat)) ∧ d < 4294967296 ∧ d % 2 = V % 2 := by
  obtain ⟨ds, hr, hd, ht, rfl, hl⟩ := h
  obtain ⟨ao, n, cap, rfl, hN, _, _, _, h4⟩ := hr.open
  have hn : 0 < n := by
    rw [← hN.out]
    rcases ds with _ | ⟨d, r⟩
    · simp [val] at hV
    · simp
  obtain ⟨b, off, rfl, hc⟩ := h4 0 hn
  refine ⟨b, off, n, cap, _, rfl, hn, hc, hd.getD (by omega) 0, ?_⟩
  rcases ds with _ | ⟨d, r⟩
  · simp [val] at hV
  · simp only [val, List.getD_cons_zero]
    omega

theorem low_word {V n : Nat} (hn : 0 < n) : (digs 18446744073709551616 V n).getD 0 0 = V % 18446744073709551616 := by
  rw [digs_getD _ _ _ _ hn, dig, Nat.pow_zero, Nat.div_one]

theorem mod_bad {V : Nat} (h : montE V ≠ 0) : modM V = [] ∧ modR V = [] ∧ isKf V 0 := by
  refine ⟨if_neg h, if_neg h, by omega, fun e => absurd e h, fun _ => rfl⟩

theorem stored3 {w w3 : World} {p : Nat} {a b c : Value} {t : TypeId} (hk : Kept Nought w w3) (hp : w.heap.size ≤ p) (hbx : w3.heap[p]? = some (.cells #[a, b, c] t (0, 0))) (x y z : Value) :
    (((w3.setCell ⟨p, 0, none⟩ x).setCell ⟨p, 1, none⟩ y).setCell ⟨p, 2, none⟩ z).heap[p]? = some (.cells #[x, y, z] t (0, 0)) ∧ Kept Nought w (((w3.setCell ⟨p, 0, none⟩ x).setCell ⟨p, 1, none⟩ y).setCell ⟨p, 2, none⟩ z) ∧ Kept (fun q => q = p) w3 (((w3.setCell ⟨p, 0, none⟩ x).setCell ⟨p, 1, none⟩ y).setCell ⟨p, 2, none⟩ z) := by
  refine ⟨?_, ?_, ?_⟩
  · have h1 := heap_setCell_same w3 p 0 _ _ x hbx
    have h2 := heap_setCell_same _ p 1 _ _ y h1
    have h3 := heap_setCell_same _ p 2 _ _ z h2
    simpa using h3
  · exact ((hk.setCell ⟨p, 0, none⟩ (fun h => by simp at h; omega) _).setCell ⟨p, 1, none⟩ (fun h => by simp at h; omega) _).setCell ⟨p, 2, none⟩ (fun h => by simp at h; omega) _
  · exact (((Kept.refl (fun q => q = p) w3).setCell ⟨p, 0, none⟩ (fun _ => rfl) _).setCell ⟨p, 1, none⟩ (fun _ => rfl) _).setCell ⟨p, 2, none⟩ (fun _ => rfl) _

/-- The zero modulus. -/
abbrev zeroMod : Array Value := #[.slice none 0 0, .int .u64 0, .slice none 0 0]

set_option maxRecDepth 40000 in
set_option maxHeartbeats 4000000 in
theorem q6Setup (ao : Option Addr) (L cap : Nat) (xs : List Nat) (V E : Nat) (hV : V = val 18446744073709551616 xs) (hE : E = montE V) (w : World) (hu : Row .u64 w (.slice ao L cap) xs) (hd : Digs 18446744073709551616 xs) (hL : L ≤ 1000000) :
    Calls Tryz.prog 19 #[.slice ao L cap] w fun e w' => ∃ a K b, e = .returned (.tuple #[.agg (modCells a K b), .int .i64 (E : Nat)]) ∧ Row .u64 w' a (modM V) ∧ Row .u64 w' b (modR V) ∧ isKf V K ∧ Kept Nought w w' := by
  obtain ⟨ao', L', cap', e0, hLx, c1, c2, c3, h4⟩ := hu.open
  simp only [Value.slice.injEq] at e0
  obtain ⟨rfl, rfl, rfl⟩ := e0
  have HTrim : Hid (∀ n, n ≤ L → (∀ i, n ≤ i → xs.getD i 0 = 0) → (n = 0 ∨ xs.getD (n - 1) 0 ≠ 0) → wordsN V = n ∧ Row .u64 w (.slice ao n cap) (xs.take n) ∧ val 18446744073709551616 (xs.take n) = V ∧ Digs 18446744073709551616 (xs.take n)) := fun n hn hz ht => by
    have hn' : n ≤ xs.length := by rw [hLx.out]; exact hn
    obtain ⟨h1, h2⟩ := words_trim hd hn' hz ht
    rw [hV]
    exact ⟨h1, hu.cut hn', h2, hd.take n⟩
  have HL0 : Hid (∀ i, L ≤ i → xs.getD i 0 = 0) := fun i hi => by have := hLx.out; rw [List.getD_eq_getElem?_getD, List.getElem?_eq_none (by omega)]; rfl
  have HN := toHid h4
  have HE := toHid hE
  clear hu hd hV hE h4 c3
  go_enter Tryz.func19, Tryz.ntmps19
  go_wp2_with fail
  go_loop [4] (fun a => ∃ n : Nat, n ≤ L ∧ a = .int .i64 (n : Int) ∧ Hid (∀ i, n ≤ i → xs.getD i 0 = 0)) (fun a => (intOf a).toNat)
  case atStart => exact ⟨L, Nat.le_refl _, rfl, HL0⟩
  case round =>
    obtain ⟨n, hn, rfl, hz⟩ := hrel
    by_cases hmore : 0 < n ∧ xs.getD (n - 1) 0 = 0
    · obtain ⟨hn0, hx0⟩ := hmore
      obtain ⟨m, rfl⟩ : ∃ m, n = m + 1 := ⟨n - 1, by omega⟩
      rw [Nat.add_sub_cancel] at hx0
      obtain ⟨b, off, rfl, hc⟩ := HN.out m (by omega)
      rw [hx0] at hc
      have hc' := ((Kept.refl Nought w).alloc (.cells #[.slice none 0 0, .int .u64 0, .slice none 0 0] 34)).cellN hc
      have g1 : ((m + 1 : Nat) : Int) > 0 := by omega
      go_wp2_with fail
      go_round
      case rel => exact ⟨m, by omega, rfl, fun i hi => by
        by_cases e : i = m
        · subst e; exact hx0
        · exact hz.out i (by omega)⟩
      case measure => simp [intOf]
    · have ht : n = 0 ∨ xs.getD (n - 1) 0 ≠ 0 := by omega
      obtain ⟨hw, hrow, hval, hdd⟩ := HTrim.out n hn hz.out ht
      have HW := toHid hw
      have k0 : Kept Nought w (w.alloc (.cells #[.slice none 0 0, .int .u64 0, .slice none 0 0] 34)) := (Kept.refl Nought w).alloc _
      have hbox0 : (w.alloc (.cells #[.slice none 0 0, .int .u64 0, .slice none 0 0] 34)).heap[w.heap.size]? = some (.cells #[.slice none 0 0, .int .u64 0, .slice none 0 0] 34 (0, 0)) := heap_alloc_new _ _
      have hOf := rOf _ (xs.take n) _ (hrow.grew k0) hdd (by rw [List.length_take]; omega)
      rw [hval] at hOf
      have HC : Hid (0 < n → ∃ b off x, ao = some ⟨b, off, none⟩ ∧ (w.alloc (.cells #[.slice none 0 0, .int .u64 0, .slice none 0 0] 34)).cell? ⟨b, off + (n - 1), none⟩ = some (.int .u64 (x : Nat)) ∧ x ≠ 0) := fun h0 => by
        obtain ⟨b, off, e, hc⟩ := HN.out (n - 1) (by omega)
        exact ⟨b, off, _, e, k0.cellN hc, by omega⟩
      clear hw hrow hval hdd HN HTrim HL0 hz
      have hboxK : Hid (∀ W, Kept Nought (w.alloc (.cells zeroMod 34)) W → W.heap[w.heap.size]? = some (.cells zeroMod 34 (0, 0))) := fun W kk => (kk.block _ (lt_of_block hbox0) (fun f => f)).trans hbox0
      have HK0 := toHid k0
      by_cases hA : 130 < n
      · have e2 : Hid (montE V = 2) := by unfold Hid montE; rw [HW.out, if_pos hA]
        obtain rfl : E = 2 := HE.out.trans e2.out
        have HQ := toHid (mod_bad (V := V) (by rw [e2.out]; omega))
        obtain ⟨b, off, x, rfl, hc, hx⟩ := HC.out (by omega)
        obtain ⟨m, rfl⟩ : ∃ m, n = m + 1 := ⟨n - 1, by omega⟩
        rw [Nat.add_sub_cancel] at hc
        have g1 : ((m + 1 : Nat) : Int) > 0 := by omega
        have g2 : ((m + 1 : Nat) : Int) > 130 := by omega
        have g3 : ¬ ((x : Int) = 0) := by omega
        clear hOf HC ht hmore
        go_wp2_with fail
        exact bodyPost_ret (v := .tuple #[.agg zeroMod, .int .i64 2]) (by simp [results, Tryz.results19, go_sem]) rfl ⟨_, 0, _, rfl, by rw [HQ.out.1]; exact Row.nil _ _, by rw [HQ.out.2.1]; exact Row.nil _ _, HQ.out.2.2, HK0.out⟩
      · have hS2 := fun W => rSmall 2 (by omega) W
        by_cases hB : V < 2
        · have e2 : Hid (montE V = 1) := by unfold Hid montE; rw [HW.out, if_neg hA, if_pos hB]
          obtain rfl : E = 1 := HE.out.trans e2.out
          have HQ := toHid (mod_bad (V := V) (by rw [e2.out]; omega))
          have hcm : cmpN V 2 = -1 := cmpN_lt hB
          have HCM := toHid hcm
          clear hcm
          by_cases hn0 : n = 0
          · subst hn0
            clear HC ht hmore
            go_wp2_with fail
            refine hOf.mono ?_
            rintro e w1 ⟨v1, rfl, hb1, _, k1⟩
            go_wp2_with fail
            refine (hS2 w1).mono ?_
            rintro e w2 ⟨v2, rfl, hb2, _, k2⟩
            have hC := rCmp v1 v2 V 2 w2 (hb1.grew k2) hb2
            have hb1' := hb1.grew k2
            have k2' := k1.trans k2
            clear hOf hS2 hb1 hb2 k1 k2
            go_wp2_with fail
            refine hC.mono ?_
            rintro e w3 ⟨rfl, m3, rfl⟩
            have k3 := k2'.drewN m3
            have hb3 : IsBig (w2.drewN m3) v1 V := hb1'.grew ((Kept.refl _ _).drewN m3)
            have hbx := hboxK.out _ k3
            have HK3 := toHid (HK0.out.trans k3)
            have HK3b := toHid k3
            clear hb1' hC k2'
            generalize w2.drewN m3 = w3 at *
            rw [HCM.out]
            clear hb3
            have b0 : w3.cell? ⟨w.heap.size, 0, none⟩ = some (.slice none 0 0) := (cell_of_row w3 _ 0 _ _ _ hbx).trans rfl
            have b1 : w3.cell? ⟨w.heap.size, 1, none⟩ = some (.int .u64 0) := (cell_of_row w3 _ 1 _ _ _ hbx).trans rfl
            have b2 : w3.cell? ⟨w.heap.size, 2, none⟩ = some (.slice none 0 0) := (cell_of_row w3 _ 2 _ _ _ hbx).trans rfl
            have f : ∀ j, w3.frozen? ⟨w.heap.size, j, none⟩ = false := fun j => frozen_of_row w3 _ j _ _ hbx
            go_wp2_with fail
            obtain ⟨z1, z2, _⟩ := stored3 HK3.out (Nat.le_refl _) hbx (.slice none 0 0) (.int .u64 0) (.slice none 0 0)
            generalize ((w3.setCell ⟨w.heap.size, 0, none⟩ (.slice none 0 0)).setCell ⟨w.heap.size, 1, none⟩ (.int .u64 0)).setCell ⟨w.heap.size, 2, none⟩ (.slice none 0 0) = Wf at *
            have r0 : Wf.cell? ⟨w.heap.size, 0, none⟩ = some (.slice none 0 0) := (cell_of_row Wf _ 0 _ _ _ z1).trans rfl
            have r1 : Wf.cell? ⟨w.heap.size, 1, none⟩ = some (.int .u64 0) := (cell_of_row Wf _ 1 _ _ _ z1).trans rfl
            have r2 : Wf.cell? ⟨w.heap.size, 2, none⟩ = some (.slice none 0 0) := (cell_of_row Wf _ 2 _ _ _ z1).trans rfl
            exact bodyPost_ret (v := .tuple #[.agg zeroMod, .int .i64 1]) (by simp [results, Tryz.results19, go_sem, r0, r1, r2]) rfl ⟨_, 0, _, rfl, by rw [HQ.out.1]; exact Row.nil _ _, by rw [HQ.out.2.1]; exact Row.nil _ _, HQ.out.2.2, z2⟩
          · skip
            obtain ⟨b, off, x, rfl, hc, hx⟩ := HC.out (by omega)
            obtain ⟨m, rfl⟩ : ∃ m, n = m + 1 := ⟨n - 1, by omega⟩
            rw [Nat.add_sub_cancel] at hc
            have g1 : ((m + 1 : Nat) : Int) > 0 := by omega
            have g2 : ¬ ((m + 1 : Nat) : Int) > 130 := by omega
            have g3 : ¬ ((x : Int) = 0) := by omega
            clear HC ht hmore
            go_wp2_with fail
            refine hOf.mono ?_
            rintro e w1 ⟨v1, rfl, hb1, _, k1⟩
            go_wp2_with fail
            refine (hS2 w1).mono ?_
            rintro e w2 ⟨v2, rfl, hb2, _, k2⟩
            have hC := rCmp v1 v2 V 2 w2 (hb1.grew k2) hb2
            have hb1' := hb1.grew k2
            have k2' := k1.trans k2
            clear hOf hS2 hb1 hb2 k1 k2
            go_wp2_with fail
            refine hC.mono ?_
            rintro e w3 ⟨rfl, m3, rfl⟩
            have k3 := k2'.drewN m3
            have hb3 : IsBig (w2.drewN m3) v1 V := hb1'.grew ((Kept.refl _ _).drewN m3)
            have hbx := hboxK.out _ k3
            have HK3 := toHid (HK0.out.trans k3)
            have HK3b := toHid k3
            clear hb1' hC k2'
            generalize w2.drewN m3 = w3 at *
            rw [HCM.out]
            clear hb3
            have b0 : w3.cell? ⟨w.heap.size, 0, none⟩ = some (.slice none 0 0) := (cell_of_row w3 _ 0 _ _ _ hbx).trans rfl
            have b1 : w3.cell? ⟨w.heap.size, 1, none⟩ = some (.int .u64 0) := (cell_of_row w3 _ 1 _ _ _ hbx).trans rfl
            have b2 : w3.cell? ⟨w.heap.size, 2, none⟩ = some (.slice none 0 0) := (cell_of_row w3 _ 2 _ _ _ hbx).trans rfl
            have f : ∀ j, w3.frozen? ⟨w.heap.size, j, none⟩ = false := fun j => frozen_of_row w3 _ j _ _ hbx
            go_wp2_with fail
            obtain ⟨z1, z2, _⟩ := stored3 HK3.out (Nat.le_refl _) hbx (.slice none 0 0) (.int .u64 0) (.slice none 0 0)
            generalize ((w3.setCell ⟨w.heap.size, 0, none⟩ (.slice none 0 0)).setCell ⟨w.heap.size, 1, none⟩ (.int .u64 0)).setCell ⟨w.heap.size, 2, none⟩ (.slice none 0 0) = Wf at *
            have r0 : Wf.cell? ⟨w.heap.size, 0, none⟩ = some (.slice none 0 0) := (cell_of_row Wf _ 0 _ _ _ z1).trans rfl
            have r1 : Wf.cell? ⟨w.heap.size, 1, none⟩ = some (.int .u64 0) := (cell_of_row Wf _ 1 _ _ _ z1).trans rfl
            have r2 : Wf.cell? ⟨w.heap.size, 2, none⟩ = some (.slice none 0 0) := (cell_of_row Wf _ 2 _ _ _ z1).trans rfl
            exact bodyPost_ret (v := .tuple #[.agg zeroMod, .int .i64 1]) (by simp [results, Tryz.results19, go_sem, r0, r1, r2]) rfl ⟨_, 0, _, rfl, by rw [HQ.out.1]; exact Row.nil _ _, by rw [HQ.out.2.1]; exact Row.nil _ _, HQ.out.2.2, z2⟩
        · have hn0 : n ≠ 0 := by
            intro e
            have := HW.out
            rw [e] at this
            have h1 := (wordsN_le V 0).1 (by omega)
            rw [Nat.pow_zero] at h1
            omega
          have hnlt : ¬ cmpN V 2 < 0 := by
            unfold cmpN
            rw [if_neg hB]
            by_cases h : V = 2
            · rw [if_pos h]; omega
            · rw [if_neg h]; omega
          obtain ⟨cm, hcm⟩ : ∃ cm, cm = cmpN V 2 := ⟨_, rfl⟩
          have HCM : Hid (cmpN V 2 = cm) := hcm.symm
          rw [← hcm] at hnlt
          clear hcm
          by_cases hev : V % 2 = 0
          · have e2 : Hid (montE V = 60) := by unfold Hid montE; rw [HW.out, if_neg hA, if_neg hB, if_pos hev]
            obtain rfl : E = 60 := HE.out.trans e2.out
            have HQ := toHid (mod_bad (V := V) (by rw [e2.out]; omega))
            obtain ⟨b, off, x, rfl, hc, hx⟩ := HC.out (by omega)
            obtain ⟨m, rfl⟩ : ∃ m, n = m + 1 := ⟨n - 1, by omega⟩
            rw [Nat.add_sub_cancel] at hc
            have g1 : ((m + 1 : Nat) : Int) > 0 := by omega
            have g2 : ¬ ((m + 1 : Nat) : Int) > 130 := by omega
            have g3 : ¬ ((x : Int) = 0) := by omega
            clear HC ht hmore
            go_wp2_with fail
            refine hOf.mono ?_
            rintro e w1 ⟨v1, rfl, hb1, _, k1⟩
            go_wp2_with fail
            refine (hS2 w1).mono ?_
            rintro e w2 ⟨v2, rfl, hb2, _, k2⟩
            have hC := rCmp v1 v2 V 2 w2 (hb1.grew k2) hb2
            have hb1' := hb1.grew k2
            have k2' := k1.trans k2
            clear hOf hS2 hb1 hb2 k1 k2
            go_wp2_with fail
            refine hC.mono ?_
            rintro e w3 ⟨rfl, m3, rfl⟩
            have k3 := k2'.drewN m3
            have hb3 : IsBig (w2.drewN m3) v1 V := hb1'.grew ((Kept.refl _ _).drewN m3)
            have hbx := hboxK.out _ k3
            have HK3 := toHid (HK0.out.trans k3)
            have HK3b := toHid k3
            clear hb1' hC k2'
            generalize w2.drewN m3 = w3 at *
            rw [HCM.out]
            obtain ⟨lb, lo, ln, lc, ld, rfl, hln, hlc, hld, hlv⟩ := big_low hb3 (by omega)
            have g5 : (0 : Int) < (ln : Int) := by omega
            have g6 : (ld : Int) % 2 = 0 := by omega
            clear hb3
            have b0 : w3.cell? ⟨w.heap.size, 0, none⟩ = some (.slice none 0 0) := (cell_of_row w3 _ 0 _ _ _ hbx).trans rfl
            have b1 : w3.cell? ⟨w.heap.size, 1, none⟩ = some (.int .u64 0) := (cell_of_row w3 _ 1 _ _ _ hbx).trans rfl
            have b2 : w3.cell? ⟨w.heap.size, 2, none⟩ = some (.slice none 0 0) := (cell_of_row w3 _ 2 _ _ _ hbx).trans rfl
            have f : ∀ j, w3.frozen? ⟨w.heap.size, j, none⟩ = false := fun j => frozen_of_row w3 _ j _ _ hbx
            go_wp2_with fail
            obtain ⟨z1, z2, _⟩ := stored3 HK3.out (Nat.le_refl _) hbx (.slice none 0 0) (.int .u64 0) (.slice none 0 0)
            generalize ((w3.setCell ⟨w.heap.size, 0, none⟩ (.slice none 0 0)).setCell ⟨w.heap.size, 1, none⟩ (.int .u64 0)).setCell ⟨w.heap.size, 2, none⟩ (.slice none 0 0) = Wf at *
            have r0 : Wf.cell? ⟨w.heap.size, 0, none⟩ = some (.slice none 0 0) := (cell_of_row Wf _ 0 _ _ _ z1).trans rfl
            have r1 : Wf.cell? ⟨w.heap.size, 1, none⟩ = some (.int .u64 0) := (cell_of_row Wf _ 1 _ _ _ z1).trans rfl
            have r2 : Wf.cell? ⟨w.heap.size, 2, none⟩ = some (.slice none 0 0) := (cell_of_row Wf _ 2 _ _ _ z1).trans rfl
            exact bodyPost_ret (v := .tuple #[.agg zeroMod, .int .i64 60]) (by simp [results, Tryz.results19, go_sem, r0, r1, r2]) rfl ⟨_, 0, _, rfl, by rw [HQ.out.1]; exact Row.nil _ _, by rw [HQ.out.2.1]; exact Row.nil _ _, HQ.out.2.2, z2⟩
          · have e2 : Hid (montE V = 0) := by unfold Hid montE; rw [HW.out, if_neg hA, if_neg hB, if_neg hev]
            obtain rfl : E = 0 := HE.out.trans e2.out
            obtain ⟨b, off, x, rfl, hc, hx⟩ := HC.out (by omega)
            obtain ⟨m, rfl⟩ : ∃ m, n = m + 1 := ⟨n - 1, by omega⟩
            rw [Nat.add_sub_cancel] at hc
            have g1 : ((m + 1 : Nat) : Int) > 0 := by omega
            have g2 : ¬ ((m + 1 : Nat) : Int) > 130 := by omega
            have g3 : ¬ ((x : Int) = 0) := by omega
            clear HC ht hmore
            go_wp2_with fail
            refine hOf.mono ?_
            rintro e w1 ⟨v1, rfl, hb1, _, k1⟩
            go_wp2_with fail
            refine (hS2 w1).mono ?_
            rintro e w2 ⟨v2, rfl, hb2, _, k2⟩
            have hC := rCmp v1 v2 V 2 w2 (hb1.grew k2) hb2
            have hb1' := hb1.grew k2
            have k2' := k1.trans k2
            clear hOf hS2 hb1 hb2 k1 k2
            go_wp2_with fail
            refine hC.mono ?_
            rintro e w3 ⟨rfl, m3, rfl⟩
            have k3 := k2'.drewN m3
            have hb3 : IsBig (w2.drewN m3) v1 V := hb1'.grew ((Kept.refl _ _).drewN m3)
            have hbx := hboxK.out _ k3
            have HK3 := toHid (HK0.out.trans k3)
            have HK3b := toHid k3
            clear hb1' hC k2'
            generalize w2.drewN m3 = w3 at *
            rw [HCM.out]
            have hLe := rLeast v1 V w3 hb3
            have HB3 := toHid hb3
            obtain ⟨lb, lo, ln, lc, ld, rfl, hln, hlc, hld, hlv⟩ := big_low hb3 (by omega)
            have g5 : (0 : Int) < (ln : Int) := by omega
            have g6 : ¬ (ld : Int) % 2 = 0 := by omega
            clear hb3
            go_wp2_with fail
            refine hLe.mono ?_
            rintro e w4 ⟨v4, rfl, hr4, hob4, k4⟩
            rw [HW.out, show max (m + 1) 1 = m + 1 by omega] at hr4
            have HR4 := toHid hr4
            obtain ⟨a4, n4, c4, rfl, hN4, _, _, _, hn4⟩ := hr4.open
            obtain rfl : n4 = m + 1 := by rw [← hN4.out, digs_length]
            obtain ⟨b4, off4, rfl, hc4⟩ := hn4 0 (by omega)
            rw [low_word (by omega), Nat.add_zero] at hc4
            obtain ⟨d, hd⟩ : ∃ d, d = V % 18446744073709551616 := ⟨_, rfl⟩
            rw [← hd] at hc4
            have hc4' := ((Kept.refl Nought w4).alloc (.cells #[.slice (some ⟨b4, off4, none⟩) (m + 1) c4, .int .u64 0, .slice none 0 0] 34)).cellN hc4
            have hInv := fun W => q1Inverse (d : Int) (by omega) (by omega) W
            have HD : Hid (d % 18446744073709551616 = V % 18446744073709551616) := by unfold Hid; rw [hd]; omega
            have hbx4 := (k4.block _ (lt_of_block hbx) (fun f => f)).trans hbx
            have HBX4 := toHid hbx4
            have HK4 := toHid (HK3.out.trans k4)
            have HB4 := toHid (HB3.out.grew k4)
            have h44 : Hid (b4 = w3.heap.size) := by unfold Hid; simpa [Value.ownBlock] using hob4
            have hlt3 : Hid (w.heap.size < w3.heap.size) := lt_of_block hbx
            have hle34 := toHid k4.size
            clear hLe hn4 hr4 hd hN4 hbx hbx4 k4 hob4 hlc hc4
            go_wp2_with fail
            refine (hInv _).mono ?_
            rintro e w5 ⟨⟨x, rfl, hi⟩, rfl⟩
            obtain ⟨K, hK, hKf⟩ := isKf_of e2.out HD.out hi
            have HKf := toHid hKf
            clear hInv hi hKf hc4'
            go_wp2_with fail
            have k5 : Kept Nought w4 (w4.alloc (.cells #[.slice (some ⟨b4, off4, none⟩) (m + 1) c4, .int .u64 (K : Int), .slice none 0 0] 34)) := (Kept.refl _ _).alloc _
            have hx5 : (w4.alloc (.cells #[.slice (some ⟨b4, off4, none⟩) (m + 1) c4, .int .u64 (K : Int), .slice none 0 0] 34)).heap[w4.heap.size]? = some (.cells #[.slice (some ⟨b4, off4, none⟩) (m + 1) c4, .int .u64 (K : Int), .slice none 0 0] 34 (0, 0)) := heap_alloc_new _ _
            generalize w4.alloc (.cells #[.slice (some ⟨b4, off4, none⟩) (m + 1) c4, .int .u64 (K : Int), .slice none 0 0] 34) = w5 at *
            refine (rSmall 1 (by omega) w5).mono ?_
            rintro e w6 ⟨v6, rfl, hb6, _, k6⟩
            have hSh := rShl v6 1 (128 * (m + 1)) w6 hb6 (by decide +kernel) (by omega)
            rw [show ((128 * (m + 1) : Nat) : Int) = 128 * ((m : Int) + 1) by omega, Nat.mul_one] at hSh
            have k6' := k5.trans k6
            clear hK hb6
            go_wp2_with fail
            refine hSh.mono ?_
            rintro e w7 ⟨v7, rfl, hb7, _, k7⟩
            have k7' := k6'.trans k7
            have hMo := rMod v7 _ _ V w7 hb7 (HB4.out.grew k7') (by omega) (by
              have h1 : dlen (2 ^ (128 * (m + 1))) ≤ 4 * (m + 1) + 1 := by
                rw [dlen_le, show (4294967296 : Nat) ^ (4 * (m + 1) + 1) = 2 ^ (32 * (4 * (m + 1) + 1)) by rw [Nat.pow_mul]]
                exact Nat.pow_lt_pow_right (by omega) (by omega)
              omega)
            clear hSh hb7 k6'
            go_wp2_with fail
            refine hMo.mono ?_
            rintro e w8 ⟨v8, rfl, hb8, _, k8⟩
            have k8' := k7'.trans k8
            have hNa := rNat v8 _ (m + 1) w8 hb8 (by omega)
            rw [show ((m + 1 : Nat) : Int) = (m : Int) + 1 by omega] at hNa
            clear hMo hb8 k7'
            go_wp2_with fail
            refine hNa.mono ?_
            rintro e w9 ⟨v9, rfl, hr9, hob9, k9⟩
            have k9' := k8'.trans k9
            have k59 := (k6.trans k7).trans (k8.trans k9)
            have hx9 := (k59.block _ (lt_of_block hx5) (fun f => f)).trans hx5
            have hy9 := (k9'.block _ (lt_of_block HBX4.out) (fun f => f)).trans HBX4.out
            have hlt4 : w.heap.size < w4.heap.size := Nat.lt_of_lt_of_le hlt3.out hle34.out
            have hne : w.heap.size ≠ w4.heap.size := by omega
            have hne' : w4.heap.size ≠ w.heap.size := by omega
            have b0 : w9.cell? ⟨w.heap.size, 0, none⟩ = some (.slice none 0 0) := (cell_of_row w9 _ 0 _ _ _ hy9).trans rfl
            have b1 : w9.cell? ⟨w.heap.size, 1, none⟩ = some (.int .u64 0) := (cell_of_row w9 _ 1 _ _ _ hy9).trans rfl
            have b2 : w9.cell? ⟨w.heap.size, 2, none⟩ = some (.slice none 0 0) := (cell_of_row w9 _ 2 _ _ _ hy9).trans rfl
            have f : ∀ j, w9.frozen? ⟨w.heap.size, j, none⟩ = false := fun j => frozen_of_row w9 _ j _ _ hy9
            have a0 : w9.cell? ⟨w4.heap.size, 0, none⟩ = some (.slice (some ⟨b4, off4, none⟩) (m + 1) c4) := (cell_of_row w9 _ 0 _ _ _ hx9).trans rfl
            have a1 : w9.cell? ⟨w4.heap.size, 1, none⟩ = some (.int .u64 (K : Int)) := (cell_of_row w9 _ 1 _ _ _ hx9).trans rfl
            have a2 : w9.cell? ⟨w4.heap.size, 2, none⟩ = some (.slice none 0 0) := (cell_of_row w9 _ 2 _ _ _ hx9).trans rfl
            have f2 : ∀ j, w9.frozen? ⟨w4.heap.size, j, none⟩ = false := fun j => frozen_of_row w9 _ j _ _ hx9
            have HR9 := toHid hr9
            obtain ⟨a9, n9, c9, rfl, hN9, _, _, _, _⟩ := hr9.open
            obtain rfl : n9 = m + 1 := by rw [← hN9.out, digs_length]
            have H9 : Hid ((w9.setCell ⟨w4.heap.size, 2, none⟩ (.slice a9 (m + 1) c9)).heap[w.heap.size]? = some (.cells zeroMod 34 (0, 0))) := heapAt_set hy9 (by simpa using hne) _
            have K9 : Hid (Kept Nought w (w9.setCell ⟨w4.heap.size, 2, none⟩ (.slice a9 (m + 1) c9))) := (HK4.out.trans k9').setCell ⟨w4.heap.size, 2, none⟩ (fun h => by simp at h; omega) _
            have K99 : Hid (Kept (fun q => q = w4.heap.size) w9 (w9.setCell ⟨w4.heap.size, 2, none⟩ (.slice a9 (m + 1) c9))) := (Kept.refl (fun q => q = w4.heap.size) w9).setCell ⟨w4.heap.size, 2, none⟩ (fun _ => rfl) _
            have HK49 := toHid k9'
            have h98 := toHid ((k6.trans k7).trans k8).size
            have h54 : Hid (w4.heap.size < w5.heap.size) := lt_of_block hx5
            clear hNa k8' hr9 k9' k59 k6 k7 k8 k9 hx5 k5
            go_wp2_with fail
            obtain ⟨z1, z2, z3⟩ := stored3 K9.out (Nat.le_refl _) H9.out (.slice (some ⟨b4, off4, none⟩) (m + 1) c4) (.int .u64 (K : Int)) (.slice a9 (m + 1) c9)
            have k9 := K99.out
            generalize w9.setCell ⟨w4.heap.size, 2, none⟩ (.slice a9 (m + 1) c9) = w10 at *
            generalize ((w10.setCell ⟨w.heap.size, 0, none⟩ (.slice (some ⟨b4, off4, none⟩) (m + 1) c4)).setCell ⟨w.heap.size, 1, none⟩ (.int .u64 (K : Int))).setCell ⟨w.heap.size, 2, none⟩ (.slice a9 (m + 1) c9) = Wf at *
            have r0 : Wf.cell? ⟨w.heap.size, 0, none⟩ = some (.slice (some ⟨b4, off4, none⟩) (m + 1) c4) := (cell_of_row Wf _ 0 _ _ _ z1).trans rfl
            have r1 : Wf.cell? ⟨w.heap.size, 1, none⟩ = some (.int .u64 (K : Int)) := (cell_of_row Wf _ 1 _ _ _ z1).trans rfl
            have r2 : Wf.cell? ⟨w.heap.size, 2, none⟩ = some (.slice a9 (m + 1) c9) := (cell_of_row Wf _ 2 _ _ _ z1).trans rfl
            have eM : modM V = digs 18446744073709551616 V (m + 1) := by unfold modM; rw [if_pos e2.out, HW.out]
            have eR : modR V = digs 18446744073709551616 (2 ^ (128 * (m + 1)) % V) (m + 1) := by unfold modR; rw [if_pos e2.out, HW.out]
            have hne4 : digs 18446744073709551616 V (m + 1) ≠ [] := by rw [digs]; simp
            have hlt44 : b4 < w4.heap.size := HR4.out.lt hne4 b4 rfl
            have q0 := hlt3.out
            have q1 := h44.out
            have q2 := h98.out
            have q3 := h54.out
            have R4 : Row .u64 Wf (.slice (some ⟨b4, off4, none⟩) (m + 1) c4) (modM V) := by
              rw [eM]
              refine ((HR4.out.grew HK49.out).kept k9 (fun b hb => ?_)).kept z3 (fun b hb => ?_)
              · have : b4 = b := by simpa [Value.ownBlock] using hb
                omega
              · have : b4 = b := by simpa [Value.ownBlock] using hb
                omega
            have R9 : Row .u64 Wf (.slice a9 (m + 1) c9) (modR V) := by
              rw [eR]
              refine (HR9.out.kept k9 (fun b hb => ?_)).kept z3 (fun b hb => ?_)
              · have : w8.heap.size = b := by rw [hob9] at hb; simpa using hb
                omega
              · have : w8.heap.size = b := by rw [hob9] at hb; simpa using hb
                omega
            exact bodyPost_ret (v := .tuple #[.agg #[.slice (some ⟨b4, off4, none⟩) (m + 1) c4, .int .u64 (K : Int), .slice a9 (m + 1) c9], .int .i64 0]) (by simp [results, Tryz.results19, go_sem, r0, r1, r2]) rfl ⟨_, K, _, rfl, R4, R9, HKf.out, z2⟩

end Go.Proofs.YtamkkmifbajdfaaGreat

/- The plain side of layer 6: Check, Member. -/
namespace Go.Proofs.YtamkkmifbajdfaaGreat
open Go.RowKit

theorem box3 {W : World} {p : Nat} {a b c : Value} {t : TypeId} {fr : Nat × Nat} (h : W.heap[p]? = some (.cells #[a, b, c] t fr)) : W.cell? ⟨p, 0, none⟩ = some a ∧ W.cell? ⟨p, 1, none⟩ = some b ∧ W.cell? ⟨p, 2, none⟩ = some c :=
  ⟨(cell_of_row W p 0 _ _ _ h).trans rfl, (cell_of_row W p 1 _ _ _ h).trans rfl, (cell_of_row W p 2 _ _ _ h).trans rfl⟩

/-- A modulus as it should be. -/
def okMod (ms : List Nat) (K : Nat) (rs : List Nat) : Prop :=
  montE (val 18446744073709551616 ms) = 0 ∧ modM (val 18446744073709551616 ms) = ms ∧ isKf (val 18446744073709551616 ms) K ∧ modR (val 18446744073709551616 ms) = rs

set_option maxRecDepth 40000 in
set_option maxHeartbeats 4000000 in
theorem q6Check (ao bo : Option Addr) (L M cap dap K : Nat) (ms rs : List Nat) (R : Bool) (hR : R = true ↔ okMod ms K rs) (w : World) (hu : Row .u64 w (.slice ao L cap) ms) (hv : Row .u64 w (.slice bo M dap) rs) (hd : Digs 18446744073709551616 ms) (hL : L ≤ 1000000) :
    Calls Tryz.prog 27 #[.agg #[.slice ao L cap, .int .u64 (K : Nat), .slice bo M dap]] w fun e w' => e = .returned (.bool R) ∧ Kept Nought w w' := by
  have k0 : Kept Nought w (w.alloc (.cells #[.slice ao L cap, .int .u64 (K : Nat), .slice bo M dap] 34)) := (Kept.refl Nought w).alloc _
  have hx0 : (w.alloc (.cells #[.slice ao L cap, .int .u64 (K : Nat), .slice bo M dap] 34)).heap[w.heap.size]? = some (.cells #[.slice ao L cap, .int .u64 (K : Nat), .slice bo M dap] 34 (0, 0)) := heap_alloc_new _ _
  obtain ⟨V, hV⟩ : ∃ V, V = val 18446744073709551616 ms := ⟨_, rfl⟩
  obtain ⟨E, hE⟩ : ∃ E, E = montE V := ⟨_, rfl⟩
  have hS := q6Setup ao L cap ms V E hV hE _ (hu.grew k0) hd hL
  have HU := toHid hu
  have HV := toHid hv
  unfold okMod at hR
  rw [← hV] at hR
  have HR := toHid hR
  have HE := toHid hE
  clear hu hv hd hR hE hV
  go_enter Tryz.func27, Tryz.ntmps27
  go_wp2_with fail
  refine hS.mono ?_
  rintro e w1 ⟨a, K1, b, rfl, ha, hb, hK1, k1⟩
  have hx1 := (k1.block _ (lt_of_block hx0) (fun f => f)).trans hx0
  obtain ⟨a1, n1, c1, rfl, _, _, _, _, _⟩ := ha.open
  obtain ⟨b1, m1, d1, rfl, _, _, _, _, _⟩ := hb.open
  have k01 := k0.trans k1
  have k2 : Kept Nought w1 (w1.alloc (.cells #[.slice a1 n1 c1, .int .u64 (K1 : Nat), .slice b1 m1 d1] 34)) := (Kept.refl _ _).alloc _
  have hx2 : (w1.alloc (.cells #[.slice a1 n1 c1, .int .u64 (K1 : Nat), .slice b1 m1 d1] 34)).heap[w1.heap.size]? = some (.cells #[.slice a1 n1 c1, .int .u64 (K1 : Nat), .slice b1 m1 d1] 34 (0, 0)) := heap_alloc_new _ _
  have hy2 := (k2.block _ (lt_of_block hx1) (fun f => f)).trans hx1
  obtain ⟨p0, p1, p2⟩ := box3 hy2
  have hs1 := rSame _ _ (modM V) ms _ (ha.grew k2) (HU.out.grew (k01.trans k2))
  have hs2 := fun m => rSame _ _ (modR V) rs ((w1.alloc (.cells #[.slice a1 n1 c1, .int .u64 (K1 : Nat), .slice b1 m1 d1] 34)).drewN m) ((hb.grew k2).grew ((Kept.refl _ _).drewN m)) ((HV.out.grew (k01.trans k2)).grew ((Kept.refl _ _).drewN m))
  have HK1 := toHid hK1
  have KF := toHid (k01.trans k2)
  clear hS ha hb hK1 k1 hx0 hx1 k0 k01
  unfold modCells
  by_cases h0 : E = 0
  · subst h0
    by_cases h1 : modM V = ms
    · rw [decide_eq_true h1] at hs1
      by_cases h2 : K1 = K
      · subst h2
        have HF : Hid (R = decide (modR V = rs)) := by
          unfold Hid
          by_cases h3 : modR V = rs
          · rw [decide_eq_true h3]; exact HR.out.2 ⟨HE.out.symm, h1, HK1.out, h3⟩
          · rw [decide_eq_false h3]
            cases hR : R with
            | false => rfl
            | true => exact absurd (HR.out.1 hR).2.2.2 h3
        generalize decide (modR V = rs) = D at *
        go_wp2_with fail
        refine hs1.mono ?_
        rintro e w3 ⟨rfl, m, rfl⟩
        go_wp2_with fail
        refine (hs2 m).mono ?_
        rintro e w4 ⟨rfl, m2, rfl⟩
        go_wp2_with fail
        go_ret
        rw [HF.out]
        exact ⟨rfl, KF.out.drewN _⟩
      · have hK' : ¬ ((K1 : Int) = (K : Int)) := by omega
        have HF : Hid (R = false) := by
          unfold Hid
          cases hR : R with
          | false => rfl
          | true => exact absurd (isKf_uniq HK1.out (HR.out.1 hR).2.2.1) h2
        go_wp2_with fail
        refine hs1.mono ?_
        rintro e w3 ⟨rfl, m, rfl⟩
        go_wp2_with fail
        go_ret
        rw [HF.out]
        exact ⟨by simp, KF.out.drewN _⟩
    · rw [decide_eq_false h1] at hs1
      have HF : Hid (R = false) := by
        unfold Hid
        cases hR : R with
        | false => rfl
        | true => exact absurd (HR.out.1 hR).2.1 h1
      go_wp2_with fail
      refine hs1.mono ?_
      rintro e w3 ⟨rfl, m, rfl⟩
      go_wp2_with fail
      go_ret
      rw [HF.out]
      exact ⟨rfl, KF.out.drewN _⟩
  · have h0' : ¬ (E : Int) = 0 := by omega
    have HF : Hid (R = false) := by
      unfold Hid
      cases hR : R with
      | false => rfl
      | true => exact absurd (HE.out.trans (HR.out.1 hR).1) h0
    go_wp2_with fail
    go_ret
    rw [HF.out]
    exact ⟨by simp, KF.out⟩

end Go.Proofs.YtamkkmifbajdfaaGreat
