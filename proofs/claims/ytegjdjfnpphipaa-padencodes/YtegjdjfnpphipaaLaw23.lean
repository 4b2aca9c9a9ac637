/- Layer 23: what the landed functions must answer, as propositions; what the laws ask first; what is padded is taken apart again. -/
import Derived.Test.YtegjdjfnpphipaaPad1
import Derived.Test.YtegjdjfnpphipaaLsc6
namespace Go.Proofs.Ytegjdjfnpphipaa
open Go.RowKit

/-- Encode, landed. -/
def DEnc : Prop := ∀ (mo : Option Addr) (M mc : Nat) (ms : List Nat) (k : Int) (p : Option Addr) (B : Nat) (bs : List Nat) (w : World), -9223372036854775808 ≤ k → k ≤ 9223372036854775807 → Row .u8 w (.slice mo M mc) ms → Digs 256 ms → M ≤ 10000 → Lsc w p B bs → B ≤ w.heap.size → Digs 256 bs → bs.length ≤ 1000000 →
  Calls Try.prog 11 #[.slice mo M mc, .int .i64 k, .pointer p] w fun e w' => ∃ u, e = .returned (.tuple #[u, .int .i64 (pdE ms bs k : Nat)]) ∧ (Row .u8 w' u (pdL ms bs k) ∧ ∀ b, u.ownBlock = some b → w.heap.size ≤ b) ∧ Lsc w' p B (pdR ms bs k) ∧ Kept (ofP p) w w'

/-- Decode, landed, with no trace. -/
def DDec : Prop := ∀ (mo : Option Addr) (M mc : Nat) (em : List Nat) (w : World), Row .u8 w (.slice mo M mc) em → Digs 256 em → M ≤ 10000 →
  Calls Try.prog 15 #[.pointer none, .slice mo M mc] w fun e w' => ∃ u, e = .returned (.tuple #[u, .int .i64 (unE em : Nat)]) ∧ (Row .u8 w' u (unL em) ∧ ∀ b, u.ownBlock = some b → w.heap.size ≤ b) ∧ Kept Nought w w'

theorem filN_full : ∀ {bs : List Nat} {n : Nat}, (filN bs n).2.2 = true → (filN bs n).1.length = n ∧ ∀ x ∈ (filN bs n).1, x ≠ 0
  | bs, 0, _ => by cases bs <;> simp [filN]
  | [], n + 1, h => by simp [filN] at h
  | x :: bs, n + 1, h => by
    unfold filN at h ⊢
    by_cases hx : x = 0
    · rw [if_pos hx] at h ⊢
      exact filN_full h
    · rw [if_neg hx] at h ⊢
      obtain ⟨h1, h2⟩ := filN_full (bs := bs) (n := n) h
      refine ⟨by simp [h1], fun y hy => ?_⟩
      simp only [List.mem_cons] at hy
      rcases hy with rfl | hy
      · exact hx
      · exact h2 y hy

theorem unL_digs {em : List Nat} (h : Digs 256 em) : Digs 256 (unL em) := by
  unfold unL
  split
  · exact h.drop _
  · exact Digs.nil _

theorem pdL_digs {ms bs : List Nat} {k : Int} (hm : Digs 256 ms) (hb : Digs 256 bs) : Digs 256 (pdL ms bs k) := by
  unfold pdL
  split
  · refine ((Digs.append ?_ ?_).append (Digs.one (by omega))).append hm
    · exact fun d hd => by simp at hd; omega
    · unfold filL
      split
      · exact (filN_digs hb).1
      · exact Digs.nil _
  · exact Digs.nil _

/-- What is padded is taken apart again. -/
theorem pad_back {ms bs : List Nat} {k : Int} (h : pdE ms bs k = 0) : ((pdL ms bs k).length : Int) = k ∧ k ≤ 1024 ∧ unE (pdL ms bs k) = 0 ∧ unL (pdL ms bs k) = ms := by
  have h0 := h
  unfold pdE at h0
  split at h0
  · omega
  next h1 =>
  split at h0
  · omega
  next h2 =>
  obtain ⟨f, hf⟩ : ∃ f : Nat, k - 3 - (ms.length : Int) = (f : Int) := ⟨(k - 3 - ms.length).toNat, by omega⟩
  have hL : pdL ms bs k = [0, 2] ++ filL bs (k - 3 - ms.length) ++ [0] ++ ms := by
    unfold pdL
    rw [if_pos h]
  rw [hf] at h0 hL
  have h3 : (filN bs f).2.2 = true := by
    unfold filE at h0
    rw [if_neg (by omega)] at h0
    rw [Int.toNat_natCast] at h0
    split at h0
    · next h4 => exact h4
    · omega
  obtain ⟨h4, h5⟩ := filN_full h3
  have hF : filL bs (f : Int) = (filN bs f).1 := by
    unfold filL
    rw [if_pos h0, Int.toNat_natCast]
  rw [hF] at hL
  generalize (filN bs f).1 = F at *
  have hlen : (pdL ms bs k).length = f + 3 + ms.length := by
    rw [hL]
    simp
    omega
  have hd2 : (pdL ms bs k).drop 2 = F ++ ([0] ++ ms) := by
    rw [hL]
    simp
  have hfst : fstC 0 ((pdL ms bs k).drop 2) = f := by
    rw [hd2]
    refine fstC_at (by simp; omega) ?_ (fun j hj => ?_)
    · rw [List.getD_eq_getElem?_getD, List.getElem?_append_right (by omega), h4, Nat.sub_self]
      rfl
    · rw [List.getD_eq_getElem?_getD, List.getElem?_append_left (by omega), List.getElem?_eq_getElem (by omega)]
      exact h5 _ (List.getElem_mem _)
  have hz : unE (pdL ms bs k) = 0 := by
    unfold unE
    rw [hfst, hlen, if_neg]
    rw [hL]
    simp
    omega
  refine ⟨by rw [hlen]; omega, by omega, hz, ?_⟩
  unfold unL
  rw [if_pos hz, hfst, hL, ← h4]
  simp

/-- Bytes that a slice of bytes shows, by their lengths. -/
def LotsB (w : World) (ao : Option Addr) (n : Nat) (A : Nat → Option Addr) (L C : Nat → Nat) : Prop :=
  ∀ i, i < n → ∃ b off, ao = some ⟨b, off, none⟩ ∧ w.cell? ⟨b, off + i, none⟩ = some (.slice (A i) (L i) (C i))

set_option maxRecDepth 20000 in
set_option maxHeartbeats 1000000 in
/-- few. -/
theorem f23few (ao : Option Addr) (n cap : Nat) (A : Nat → Option Addr) (L C : Nat → Nat) (w : World) (hn : n ≤ 1000000000000) (R : Bool) (hR : R = true ↔ ∀ i, i < n → L i ≤ 1200) (hc : LotsB w ao n A L C) :
    Calls Try.prog 9 #[.slice ao n cap] w fun r w' => r = .returned (.bool R) ∧ w' = w := by
  have HR := toHid hR
  have HC := toHid hc
  clear hR hc
  go_enter Try.func9, Try.ntmps9
  go_wp2_with fail
  go_loop [7] (fun i => ∃ k : Nat, k ≤ n ∧ i = .int .i64 (k : Int) ∧ Hid (∀ j, j < k → L j ≤ 1200)) (fun i => ((n : Int) - intOf i).toNat)
  case atStart => exact ⟨0, Nat.zero_le _, rfl, fun j hj => by omega⟩
  case round =>
    obtain ⟨k, hk, rfl, hall⟩ := hrel
    by_cases hkn : k < n
    · have hk1 : (k : Int) < (n : Int) := by omega
      obtain ⟨b, off, rfl, hcell⟩ := HC.out k hkn
      obtain ⟨ao, hao⟩ : ∃ ao, ao = A k := ⟨_, rfl⟩
      obtain ⟨len, hlen⟩ : ∃ len, len = L k := ⟨_, rfl⟩
      obtain ⟨cp, hcap⟩ : ∃ cap, cap = C k := ⟨_, rfl⟩
      rw [← hao, ← hlen, ← hcap] at hcell
      have HLen := toHid hlen
      have HNx : Hid (len ≤ 1200 → ∀ j, j < k + 1 → L j ≤ 1200) := fun h j hj => by
        by_cases e : j = k
        · subst e; rw [← hlen]; exact h
        · exact hall.out j (by omega)
      clear hao hlen hcap
      by_cases h4 : len ≤ 1200
      · have h4' : ¬ (len : Int) > 1200 := by omega
        have h4'' : ¬ (1200 : Int) < (len : Int) := by omega
        go_wp2_with fail
        go_round
        case rel => exact ⟨k + 1, by omega, by go_num, HNx.out h4⟩
        case measure => simp [intOf]; omega
      · have h4' : (len : Int) > 1200 := by omega
        have h4'' : (1200 : Int) < (len : Int) := by omega
        have HF : Hid (R = false) := by
          cases e : R with
          | false => rfl
          | true =>
            have := HR.out.1 e k hkn
            rw [← HLen.out] at this
            omega
        go_wp2_with fail
        go_ret
        refine ⟨?_, rfl⟩
        rw [HF.out]; rfl
    · have hk1 : ¬ (k : Int) < (n : Int) := by omega
      have e : k = n := by omega
      subst e
      have HT : Hid (R = true) := HR.out.2 hall.out
      go_wp2_with fail
      go_ret
      refine ⟨?_, rfl⟩
      rw [HT.out]; rfl

theorem few23a (ao : Option Addr) (L cap : Nat) (W : World) (R : Bool) (hR : R = true ↔ L ≤ 1200) :
    Calls Try.prog 9 #[.slice (some ⟨W.heap.size, 0, none⟩) 1 1] (W.alloc (.cells #[.slice ao L cap] 22)) fun r w' => r = .returned (.bool R) ∧ w' = W.alloc (.cells #[.slice ao L cap] 22) := by
  refine f23few (some ⟨W.heap.size, 0, none⟩) 1 1 (fun _ => ao) (fun _ => L) (fun _ => cap) _ (by omega) R ?_ ?_
  · rw [hR]
    exact ⟨fun h i hi => h, fun h => h 0 (by omega)⟩
  · intro i hi
    refine ⟨_, _, rfl, ?_⟩
    obtain rfl : i = 0 := by omega
    exact (cell_of_row _ _ 0 _ _ _ (heap_alloc_new W _)).trans rfl

theorem few23b (ao bo : Option Addr) (L M cap dap : Nat) (W : World) (R : Bool) (hR : R = true ↔ L ≤ 1200 ∧ M ≤ 1200) :
    Calls Try.prog 9 #[.slice (some ⟨W.heap.size, 0, none⟩) 2 2] (W.alloc (.cells #[.slice ao L cap, .slice bo M dap] 22)) fun r w' => r = .returned (.bool R) ∧ w' = W.alloc (.cells #[.slice ao L cap, .slice bo M dap] 22) := by
  refine f23few (some ⟨W.heap.size, 0, none⟩) 2 2 (fun i => if i = 0 then ao else bo) (fun i => if i = 0 then L else M) (fun i => if i = 0 then cap else dap) _ (by omega) R ?_ ?_
  · rw [hR]
    refine ⟨fun h i hi => ?_, fun h => ⟨h 0 (by omega), h 1 (by omega)⟩⟩
    have : i = 0 ∨ i = 1 := by omega
    rcases this with rfl | rfl
    · exact h.1
    · exact h.2
  · intro i hi
    refine ⟨_, _, rfl, ?_⟩
    have : i = 0 ∨ i = 1 := by omega
    rcases this with rfl | rfl <;> exact (cell_of_row _ _ _ _ _ _ (heap_alloc_new W _)).trans rfl

theorem ex23 : (unE [0, 2, 1, 1, 1, 1, 1, 1, 1, 1, 0, 7] = 0 ∧ unL [0, 2, 1, 1, 1, 1, 1, 1, 1, 1, 0, 7] = [7]) ∧ unE [0, 2, 1, 1, 1, 1, 1, 1, 1, 0, 7, 7] = 230 := by decide +kernel

theorem row23a (W : World) : Row .u8 (W.alloc (.cells #[.int .u8 0, .int .u8 2, .int .u8 1, .int .u8 1, .int .u8 1, .int .u8 1, .int .u8 1, .int .u8 1, .int .u8 1, .int .u8 1, .int .u8 0, .int .u8 7] 5)) (.slice (some ⟨W.heap.size, 0, none⟩) 12 12) [0, 2, 1, 1, 1, 1, 1, 1, 1, 1, 0, 7] :=
  Row.of_own (base := W.heap.size) (e := 5) (World.ownsRow_lit W #[.int .u8 0, .int .u8 2, .int .u8 1, .int .u8 1, .int .u8 1, .int .u8 1, .int .u8 1, .int .u8 1, .int .u8 1, .int .u8 1, .int .u8 0, .int .u8 7] 12 (Nat.le_refl _) (by unfold maxLen; omega) rfl)

theorem row23b (W : World) : Row .u8 (W.alloc (.cells #[.int .u8 0, .int .u8 2, .int .u8 1, .int .u8 1, .int .u8 1, .int .u8 1, .int .u8 1, .int .u8 1, .int .u8 1, .int .u8 0, .int .u8 7, .int .u8 7] 5)) (.slice (some ⟨W.heap.size, 0, none⟩) 12 12) [0, 2, 1, 1, 1, 1, 1, 1, 1, 0, 7, 7] :=
  Row.of_own (base := W.heap.size) (e := 5) (World.ownsRow_lit W #[.int .u8 0, .int .u8 2, .int .u8 1, .int .u8 1, .int .u8 1, .int .u8 1, .int .u8 1, .int .u8 1, .int .u8 1, .int .u8 0, .int .u8 7, .int .u8 7] 12 (Nat.le_refl _) (by unfold maxLen; omega) rfl)

set_option maxRecDepth 20000 in
set_option maxHeartbeats 1000000 in
/-- awake. -/
theorem f23Awake (hD : DDec) (w : World) : Calls Try.prog 8 #[] w fun r w' => r = .returned (.bool true) ∧ Kept Nought w w' := by
  have J1 := hD _ 12 12 _ _ (row23a w) (fun d hd => by simp at hd; omega) (by omega)
  rw [ex23.1.1, ex23.1.2] at J1
  have HK1 := toHid ((Kept.refl Nought w).alloc (.cells #[.int .u8 0, .int .u8 2, .int .u8 1, .int .u8 1, .int .u8 1, .int .u8 1, .int .u8 1, .int .u8 1, .int .u8 1, .int .u8 1, .int .u8 0, .int .u8 7] 5))
  go_enter Try.func8, Try.ntmps8
  go_wp2_with fail
  refine J1.mono ?_
  rintro r w1 ⟨v1, rfl, ⟨r1, _⟩, k1⟩
  obtain ⟨ao, n1, c1, rfl, hL, _⟩ := r1.open
  obtain rfl : 1 = n1 := hL.out
  have HK2 := toHid (HK1.out.trans k1)
  have J2 := hD _ 12 12 _ _ (row23b w1) (fun d hd => by simp at hd; omega) (by omega)
  rw [ex23.2] at J2
  have HK3 := toHid (HK2.out.alloc (.cells #[.int .u8 0, .int .u8 2, .int .u8 1, .int .u8 1, .int .u8 1, .int .u8 1, .int .u8 1, .int .u8 1, .int .u8 1, .int .u8 0, .int .u8 7, .int .u8 7] 5))
  have HR1 := toHid (r1.grew ((Kept.refl Nought w1).alloc (.cells #[.int .u8 0, .int .u8 2, .int .u8 1, .int .u8 1, .int .u8 1, .int .u8 1, .int .u8 1, .int .u8 1, .int .u8 1, .int .u8 0, .int .u8 7, .int .u8 7] 5)))
  clear J1 hL k1 r1 hD
  go_wp2_with fail
  refine J2.mono ?_
  rintro r w2 ⟨v2, rfl, ⟨r2, _⟩, k2⟩
  obtain ⟨fo, n2, c2, rfl, _⟩ := r2.open
  obtain ⟨_, _, _, e9, _, _, _, _, hnum⟩ := (HR1.out.grew k2).open
  cases e9
  obtain ⟨b, off, rfl, q0⟩ := hnum 0 (by omega)
  have q0' : w2.cell? ⟨b, off, none⟩ = some (.int .u8 7) := q0
  have HK4 := toHid (HK3.out.trans k2)
  clear J2 r2 k2 hnum q0 HR1
  go_wp2_with fail
  go_ret
  exact ⟨rfl, HK4.out⟩

end Go.Proofs.Ytegjdjfnpphipaa
