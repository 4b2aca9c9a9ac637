/- Melted of: LimA One1 Ref4A Ref4B Ref4C LimB. -/
import Derived.Test.YtiljkgoafknefabGreatTra1
import Derived.Test.YtiljkgoafknefabGreatWor1
import Derived.Test.YtiljkgoafknefabGreatBase1
import Derived.Test.YtiljkgoafknefabGreatBase2
import Derived.Deep.RegionWith

/- Package limbs: common and what it hands out: the greatest length, and numbers brought to it. -/
namespace Go.Proofs.YtiljkgoafknefabGreat
open Go.RowKit

/-- The greatest of n lengths. -/
def maxOf (L : Nat → Nat) : Nat → Nat
  | 0 => 0
  | n + 1 => max (maxOf L n) (L n)

theorem le_maxOf (L : Nat → Nat) : ∀ n i, i < n → L i ≤ maxOf L n
  | n + 1, i, h => by
    by_cases e : i = n
    · subst e; simp only [maxOf]; omega
    · have := le_maxOf L n i (by omega)
      simp only [maxOf]; omega

theorem maxOf_le (L : Nat → Nat) (B : Nat) : ∀ n, (∀ i, i < n → L i ≤ B) → maxOf L n ≤ B
  | 0, _ => Nat.zero_le _
  | n + 1, h => by
    have h1 := maxOf_le L B n (fun i hi => h i (by omega))
    have h2 := h n (by omega)
    simp only [maxOf]; omega

/-- n slices in a row, at ao. -/
def Slots (w : World) (ao : Option Addr) (n : Nat) (A : Nat → Option Addr) (L C : Nat → Nat) : Prop :=
  ∀ i, i < n → ∃ b off, ao = some ⟨b, off, none⟩ ∧ w.cell? ⟨b, off + i, none⟩ = some (.slice (A i) (L i) (C i))

set_option maxRecDepth 20000 in
set_option maxHeartbeats 1000000 in
/-- common. -/
theorem lCommon (ao : Option Addr) (n cap : Nat) (A : Nat → Option Addr) (L C : Nat → Nat) (w : World) (hn : n ≤ 1000000000) (hc : Slots w ao n A L C) :
    Calls Tryz.prog 78 #[.slice ao n cap] w fun e w' => e = .returned (.tuple #[.int .i64 (maxOf L n : Nat), .func (.func 103) #[] #[.pointer (some ⟨w.heap.size, 0, none⟩)]]) ∧ w' = w.alloc (.cells #[.int .i64 (maxOf L n : Nat)] 3) := by
  have hmf : ∀ (fn : Fn) (first cap : Array Value) (w : World), (Instr.makeFunc fn first cap).run Tryz.prog w = .ok (.func fn first cap) w := fun _ _ _ _ => rfl
  have HC : Hid (Slots w ao n A L C) := hc
  clear hc
  go_enter Tryz.func78, Tryz.ntmps78
  go_wp2_with fail
  go_loopw [9] (fun i wr => ∃ (k m : Nat), k ≤ n ∧ i = .int .i64 (k : Int) ∧ wr = w.alloc (.cells #[.int .i64 (m : Int)] 3) ∧ Hid (m = maxOf L k)) (fun i _ => ((n : Int) - intOf i).toNat)
  case atStart => exact ⟨0, 0, Nat.zero_le _, rfl, rfl, rfl⟩
  case round =>
    obtain ⟨k, m, hk, rfl, rfl, hm⟩ := hrel
    by_cases hkn : k < n
    · have hk1 : (k : Int) < (n : Int) := by omega
      obtain ⟨b, off, rfl, hcell⟩ := HC.out k hkn
      obtain ⟨ao, hao⟩ : ∃ ao, ao = A k := ⟨_, rfl⟩
      obtain ⟨len, hlen⟩ : ∃ len, len = L k := ⟨_, rfl⟩
      obtain ⟨cp, hcap⟩ : ∃ cap, cap = C k := ⟨_, rfl⟩
      rw [← hao, ← hlen, ← hcap] at hcell
      have HLen : Hid (len = L k) := hlen
      have hcell' := ((Kept.refl Nought w).alloc (.cells #[.int .i64 (m : Int)] 3)).cellN hcell
      clear hao hlen hcap HC
      go_wp2_with fail
      go_roundw
      case rel => exact ⟨k + 1, max m len, by omega, by go_num, by rw [show ((max m len : Nat) : Int) = max (m : Int) (len : Int) by omega], by unfold Hid; rw [maxOf, ← hm.out, ← HLen.out]⟩
      case measure => simp [intOf]; omega
    · have hk1 : ¬ (k : Int) < (n : Int) := by omega
      have e : k = n := by omega
      subst e
      go_wp2_with fail
      go_ret2
      rw [hm.out]
      exact ⟨rfl, rfl⟩

/-- The cells of a number, as copy wants them. -/
theorem Row.source {k : IntKind} {w : World} {ao : Option Addr} {L cap : Nat} {xs : List Nat} (h : Row k w (.slice ao L cap) xs) {W : World} (hk : Kept Nought w W) (hp : 0 < (xs.map fun z : Nat => Value.int k (z : Int)).length) :
    ∃ ad, ao = some ad ∧ ∀ j u, (xs.map fun z : Nat => Value.int k (z : Int))[j]? = some u → W.cell? (ad.add j) = some u := by
  obtain ⟨ao', n, cap', e, hL, _, _, _, g4⟩ := h.open
  simp only [Value.slice.injEq] at e
  obtain ⟨rfl, rfl, rfl⟩ := e
  rw [List.length_map] at hp
  have hl := hL.out
  obtain ⟨b, off, rfl, _⟩ := g4 0 (by omega)
  refine ⟨_, rfl, fun j u hu => ?_⟩
  have hj : j < xs.length := by
    have := (List.getElem?_eq_some_iff.1 hu).1
    simpa using this
  obtain ⟨b', off', e, hc⟩ := (g4 j (by omega)).grew hk
  simp only [Option.some.injEq, Addr.mk.injEq] at e
  obtain ⟨rfl, rfl, _⟩ := e
  rw [List.getElem?_map, List.getElem?_eq_getElem hj] at hu
  rw [show (⟨b, off, none⟩ : Addr).add j = ⟨b, off + j, none⟩ by simp [Addr.add], hc, ← hu, List.getD_eq_getElem?_getD, List.getElem?_eq_getElem hj]
  rfl

theorem ints_one (k : IntKind) (xs : List Nat) : ∀ u ∈ xs.map (fun z : Nat => Value.int k (z : Int)), u.oneCell' = true := by
  intro u hu
  obtain ⟨z, _, rfl⟩ := List.mem_map.1 hu
  rfl

set_option maxRecDepth 20000 in
set_option maxHeartbeats 1000000 in
/-- What common hands out: a number brought to the length. -/
theorem lFitN (o : Tr) (v : Value) (xs : List Nat) (n g : Nat) (w : World) (ht : TrIn w o) (h : RowT w o v xs) (hd : Digs 18446744073709551616 xs) (hl : xs.length ≤ n) (hn : n ≤ 1000000000) (hg : w.heap[g]? = some (.cells #[.int .i64 (n : Nat)] 3 (0, 0))) :
    Calls Tryz.prog 103 #[v, .pointer (some ⟨g, 0, none⟩)] w fun e w' => ∃ v', e = .returned v' ∧ RowT w' o v' (digs 18446744073709551616 (val 18446744073709551616 xs) n) ∧ Kept Nought w w' ∧ (v' = v ∨ ∀ b, v'.ownBlock = some b → w.heap.size ≤ b) := by
  obtain ⟨i0, hi0, hz0, hz1, hz2⟩ := info_parts Tryz.info24
  have hb : w.cell? ⟨g, 0, none⟩ = some (.int .i64 (n : Nat)) := (cell_of_row w g 0 _ _ _ hg).trans rfl
  rw [fill_digs hd rfl hl]
  obtain ⟨ao, q, cap, rfl, hL, _, _, _, _⟩ := h.1.open
  by_cases he : q = n
  · have he' : (q : Int) = (n : Int) := by omega
    rw [show n - xs.length = 0 by rw [hL.out]; omega, List.replicate_zero, List.append_nil]
    have H : Hid (RowT w o (.slice ao q cap) xs) := h
    clear h hg hd
    go_enter Tryz.func103, Tryz.ntmps103
    go_wp2
    go_ret
    exact ⟨_, rfl, H.out, Kept.refl _ _, .inl rfl⟩
  · have he' : ¬ (q : Int) = (n : Int) := by omega
    have HS : Hid (∀ W, Kept Nought w W → 0 < (xs.map fun z : Nat => Value.int .u64 (z : Int)).length → ∃ ad, ao = some ad ∧ ∀ j u, (xs.map fun z : Nat => Value.int .u64 (z : Int))[j]? = some u → W.cell? (ad.add j) = some u) := fun W hk hp => h.1.source hk hp
    have HO := toHid (ints_one .u64 xs)
    have HLC : Hid ((xs.map fun z : Nat => Value.int .u64 (z : Int)).length = q) := by unfold Hid; rw [List.length_map]; exact hL.out
    obtain ⟨CS, hCS⟩ : ∃ CS, CS = xs.map (fun z : Nat => Value.int .u64 (z : Int)) := ⟨_, rfl⟩
    rw [← hCS] at HS HO HLC
    have HCS : Hid (CS = xs.map (fun z : Nat => Value.int .u64 (z : Int))) := hCS
    have hq : q ≤ n := by rw [← hL.out]; exact hl
    have HT : Hid (TrIn w o) := ht
    clear hCS h hg hd ht hl
    go_enter Tryz.func103, Tryz.ntmps103
    go_wp2_with (at_make; refine wpList_make_full _ rfl _ _ 23 rfl w.heap.size 24 i0 _ 1 Tryz.underlying23 hi0 hz0 hz1 _ _ _ _ n rfl rfl rfl rfl (by rw [hz2]; omega) (by unfold maxLen; omega) (Nat.le_refl _) ?_; intro w1 ho1 hg1; rw [zeros_map] at ho1; have k1 := grown_kept hg1; obtain ⟨w2, hrun, hb2, k2⟩ := run_copy_part (P := Tryz.prog) 23 23 3 24 w.heap.size 0 n n (some ⟨w.heap.size, 0, none⟩) ao q cap _ 24 CS Tryz.underlying23 (by rw [hi0]; simp [hz1]) (own_block ho1) (by rw [HLC.out]; exact (Nat.min_eq_left hq).symm) (fun hp => ⟨rfl, HS.out _ k1 hp⟩) (by have := HLC.out; simp; omega) HO.out; have HB2 : Hid _ := hb2; clear hb2 ho1 hg1)
    go_ret
    have hfin := HB2.out
    rw [HCS.out, splice_fill] at hfin
    have kk := kept_new k1 k2 (Nat.le_refl _)
    exact ⟨_, rfl, own_rowT (base := w.heap.size) (own_of_block hfin (by simp [hL.out]; omega) (by unfold maxLen; omega) (Nat.le_refl _)) (by simp [hL.out]; omega) (HT.out.grew kk), kk, .inr (fun b hb => by simp [Value.ownBlock] at hb; omega)⟩

theorem lFit (o : Tr) (v : Value) (xs : List Nat) (n g : Nat) (w : World) (ht : TrIn w o) (h : RowT w o v xs) (hd : Digs 18446744073709551616 xs) (hl : xs.length ≤ n) (hn : n ≤ 1000000000) (hg : w.heap[g]? = some (.cells #[.int .i64 (n : Nat)] 3 (0, 0))) :
    Calls Tryz.prog 103 #[v, .pointer (some ⟨g, 0, none⟩)] w fun e w' => ∃ v', e = .returned v' ∧ RowT w' o v' (digs 18446744073709551616 (val 18446744073709551616 xs) n) ∧ Kept Nought w w' := by
  refine (lFitN o v xs n g w ht h hd hl hn hg).mono ?_
  rintro e w' ⟨v', rfl, hr, hk, _⟩
  exact ⟨v', rfl, hr, hk⟩

end Go.Proofs.YtiljkgoafknefabGreat

/- The plain side of layer 1: 1 or 0 of a test. -/
namespace Go.Proofs.YtiljkgoafknefabGreat
open Go.RowKit

/-- One, for a test. -/
def oneN (b : Bool) : Nat := if b = true then 1 else 0

end Go.Proofs.YtiljkgoafknefabGreat

/- The plain side of layer 4 (package sconceref04): sums, differences, tests, choices of any numbers. -/
namespace Go.Proofs.YtiljkgoafknefabGreat
open Go.RowKit

theorem dlen_pow (n : Nat) : dlen (2 ^ (64 * n)) ≤ 2 * n + 1 := by
  rw [dlen_le, show (4294967296 : Nat) ^ (2 * n + 1) = 2 ^ (32 * (2 * n + 1)) by rw [Nat.pow_mul]]
  exact Nat.pow_lt_pow_right (by omega) (by omega)

theorem dlen_val {xs : List Nat} (hd : Digs 18446744073709551616 xs) : dlen (val 18446744073709551616 xs) ≤ 2 * xs.length := by
  rw [dlen_le, show (4294967296 : Nat) ^ (2 * xs.length) = 18446744073709551616 ^ xs.length by rw [Nat.pow_mul]]
  exact val_lt (by omega) hd

end Go.Proofs.YtiljkgoafknefabGreat

/- The plain side of layer 4: differences, tests, choices. -/
namespace Go.Proofs.YtiljkgoafknefabGreat
open Go.RowKit

/-- What is left, modulo 2^(64 n). -/
def subN (A B n : Nat) : Nat := if A < B then A + 2 ^ (64 * n) - B else A - B

end Go.Proofs.YtiljkgoafknefabGreat

/- The plain side of layer 4: 0, choices, sums and differences if a bit is 1, one bit up and down. -/
namespace Go.Proofs.YtiljkgoafknefabGreat
open Go.RowKit

theorem big_len {w : World} {v : Value} {V : Nat} (h : IsBig w v V) : ∃ ao n cap, v = .slice ao n cap ∧ (n = 0 ↔ V = 0) := by
  obtain ⟨ds, hr, hd, ht, rfl, _⟩ := h
  obtain ⟨ao, n, cap, rfl, hL, _⟩ := hr.open
  refine ⟨ao, n, cap, rfl, ?_⟩
  have h1 := len_le_iff (B := 4294967296) (by omega) hd ht 0
  rw [Nat.pow_zero, hL.out] at h1
  omega

/-- Which of two a bit selects. -/
def selN (bit A B : Nat) : Nat := if bit % 2 = 1 then A else B

end Go.Proofs.YtiljkgoafknefabGreat

/- Package limbs: AddIf, and with it Add: what they answer and write down, for any numbers. -/
namespace Go.Proofs.YtiljkgoafknefabGreat
open Go.RowKit

/-- common, of two numbers. -/
theorem common2 (ao bo : Option Addr) (L M cap dap : Nat) (w : World) :
    Calls Tryz.prog 78 #[.slice (some ⟨w.heap.size, 0, none⟩) 2 2] (w.alloc (.cells #[.slice ao L cap, .slice bo M dap] 23)) fun e w' => ∃ g, e = .returned (.tuple #[.int .i64 (max L M : Nat), .func (.func 103) #[] #[.pointer (some ⟨g, 0, none⟩)]]) ∧ w'.heap[g]? = some (.cells #[.int .i64 (max L M : Nat)] 3 (0, 0)) ∧ w.heap.size ≤ g ∧ Kept Nought w w' := by
  have hn := new2 w (.slice ao L cap) (.slice bo M dap) 23
  refine (lCommon (some ⟨w.heap.size, 0, none⟩) 2 2 (fun i => if i = 0 then ao else bo) (fun i => if i = 0 then L else M) (fun i => if i = 0 then cap else dap) _ (by omega) ?_).mono ?_
  · intro i hi
    refine ⟨_, _, rfl, ?_⟩
    rw [Nat.zero_add, World.ownsRow.cellAt hn i (by omega)]
    have : i = 0 ∨ i = 1 := by omega
    rcases this with rfl | rfl <;> rfl
  · rintro e w' ⟨rfl, rfl⟩
    have hm : maxOf (fun i => if i = 0 then L else M) 2 = max L M := by simp [maxOf]
    rw [hm]
    exact ⟨_, rfl, heap_alloc_new _ _, by simp, ((Kept.refl Nought w).alloc _).alloc _⟩

theorem wAddN (x y c : Nat) (hx : x < 18446744073709551616) (hy : y < 18446744073709551616) (hc : c ≤ 1) (w : World) :
    Calls Tryz.prog 134 #[.int .u64 (x : Nat), .int .u64 (y : Nat), .int .u64 (c : Nat)] w fun e w' => ∃ z c' : Nat, e = .returned (.tuple #[.int .u64 (z : Nat), .int .u64 (c' : Nat)]) ∧ z < 18446744073709551616 ∧ c' ≤ 1 ∧ z + 18446744073709551616 * c' = x + y + c ∧ w' = w := by
  refine (wAdd (x : Int) (y : Int) (c : Int) (by omega) (by omega) (by omega) (by omega) w).mono ?_
  rintro e w' ⟨rfl, rfl⟩
  refine ⟨(x + y + c) % 18446744073709551616, (x + y + c) / 18446744073709551616, ret_two ?_ ?_, Nat.mod_lt _ (by omega), by omega, by omega, rfl⟩ <;> omega

theorem wSubN (x y c : Nat) (hx : x < 18446744073709551616) (hy : y < 18446744073709551616) (hc : c ≤ 1) (w : World) :
    Calls Tryz.prog 86 #[.int .u64 (x : Nat), .int .u64 (y : Nat), .int .u64 (c : Nat)] w fun e w' => ∃ z c' : Nat, e = .returned (.tuple #[.int .u64 (z : Nat), .int .u64 (c' : Nat)]) ∧ z < 18446744073709551616 ∧ c' ≤ 1 ∧ z + y + c = x + 18446744073709551616 * c' ∧ w' = w := by
  refine (wSub (x : Int) (y : Int) (c : Int) (by omega) (by omega) (by omega) (by omega) (by omega) w).mono ?_
  rintro e w' ⟨rfl, rfl⟩
  unfold bor
  by_cases h : (x : Int) < (y : Int) + (c : Int) % 2
  · rw [if_pos h]
    refine ⟨x + 18446744073709551616 - (y + c), 1, ret_two ?_ ?_, by omega, by omega, by omega, rfl⟩ <;> omega
  · rw [if_neg h]
    refine ⟨x - (y + c), 0, ret_two ?_ ?_, by omega, by omega, by omega, rfl⟩ <;> omega

theorem and_msk (y bit : Nat) (hy : y < 18446744073709551616) : bits .and .u64 (y : Int) (msk (bit : Int)) = ((y * (bit % 2) : Nat) : Int) := by
  unfold msk
  have : bit % 2 = 0 ∨ bit % 2 = 1 := by omega
  rcases this with h | h
  · rw [show (bit : Int) % 2 = 0 by omega, h]
    have e := u64_and_nat y 0 (by omega) (by omega)
    rw [Nat.and_zero] at e
    exact e
  · rw [show (bit : Int) % 2 = 1 by omega, h]
    have e := u64_and_nat y 18446744073709551615 (by omega) (by omega)
    rw [show (18446744073709551615 : Nat) = 2 ^ 64 - 1 from rfl, Nat.and_two_pow_sub_one_of_lt_two_pow (by omega)] at e
    rw [Nat.mul_one]
    exact e

theorem mod_succ (B X k : Nat) : X % B ^ (k + 1) = X % B ^ k + B ^ k * dig B X k := by rw [dig, Nat.pow_succ, Nat.mod_mul]

theorem dig_bit (B Y bit k : Nat) : dig B (Y * (bit % 2)) k = dig B Y k * (bit % 2) := by
  have : bit % 2 = 0 ∨ bit % 2 = 1 := by omega
  rcases this with h | h <;> rw [h] <;> simp [dig]

theorem addT_step {B X Y k c z c' : Nat} {os : List Nat} (hl : os.length = k) (h : val B os + B ^ k * c = X % B ^ k + Y % B ^ k) (hz : z + B * c' = dig B X k + dig B Y k + c) :
    val B (os ++ [z]) + B ^ (k + 1) * c' = X % B ^ (k + 1) + Y % B ^ (k + 1) := by
  rw [val_snoc, hl, mod_succ, mod_succ, Nat.pow_succ, Nat.mul_assoc]
  have e : B ^ k * (z + B * c') = B ^ k * (dig B X k + dig B Y k + c) := by rw [hz]
  rw [Nat.mul_add, Nat.mul_add, Nat.mul_add] at e
  omega

theorem subT_step {B X Y k c z c' : Nat} {os : List Nat} (hl : os.length = k) (h : val B os + Y % B ^ k = X % B ^ k + B ^ k * c) (hz : z + dig B Y k + c = dig B X k + B * c') :
    val B (os ++ [z]) + Y % B ^ (k + 1) = X % B ^ (k + 1) + B ^ (k + 1) * c' := by
  rw [val_snoc, hl, mod_succ, mod_succ, Nat.pow_succ, Nat.mul_assoc]
  have e : B ^ k * (z + dig B Y k + c) = B ^ k * (dig B X k + B * c') := by rw [hz]
  rw [Nat.mul_add, Nat.mul_add, Nat.mul_add] at e
  omega

theorem set_snoc (os : List Nat) (n k z : Nat) (hl : os.length = k) (h : k < n) : (os ++ List.replicate (n - k) 0).set k z = (os ++ [z]) ++ List.replicate (n - (k + 1)) 0 := by
  rw [List.set_append_right _ _ (by omega), hl, Nat.sub_self, show n - k = (n - (k + 1)) + 1 by omega, List.replicate_succ]
  simp

theorem B64 (n : Nat) : (18446744073709551616 : Nat) ^ n = 2 ^ (64 * n) := by rw [Nat.pow_mul]

/-- A row that is being filled: the first k cells stand, the others are noughts. -/
theorem fill_cell {w : World} {base g n k : Nat} {t : TypeId} {os : List Nat} (h : OwnN .u64 t w base (.slice (some ⟨g, 0, none⟩) n n) n (os ++ List.replicate (n - k) 0)) (hl : os.length = k) (hk : k < n) : w.cell? ⟨g, k, none⟩ = some (.int .u64 0) := by
  rw [World.ownsRow.cellAt h k (by omega), List.getElem?_map, List.getElem?_append_right (by omega), hl, Nat.sub_self, List.getElem?_replicate, if_pos (by omega)]
  rfl

theorem Slots.grew {w w' : World} {ao : Option Addr} {n : Nat} {A : Nat → Option Addr} {L C : Nat → Nat} (h : Slots w ao n A L C) (k : Kept Nought w w') : Slots w' ao n A L C := by
  intro i hi
  obtain ⟨b, off, rfl, hc⟩ := h i hi
  exact ⟨b, off, rfl, k.cellN hc⟩

end Go.Proofs.YtiljkgoafknefabGreat
