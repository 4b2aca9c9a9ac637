/- The plain sum. -/
import Derived.Test.YtnjmckfkfkalgaaBigNat
namespace Go.Proofs.Ytnjmckfkfkalgaa
open Go.RowKit

theorem val_take_succ (B : Nat) (l : List Nat) (k : Nat) : val B (l.take (k + 1)) = val B (l.take k) + B ^ k * l.getD k 0 := by
  by_cases h : k < l.length
  · rw [List.take_succ_eq_append_getElem h, val_snoc, List.length_take, Nat.min_eq_left (by omega), List.getD_eq_getElem?_getD, List.getElem?_eq_getElem h]
    rfl
  · rw [List.take_of_length_le (by omega), List.take_of_length_le (by omega), List.getD_eq_getElem?_getD, List.getElem?_eq_none (by omega)]
    simp

theorem carry_step (p B t : Nat) : p * (t % B) + p * B * (t / B) = p * t := by
  have h := Nat.mod_add_div t B
  calc p * (t % B) + p * B * (t / B) = p * (t % B + B * (t / B)) := by rw [Nat.mul_add, Nat.mul_assoc]
    _ = p * t := by rw [h]

theorem new1_cells (w : World) (x : Value) (e : TypeId) : ∀ j u, [x][j]? = some u → (w.alloc (.cells #[x] e)).cell? ((⟨w.heap.size, 0, none⟩ : Addr).add j) = some u :=
  World.news_of_block (cs := #[x]) (t := e) (fr := (0, 0)) (Go.heap_alloc_new w _)

theorem add_step {a b os : List Nat} {k c x y : Nat} (hl : os.length = k) (h : val 4294967296 os + 4294967296 ^ k * c = val 4294967296 (a.take k) + val 4294967296 (b.take k)) (hx : a.getD k 0 = x) (hy : b.getD k 0 = y) :
    val 4294967296 (os ++ [(c + (x + y)) % 4294967296]) + 4294967296 ^ (k + 1) * ((c + (x + y)) / 4294967296) = val 4294967296 (a.take (k + 1)) + val 4294967296 (b.take (k + 1)) := by
  rw [val_snoc, hl, val_take_succ, val_take_succ, hx, hy, Nat.pow_succ, Nat.add_assoc, carry_step, Nat.mul_add, Nat.mul_add]
  omega

set_option maxHeartbeats 800000 in
theorem rAdd (u v : Value) (A B : Nat) (w : World) (hu : IsBig w u A) (hv : IsBig w v B) (hlen : dlen A ≤ 100000000) (hlen' : dlen B ≤ 100000000) :
    Calls Try.prog 36 #[u, v] w fun r w' => ∃ v', r = .returned v' ∧ IsBig w' v' (A + B) ∧ (∀ b, v'.ownBlock = some b → w.heap.size ≤ b) ∧ Kept Nought w w' := by
  obtain ⟨i0, hi0, hz0, hz1, hz2⟩ := info_parts Try.info70
  obtain ⟨a, ra, da, ta, rfl, la⟩ := hu
  obtain ⟨b, rb, db, tb, rfl, lb⟩ := hv
  have la' : a.length ≤ 100000000 := by rw [len_dlen da ta]; exact hlen
  have lb' : b.length ≤ 100000000 := by rw [len_dlen db tb]; exact hlen'
  have HA := fun i W (hk : Kept Nought w W) => rDigit u a i W (ra.grew hk)
  have HB := fun i W (hk : Kept Nought w W) => rDigit v b i W (rb.grew hk)
  have xa := fun i => da.getD (by omega) i
  have xb := fun i => db.getD (by omega) i
  obtain ⟨ao, n, ac, rfl, hN, _, _, _, _⟩ := ra.open
  obtain ⟨bo, m, bc, rfl, hM, _, _, _, _⟩ := rb.open
  rw [hN.out] at la'
  rw [hM.out] at lb'
  clear ra rb la lb hlen hlen' da db ta tb
  go_enter Try.func36, Try.ntmps36
  go_wp2_with fail
  go_loopw [5, 6, 7] (fun o c i wr => ∃ (k c' : Nat) (os : List Nat), k ≤ max n m ∧ c' ≤ 1 ∧ i = .int .i64 k ∧ c = .int .u64 (c' : Nat) ∧ os.length = k ∧ Digs 4294967296 os ∧ OwnN .u32 70 wr w.heap.size o k os ∧ Kept Nought w wr ∧
      val 4294967296 os + 4294967296 ^ k * c' = val 4294967296 (a.take k) + val 4294967296 (b.take k)) (fun _ _ i _ => max n m - (intOf i).toNat)
  case atStart => exact ⟨0, 0, [], Nat.zero_le _, by omega, rfl, rfl, rfl, Digs.nil _, World.ownsRow_nil _ _ _ _, Kept.refl _ _, by simp [val]⟩
  case round =>
    obtain ⟨k, c, os, hk, hc, rfl, rfl, hol, hod, ho, hkp, hval⟩ := hrel
    have HV : Hid (val 4294967296 os + 4294967296 ^ k * c = val 4294967296 (a.take k) + val 4294967296 (b.take k)) := hval
    have HL : Hid (os.length = k) := hol
    clear hval hol
    by_cases hlt : k < max n m
    · have hA := HA k wr hkp
      have hB := HB k wr hkp
      have hx := xa k
      have hy := xb k
      have HS := fun x y hx hy => add_step (a := a) (b := b) (os := os) (k := k) (c := c) (x := x) (y := y) HL.out HV.out hx hy
      have HS' : Hid (val 4294967296 (os ++ [(c + (a.getD k 0 + b.getD k 0)) % 4294967296]) + 4294967296 ^ (k + 1) * ((c + (a.getD k 0 + b.getD k 0)) / 4294967296) = val 4294967296 (a.take (k + 1)) + val 4294967296 (b.take (k + 1))) := HS _ _ rfl rfl
      clear HA HB xa xb HS HV
      generalize a.getD k 0 = x at *
      generalize b.getD k 0 = y at *
      have e1 : ((c : Int) + ((x : Int) + (y : Int))) % 4294967296 = (((c + (x + y)) % 4294967296 : Nat) : Int) := by omega
      have e2 : ((c : Int) + ((x : Int) + (y : Int))) / 4294967296 = (((c + (x + y)) / 4294967296 : Nat) : Int) := by omega
      have E1 : Hid (((c : Int) + ((x : Int) + (y : Int))) % 4294967296 = (((c + (x + y)) % 4294967296 : Nat) : Int)) := e1
      have E2 : Hid (((c : Int) + ((x : Int) + (y : Int))) / 4294967296 = (((c + (x + y)) / 4294967296 : Nat) : Int)) := e2
      clear e1 e2
      by_cases hkn : k < n
      all_goals
        have g1 : (k : Int) < (n : Int) ∨ (¬ (k : Int) < (n : Int) ∧ (k : Int) < (m : Int)) := by omega
        rcases g1 with g1 | ⟨g1, g2⟩
        all_goals first | (exfalso; omega) | skip
        all_goals
          go_wp2_with fail
          refine hA.mono ?_
          rintro e w' ⟨rfl, rfl⟩
          go_wp2_with fail
          refine hB.mono ?_
          rintro e w' ⟨rfl, rfl⟩
          go_wp2_with (at_builtin; refine wpList_append_lies _ rfl _ _ 51 rfl w.heap.size 70 i0 _ 1 4 Try.underlying51 hi0 hz0 hz1 hz2 rfl (by omega) _ _ _ rfl (ho.alloc _) ⟨w'.heap.size, 0, none⟩ 1 1 [.int .u32 (((c : Int) + ((x : Int) + (y : Int))) % 4294967296)] rfl rfl (new1_cells w' _ _) (by simp [Value.oneCell']) (by omega) (by unfold maxLen; omega) (by omega) (by have := hkp.size; simp; omega) (w'.heap.size + 1) (by simp) ?_; intro gg c' w4 ho4 hg hat hgl)
          have hk5 : Kept Nought w w4 := (hkp.alloc _).grown hg (fun b hb hlt => by have := (ho.lt b hb).1; omega)
          rw [E1.out] at ho4
          rw [E2.out]
          go_roundw
          case rel => exact ⟨k + 1, (c + (x + y)) / 4294967296, os ++ [(c + (x + y)) % 4294967296], by omega, by omega, by go_num, rfl, by rw [List.length_append, HL.out]; rfl, hod.append (Digs.one (Nat.mod_lt _ (by omega))), by unfold OwnN; rw [List.map_append]; exact ho4, hk5, HS'.out⟩
          case measure => simp [intOf]; omega
    · have e : k = max n m := by omega
      have hta : a.take k = a := List.take_of_length_le (by have := hN.out; omega)
      have htb : b.take k = b := List.take_of_length_le (by have := hM.out; omega)
      have hv2 : Hid (val 4294967296 (os ++ [c]) = val 4294967296 a + val 4294967296 b) := by
        unfold Hid
        rw [val_snoc, HL.out]
        have := HV.out
        rw [hta, htb] at this
        exact this
      clear HA HB xa xb HV hta htb e
      have g1 : ¬ (k : Int) < (n : Int) := by omega
      have g2 : ¬ (k : Int) < (m : Int) := by omega
      have g3 : k ≤ 100000000 := by omega
      go_wp2_with (at_builtin; refine wpList_append_lies _ rfl _ _ 51 rfl w.heap.size 70 i0 _ 1 4 Try.underlying51 hi0 hz0 hz1 hz2 rfl (by omega) _ _ _ rfl (ho.alloc _) ⟨wr.heap.size, 0, none⟩ 1 1 [.int .u32 (c : Int)] rfl rfl (new1_cells wr _ _) (by simp [Value.oneCell']) (by omega) (by unfold maxLen; omega) (by omega) (by have := hkp.size; simp; omega) (wr.heap.size + 1) (by simp) ?_; intro gg c' w4 ho4 hg hat hgl)
      have hk5 : Kept Nought w w4 := (hkp.alloc _).grown hg (fun b hb hlt => by have := (ho.lt b hb).1; omega)
      have hl5 : (os ++ [c]).length = k + 1 := by rw [List.length_append, HL.out]; rfl
      have hr : Row .u32 w4 _ (os ++ [c]) := Row.of_own (base := w.heap.size) (e := 70) (by rw [hl5, List.map_append]; exact ho4)
      have ht := rTrimBig _ _ _ hr (hod.append (Digs.one (by omega))) (by omega)
      rw [hv2.out] at ht
      refine ht.mono ?_
      rintro e w' ⟨v', rfl, hb, ho', rfl⟩
      go_wp2
      go_ret
      exact ⟨v', rfl, hb, fun b hb' => by rw [ho'] at hb'; exact (ho4.lt b hb').1, hk5⟩

end Go.Proofs.Ytnjmckfkfkalgaa
