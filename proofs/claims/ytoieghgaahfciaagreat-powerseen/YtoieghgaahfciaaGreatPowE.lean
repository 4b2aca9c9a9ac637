/- Package power: what stands in for what may not be (standIns), with the library's Repeat; whether lengths may be (haveLengths). -/
import Derived.Test.YtoieghgaahfciaaGreatPowA
import Derived.Deep.RegionLaw
namespace Go.Proofs.YtoieghgaahfciaaGreat
open Go.RowKit

set_option maxHeartbeats 400000 in
/-- bits.Mul, of one and a number. -/
theorem bMul1 (n : Nat) (hn : n < 18446744073709551616) (w : World) :
    Calls Tryz.prog 99 #[.int .u64 1, .int .u64 (n : Nat)] w fun e w' => e = .returned (.tuple #[.int .u64 0, .int .u64 (n : Nat)]) ∧ w' = w := by
  have h := mul64_any 1 (n : Int) (by omega) (by omega) (by omega) (by omega) w
  rw [show (1 : Int) * (n : Int) / 18446744073709551616 = 0 by omega, show (1 : Int) * (n : Int) % 18446744073709551616 = (n : Int) by omega] at h
  go_enter Tryz.func99, Tryz.ntmps99
  go_wp2_with fail
  refine h.mono ?_
  rintro e w' ⟨rfl, rfl⟩
  go_wp2
  go_ret2
  exact ⟨rfl, rfl⟩

/-- A row of n whose first k are M. -/
def fillL (M k n : Nat) : List Nat := List.replicate k M ++ List.replicate (n - k) 0

theorem fillL_len {M k n : Nat} (h : k ≤ n) : (fillL M k n).length = n := by
  unfold fillL
  rw [List.length_append, List.length_replicate, List.length_replicate]
  omega

theorem fill_step {M k n c : Nat} (h : k + c ≤ n) (f : Nat → Value) : splice ((fillL M k n).map f) k ((List.replicate c M).map f) = (fillL M (k + c) n).map f := by
  unfold fillL splice
  simp only [List.map_append, List.map_replicate]
  rw [List.take_left' (by simp), List.drop_append]
  simp only [List.length_replicate, List.drop_replicate]
  rw [show k - (k + c) = 0 by omega, show n - k - (k + c - k) = n - (k + c) by omega, List.replicate_zero, List.nil_append, ← List.append_assoc, List.replicate_append_replicate]

theorem fill_first {w2 : World} {g n M : Nat} {t : TypeId} (hn : 0 < n) (h : w2.heap[g]? = some (.cells (splice ((List.replicate n 0).map fun z : Nat => Value.int .u64 (z : Int)) 0 ([M].map fun z : Nat => Value.int .u64 (z : Int))).toArray t (0, 0))) :
    w2.heap[g]? = some (.cells ((fillL M 1 n).map fun z : Nat => Value.int .u64 (z : Int)).toArray t (0, 0)) := by
  have := fill_step (M := M) (k := 0) (c := 1) (n := n) (by omega) (fun z : Nat => Value.int .u64 (z : Int))
  rw [Nat.zero_add] at this
  rw [← this]
  exact h

theorem fill_at {M k n j : Nat} (hj : j < k) (f : Nat → Value) : ((fillL M k n).map f)[j]? = some (f M) := by
  unfold fillL
  rw [List.map_append, List.getElem?_append_left (by simpa using hj), List.getElem?_map, List.getElem?_replicate, if_pos hj]
  rfl

set_option maxRecDepth 20000 in
set_option maxHeartbeats 2000000 in
/-- slices.Repeat, of one number. -/
theorem sRepeat (b M n : Nat) (w : World) (hx : w.cell? ⟨b, 0, none⟩ = some (.int .u64 (M : Nat))) (hn0 : 0 < n) (hn : n ≤ 1000) :
    Calls Tryz.prog 74 #[.slice (some ⟨b, 0, none⟩) 1 1, .int .i64 (n : Nat)] w fun e w' => e = .returned (.slice (some ⟨w.heap.size, 0, none⟩) n n) ∧ OwnN .u64 24 w' w.heap.size (.slice (some ⟨w.heap.size, 0, none⟩) n n) n (List.replicate n M) ∧ Kept Nought w w' := by
  obtain ⟨i0, hi0, hz0, hz1, hz2⟩ := info_parts Tryz.info24
  have hB := bMul1 n (by omega) w
  have g0 : ¬ (n : Int) < 0 := by omega
  have g3 : decide ((9223372036854775807 : Int) < (n : Int)) = false := decide_eq_false (by omega)
  have g1 : IntKind.u64.wrap (n : Int) = (n : Int) := by rw [IntKind.wrap_u64]; omega
  have g2 : IntKind.i64.wrap (n : Int) = (n : Int) := by rw [IntKind.wrap_i64]; omega
  have HX : Hid (∀ W, Kept Nought w W → ∀ j u, ([M].map fun z : Nat => Value.int .u64 (z : Int))[j]? = some u → W.cell? ((⟨b, 0, none⟩ : Addr).add j) = some u) := fun W k j u hj => by
    cases j with
    | zero =>
      rw [List.map_cons, List.getElem?_cons_zero] at hj
      cases hj
      exact k.cellN hx
    | succ j => simp at hj
  clear hx
  go_enter Tryz.func74, Tryz.ntmps74
  go_wp2_with fail
  refine hB.mono ?_
  rintro e w' ⟨rfl, rfl⟩
  clear hB
  have HO : Hid (∀ c : Nat, ∀ u ∈ (List.replicate c M).map (fun z : Nat => Value.int .u64 (z : Int)), u.oneCell' = true) := fun c => ints_one .u64 _
  go_wp2_with (at_make; refine wpList_make_full _ rfl _ _ 23 rfl w'.heap.size 24 i0 _ 1 Tryz.underlying23 hi0 hz0 hz1 _ _ _ _ n rfl rfl rfl rfl (by rw [hz2]; omega) (by unfold maxLen; omega) (Nat.le_refl _) ?_; intro w1 ho1 hg1; rw [zeros_map] at ho1; have k1 := grown_kept hg1; obtain ⟨w2, hrun, hb2, k2⟩ := run_copy_part (P := Tryz.prog) 23 23 3 24 w'.heap.size 0 n n (some ⟨w'.heap.size, 0, none⟩) (some ⟨b, 0, none⟩) 1 1 _ 24 ([M].map fun z : Nat => Value.int .u64 (z : Int)) Tryz.underlying23 (by rw [hi0]; simp [hz1]) (own_block ho1) (by show 1 = min 1 n; omega) (fun _ => ⟨rfl, _, rfl, HX.out _ k1⟩) (by simp; omega) (ints_one .u64 [M]); have HB2 := toHid (fill_first hn0 hb2); have HK2 := toHid (kept_new k1 k2 (Nat.le_refl _)); clear hb2 ho1 hg1 k1 k2)
  go_loopw [8] (fun kv wr => ∃ k : Nat, 0 < k ∧ k ≤ n ∧ kv = .int .i64 (k : Int) ∧ Hid (wr.heap[w'.heap.size]? = some (.cells ((fillL M k n).map fun z : Nat => Value.int .u64 (z : Int)).toArray 24 (0, 0))) ∧ Hid (Kept Nought w' wr)) (fun kv _ => n - (intOf kv).toNat)
  case atStart => exact ⟨1, by omega, by omega, rfl, HB2.out, HK2.out⟩
  case round =>
    obtain ⟨k, hk0, hkn, rfl, HB, HK⟩ := hrel
    clear HB2 HK2
    by_cases hk : k < n
    · have e1 : (k : Int) < (n : Int) := by omega
      have e2 : (0 : Int) ≤ (k : Int) := by omega
      have e3 : (k : Int) ≤ (n : Int) := by omega
      obtain ⟨c, hc⟩ : ∃ c, c = min k (n - k) := ⟨_, rfl⟩
      have hlen : ((List.replicate c M).map fun z : Nat => Value.int .u64 (z : Int)).length = c := by rw [List.length_map, List.length_replicate]
      obtain ⟨w3, hrun, hb3, k3⟩ := run_copy_part (P := Tryz.prog) (w := wr.drew) 23 23 3 24 w'.heap.size k (n - k) (n - k) (some ⟨w'.heap.size, k, none⟩) (some ⟨w'.heap.size, 0, none⟩) k n ((fillL M k n).map fun z : Nat => Value.int .u64 (z : Int)) 24 ((List.replicate c M).map fun z : Nat => Value.int .u64 (z : Int)) Tryz.underlying23 (by rw [hi0]; simp [hz1]) HB.out (by rw [hlen, hc]) (fun _ => ⟨rfl, _, rfl, fun j u hj => by
        have hjc : j < c := by
          have := (List.getElem?_eq_some_iff.1 hj).1
          rwa [hlen] at this
        rw [List.getElem?_map, List.getElem?_replicate, if_pos hjc] at hj
        rw [show (⟨w'.heap.size, 0, none⟩ : Addr).add j = ⟨w'.heap.size, j, none⟩ by unfold Addr.add; split <;> simp_all, cell_of_row wr.drew w'.heap.size j _ _ _ HB.out, List.getElem?_toArray, fill_at (by omega)]
        exact hj⟩) (by rw [hlen, List.length_map, fillL_len hkn]; omega) (HO.out c)
      rw [hlen] at hrun
      rw [fill_step (by omega)] at hb3
      have HB3 := toHid hb3
      have HK3 : Hid (Kept Nought w' w3) := kept_new HK.out.drew k3 (Nat.le_refl _)
      have hc1 : Hid (0 < c ∧ k + c ≤ n) := ⟨by omega, by omega⟩
      have e4 : IntKind.i64.wrap ((k : Int) + (c : Int)) = (k : Int) + (c : Int) := by rw [IntKind.wrap_i64]; omega
      clear hlen hb3 k3 hc HB HK
      go_wp2_with fail
      go_region
      go_wp2_with fail
      go_roundw
      case rel => exact ⟨k + c, by omega, hc1.out.2, by simp, HB3.out, HK3.out⟩
      case measure => have := hc1.out; simp [intOf]; omega
    · have e1 : ¬ (k : Int) < (n : Int) := by omega
      obtain rfl : k = n := by omega
      go_wp2_with fail
      go_ret
      refine ⟨rfl, own_of_block ?_ (by simp) (by unfold maxLen; omega) (Nat.le_refl _), HK.out⟩
      have := HB.out
      unfold fillL at this
      rwa [Nat.sub_self, List.replicate_zero, List.append_nil] at this

end Go.Proofs.YtoieghgaahfciaaGreat
