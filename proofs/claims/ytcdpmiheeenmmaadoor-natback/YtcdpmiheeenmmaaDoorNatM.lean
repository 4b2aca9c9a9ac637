/- strconv.FormatUint at base 16: the signs of a word's digits, the highest ahead, none that is 0 ahead. -/
import Derived.Test.YtcdpmiheeenmmaaDoorNatL
import Derived.Test.YtcdpmiheeenmmaaDoorRefShow
import Derived.Laws.IdiomStrings
namespace Go.Proofs.YtcdpmiheeenmmaaDoor
open Go.RowKit Go.Shelf

/-- The library's table of trailing noughts, at the one place that is read here. -/
def Tab (w : World) : Prop := w.cell? ⟨5, 15, none⟩ = some (.int .u8 4)

theorem Tab.grew {w w' : World} (h : Tab w) (k : Kept Nought w w') : Tab w' := k.cellN h

theorem hexTop_get (V n : Nat) : ∀ j i, i < j → (hexTop V n j)[i]? = some (hexSign (dig 16 V (n - 1 - i)))
  | 0, i, h => by omega
  | j + 1, i, h => by
    unfold hexTop
    by_cases e : i < j
    · rw [List.getElem?_append_left (by rw [hexTop_length]; exact e)]; exact hexTop_get V n j i e
    · obtain rfl : i = j := by omega
      rw [List.getElem?_append_right (by rw [hexTop_length]; omega), hexTop_length, Nat.sub_self]; rfl

/-- One digit more ahead. -/
theorem hexTop_up (V k : Nat) : hexTop V (k + 1) (k + 1) = hexSign (dig 16 V k) :: hexTop V k k := by
  apply List.ext_getElem?
  intro i
  by_cases h : i < k + 1
  · rw [hexTop_get _ _ _ _ h]
    cases i with
    | zero => simp
    | succ i => rw [List.getElem?_cons_succ, hexTop_get _ _ _ _ (by omega)]; congr 3; omega
  · rw [List.getElem?_eq_none (by rw [hexTop_length]; omega), List.getElem?_eq_none (by rw [List.length_cons, hexTop_length]; omega)]

theorem hexSign_val (d : Nat) (h : d < 16) : (hexSign d).toNat = if d < 10 then 48 + d else 87 + d := by
  have : d = 0 ∨ d = 1 ∨ d = 2 ∨ d = 3 ∨ d = 4 ∨ d = 5 ∨ d = 6 ∨ d = 7 ∨ d = 8 ∨ d = 9 ∨ d = 10 ∨ d = 11 ∨ d = 12 ∨ d = 13 ∨ d = 14 ∨ d = 15 := by omega
  rcases this with rfl | rfl | rfl | rfl | rfl | rfl | rfl | rfl | rfl | rfl | rfl | rfl | rfl | rfl | rfl | rfl <;> decide

/-- What the room for the signs holds, k of them written. -/
def roomL (x k : Nat) : List Nat := List.replicate (65 - k) 0 ++ (hexTop x k k).map (fun c => c.toNat)

theorem roomL_length (x k : Nat) (h : k ≤ 65) : (roomL x k).length = 65 := by simp [roomL, hexTop_length]; omega

theorem roomL_step (x k : Nat) (h : k < 65) : (roomL x k).set (64 - k) (hexSign (dig 16 x k)).toNat = roomL x (k + 1) := by
  unfold roomL
  rw [hexTop_up, show 65 - k = (64 - k) + 1 by omega, List.replicate_succ', List.append_assoc, List.set_append_right _ _ (by simp), show 65 - (k + 1) = 64 - k by omega]
  simp

theorem and15 (u : Nat) (h : u < 18446744073709551616) : bits .and .u64 (u : Int) 15 = ((u % 16 : Nat) : Int) := by
  have h1 := u64_and_nat u 15 h (by omega)
  rw [show (15 : Int) = ((15 : Nat) : Int) from rfl, h1, show (15 : Nat) = 2 ^ 4 - 1 from rfl, Nat.and_two_pow_sub_one_eq_mod]

theorem nTrail (w : World) (hT : Tab w) : Calls Tryd.prog 90 #[.int .u64 16] w fun e w' => e = .returned (.int .i64 4) ∧ w' = w := by
  have hT' : w.cell? ⟨5, 15, none⟩ = some (.int .u8 4) := hT
  have hb1 : bits .and .u64 16 (IntKind.u64.wrap (-16)) = 16 := by kernel_rfl
  have hb2 : IntKind.u64.wrap 4573923408821661840 = 4573923408821661840 := by kernel_rfl
  have h64 : Calls Tryd.prog 93 #[.int .u64 16] w fun e w' => e = .returned (.int .i64 4) ∧ w' = w := by
    go_enter Tryd.func93, Tryd.ntmps93
    go_wp2
    go_ret
    exact ⟨rfl, rfl⟩
  go_enter Tryd.func90, Tryd.ntmps90
  go_wp2_with fail
  refine h64.mono ?_
  rintro e w' ⟨rfl, rfl⟩
  go_wp2
  go_ret
  exact ⟨rfl, rfl⟩

theorem nPow2 (w : World) : Calls Tryd.prog 89 #[.int .i64 16] w fun e w' => e = .returned (.bool true) ∧ w' = w := by
  have hb1 : bits .and .i64 16 15 = 0 := by kernel_rfl
  go_enter Tryd.func89, Tryd.ntmps89
  go_wp2
  go_ret
  exact ⟨rfl, rfl⟩

/-- The library's signs. -/
abbrev dg36 : ByteArray := { data := #[48, 49, 50, 51, 52, 53, 54, 55, 56, 57, 97, 98, 99, 100, 101, 102, 103, 104, 105, 106, 107, 108, 109, 110, 111, 112, 113, 114, 115, 116, 117, 118, 119, 120, 121, 122] }

theorem dg36_get (d : Nat) (h : d < 16) (h2 : d < dg36.size) : dg36[d] = hexSign d := by
  have : d = 0 ∨ d = 1 ∨ d = 2 ∨ d = 3 ∨ d = 4 ∨ d = 5 ∨ d = 6 ∨ d = 7 ∨ d = 8 ∨ d = 9 ∨ d = 10 ∨ d = 11 ∨ d = 12 ∨ d = 13 ∨ d = 14 ∨ d = 15 := by omega
  rcases this with rfl | rfl | rfl | rfl | rfl | rfl | rfl | rfl | rfl | rfl | rfl | rfl | rfl | rfl | rfl | rfl <;> rfl

theorem dig16_low {x k t : Nat} (ht : t = x / 16 ^ k) : dig 16 x k = t % 16 := by rw [ht]; rfl

theorem roomL_at {x k j : Nat} (hj : j + k = 65) (i : Nat) (hi : i < k) : (roomL x k).getD (j + i) 0 = ((hexTop x k k)[i]'(by rw [hexTop_length]; exact hi)).toNat := by
  unfold roomL
  rw [List.getD_eq_getElem?_getD, List.getElem?_append_right (by simp; omega), List.length_replicate, show j + i - (65 - k) = i by omega, List.getElem?_map, List.getElem?_eq_getElem (by rw [hexTop_length]; exact hi)]
  rfl

/-- So many signs a word has. -/
theorem hex_many {x k : Nat} (h1 : x / 16 ^ k < 16) (h2 : k = 0 ∨ 1 ≤ x / 16 ^ k) : max ((blen x + 3) / 4) 1 = k + 1 := by
  have p16 : ∀ n, (16 : Nat) ^ n = 2 ^ (4 * n) := fun n => by rw [Nat.pow_mul]
  have hx : x < 2 ^ (4 * (k + 1)) := by
    rw [← p16, Nat.pow_succ, Nat.mul_comm]
    exact (Nat.div_lt_iff_lt_mul (Nat.pow_pos (by omega))).1 h1
  have b1 := (blen_le x _).2 hx
  rcases h2 with rfl | h2
  · omega
  · have hy : 2 ^ (4 * k) ≤ x := by
      rw [← p16]
      have := (Nat.le_div_iff_mul_le (Nat.pow_pos (by omega : 0 < 16))).1 h2
      omega
    have b2 : ¬ blen x ≤ 4 * k := fun h => by have := (blen_le x _).1 h; omega
    omega

set_option maxRecDepth 20000 in
set_option maxHeartbeats 1000000 in
/-- formatBits at base 16. -/
theorem nFormat (x : Nat) (hx : x < 18446744073709551616) (w : World) (hT : Tab w) :
    Calls Tryd.prog 82 #[.slice none 0 0, .int .u64 x, .int .i64 16, .bool false, .bool false] w fun e w' => e = .returned (.tuple #[.slice none 0 0, .string ⟨(hexTop x (max ((blen x + 3) / 4) 1) (max ((blen x + 3) / 4) 1)).toArray⟩]) ∧ Kept Nought w w' := by
  have hTr := fun W (hk : Kept Nought w W) => nTrail W (hT.grew hk)
  go_enter Tryd.func82, Tryd.ntmps82
  go_wp2_with (first
    | (go_at_call 90; refine (hTr _ ((Kept.refl Nought w).alloc _)).mono ?_; rintro e w' ⟨rfl, rfl⟩)
    | (go_at_call 89; refine (nPow2 _).mono ?_; rintro e w' ⟨rfl, rfl⟩))
  have hnew : (w.alloc (.cells Tryd.zeroCells134 134)).ownsRow w.heap.size 134 1 (.slice (some ⟨w.heap.size, 0, none⟩) 65 65) 65 ((roomL x 0).map fun z => .int .u8 (z : Nat)) := by
    refine ⟨by simp [roomL, hexTop], .inr ⟨w.heap.size, 65, _, rfl, Nat.le_refl _, World.alloc_heap_new w _, Nat.le_refl _, by unfold maxLen; omega, by kernel_rfl, ?_⟩⟩
    have : roomL x 0 = List.replicate 65 0 := by simp [roomL, hexTop]
    rw [this]
    show (Tryd.zeroCells134).toList.take (65 * 1) = (List.replicate 65 0).map fun z : Nat => Value.int .u8 (z : Int)
    kernel_rfl
  have HNEW : Hid _ := hnew
  clear hnew
  go_loopw [1, 13] (fun u i wr => ∃ k t j : Nat, k ≤ 15 ∧ Hid (t = x / 16 ^ k ∧ (k = 0 ∨ 1 ≤ t)) ∧ t < 18446744073709551616 ∧ j + 1 + k = 65 ∧ u = .int .u64 (t : Int) ∧ i = .int .i64 ((j : Int) + 1) ∧ Hid (wr.ownsRow w.heap.size 134 1 (.slice (some ⟨w.heap.size, 0, none⟩) 65 65) 65 ((roomL x k).map fun z => .int .u8 (z : Nat))) ∧ Kept Nought w wr) (fun _ i _ => (intOf i).toNat)
  case atStart => exact ⟨0, x, 64, by omega, ⟨by simp, .inl rfl⟩, hx, by omega, rfl, rfl, HNEW, (Kept.refl _ _).alloc _⟩
  case round =>
    clear HNEW
    obtain ⟨k, t, j, hk, ht, htb, hj, rfl, rfl, hown, hkp⟩ := hrel
    have ho := hown.out
    have hcj : ∃ old : Nat, wr.cell? ⟨w.heap.size, j, none⟩ = some (.int .u8 (old : Nat)) := ⟨(roomL x k).getD j 0, by
      rw [World.ownsRow.cellAt ho j (by omega), List.getElem?_map, List.getElem?_eq_getElem (by rw [roomL_length _ _ (by omega)]; omega), List.getD_eq_getElem?_getD, List.getElem?_eq_getElem (by rw [roomL_length _ _ (by omega)]; omega)]
      rfl⟩
    obtain ⟨old, hc⟩ := hcj
    have hf := World.ownsRow.frozenAt ho j
    have hst : Hid (World.ownsRow (wr.setCell ⟨w.heap.size, j, none⟩ (.int .u8 (((hexSign (t % 16)).toNat : Nat) : Int))) w.heap.size 134 1 (.slice (some ⟨w.heap.size, 0, none⟩) 65 65) 65 ((roomL x (k + 1)).map fun z => .int .u8 (z : Nat))) := by
      have h1 := (World.ownsRow.stored ho j (.int .u8 (((hexSign (t % 16)).toNat : Nat) : Int))).1
      have h2 := roomL_step x k (by omega)
      rw [show 64 - k = j by omega, dig16_low ht.out.1] at h2
      rw [← h2, List.map_set]
      exact h1
    clear ho hTr
    have hj62 : j < 65 := by omega
    by_cases hge : 16 ≤ t
    · have hge' : (t : Int) ≥ 16 := by omega
      have hd := and15 t htb
      have hd16 : t % 16 < 16 := Nat.mod_lt _ (by omega)
      have HD : Hid (∃ d, d = t % 16) := ⟨_, rfl⟩
      have hg := fun h => dg36_get (t % 16) hd16 h
      have HG : Hid (∀ h, dg36[t % 16]'h = hexSign (t % 16)) := hg
      have hk14 : Hid (k + 1 ≤ 15) := by
        show k + 1 ≤ 15
        have h1 := ht.out.1
        rcases Nat.lt_or_ge k 15 with h | h
        · omega
        · obtain rfl : k = 15 := by omega
          have h2 : x / 16 ^ 15 < 16 := (Nat.div_lt_iff_lt_mul (by decide)).2 hx
          omega
      have ht2 : Hid (t / 16 = x / 16 ^ (k + 1)) := by
        show t / 16 = x / 16 ^ (k + 1)
        rw [ht.out.1, Nat.pow_succ, Nat.div_div_eq_div_mul]
      clear hg
      generalize t % 16 = d at *
      go_wp2
      simp only [HG.out]
      refine ⟨⟨k + 1, t / 16, j - 1, hk14.out, ⟨ht2.out, .inr (by omega)⟩, by omega, by have := hk14.out; omega, by simp, ?_, hst, hkp.setCell _ (fun h => absurd h (by simp)) _⟩, by simp [intOf]⟩
      have := hk14.out
      congr 1
      omega
    · have hge' : ¬ (t : Int) ≥ 16 := by omega
      have ht16 : t < 16 := by omega
      have HG : Hid (∀ h, dg36[t]'h = hexSign t) := fun h => dg36_get t ht16 h
      rw [show t % 16 = t from Nat.mod_eq_of_lt ht16] at hst
      have hmany := hex_many (x := x) (k := k) (by rw [← ht.out.1]; exact ht16) (by rw [← ht.out.1]; exact ht.out.2)
      have HM : Hid (max ((blen x + 3) / 4) 1 = k + 1) := hmany
      clear hmany
      have hlen : (hexTop x (k + 1) (k + 1)).length = 65 - j := by rw [hexTop_length]; omega
      have hconv := run_convert_bytes_back (P := Tryd.prog) (wr.setCell ⟨w.heap.size, j, none⟩ (.int .u8 (((hexSign t).toNat : Nat) : Int))) 22 9 5 ⟨w.heap.size, j, none⟩ (65 - j) (hexTop x (k + 1) (k + 1)) Tryd.underlying22 Tryd.underlying5 Tryd.underlying9 (fun i hi => by
        rw [hexTop_length] at hi
        rw [show (⟨w.heap.size, j, none⟩ : Addr).add i = ⟨w.heap.size, j + i, none⟩ by simp [Addr.add], World.ownsRow.cellAt hst.out (j + i) (by omega), List.getElem?_map]
        have h1 := roomL_at (x := x) (k := k + 1) (j := j) (by omega) i hi
        rw [← h1, List.getD_eq_getElem?_getD, List.getElem?_eq_getElem (by rw [roomL_length _ _ (by omega)]; omega)]
        rfl)
      rw [hlen] at hconv
      rw [← HG.out (by show t < 36; omega)] at hconv
      clear hlen
      have har : Tryd.prog.arrayLen 134 = 65 := by kernel_rfl
      have hj65 : (j : Int) ≤ 65 := by omega
      go_wp2
      go_ret2
      exact ⟨by rw [HM.out]; rfl, hkp.setCell ⟨w.heap.size, j, none⟩ (fun h => absurd h (by simp)) _⟩

/-- A word's signs. -/
def hexW (y : Nat) : List UInt8 := hexTop y (max ((blen y + 3) / 4) 1) (max ((blen y + 3) / 4) 1)

theorem nFmt (x : Nat) (hx : x < 18446744073709551616) (w : World) (hT : Tab w) :
    Calls Tryd.prog 54 #[.int .u64 x, .int .i64 16] w fun e w' => e = .returned (.string ⟨(hexW x).toArray⟩) ∧ Kept Nought w w' := by
  have hF := nFormat x hx w hT
  have hI : Calls Tryd.prog 69 #[.int .u64 x, .int .i64 16] w fun e w' => e = .returned (.string ⟨(hexW x).toArray⟩) ∧ Kept Nought w w' := by
    go_enter Tryd.func69, Tryd.ntmps69
    go_wp2_with fail
    refine hF.mono ?_
    rintro e w1 ⟨rfl, hk⟩
    go_wp2
    go_ret
    exact ⟨rfl, hk⟩
  clear hF
  go_enter Tryd.func54, Tryd.ntmps54
  go_wp2_with fail
  refine hI.mono ?_
  rintro e w1 ⟨rfl, hk⟩
  go_wp2
  go_ret
  exact ⟨rfl, hk⟩

end Go.Proofs.YtcdpmiheeenmmaaDoor
