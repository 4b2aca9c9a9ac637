/- Put together of: LimH Ref6o Ref7B Ref7C RinA. -/
import Derived.Test.YtiljkgoafknefaaGreatPk5
import Derived.Test.YtiljkgoafknefaaGreatPk15
import Derived.Test.YtiljkgoafknefaaGreatPk23
import Derived.Test.YtiljkgoafknefaaGreatPk27
import Derived.Deep.RegionWith
import Derived.Deep.RegionHeld3

/- Package limbs: Right: what it answers and writes down, for any number. -/
namespace Go.Proofs.YtiljkgoafknefaaGreat
open Go.RowKit

theorem dig_above {X t n p : Nat} (hp : p < n) : dig 18446744073709551616 X p = dig 18446744073709551616 (X + t * 18446744073709551616 ^ n) p := by
  unfold dig
  have e : t * 18446744073709551616 ^ n = 18446744073709551616 ^ p * (t * 18446744073709551616 ^ (n - p - 1) * 18446744073709551616) := by
    rw [show n = p + ((n - p - 1) + 1) by omega, Nat.pow_add, Nat.pow_succ, show p + (n - p - 1 + 1) - p - 1 = n - p - 1 by omega]
    simp only [Nat.mul_left_comm, Nat.mul_comm]
  rw [e, Nat.add_mul_div_left _ _ (Nat.pow_pos (by omega)), Nat.add_mul_mod_self_right]

theorem right_dig (Z p : Nat) : dig 18446744073709551616 (Z / 2) p = dig 18446744073709551616 Z p / 2 + 9223372036854775808 * (Z / 18446744073709551616 ^ (p + 1) % 2) := by
  unfold dig
  rw [Nat.pow_succ, ← Nat.div_div_eq_div_mul, Nat.div_div_eq_div_mul Z 2, Nat.mul_comm 2, ← Nat.div_div_eq_div_mul]
  generalize Z / 18446744073709551616 ^ p = T
  omega

theorem shr_or (x c : Nat) (hx : x < 18446744073709551616) (hc : c ≤ 1) : bits .or .u64 ((x / 2 : Nat) : Int) ((9223372036854775808 * c : Nat) : Int) = ((x / 2 + 9223372036854775808 * c : Nat) : Int) := by
  rw [u64_or_nat _ _ (by omega) (by omega)]
  congr 1
  rw [Nat.or_comm, Nat.add_comm, show 9223372036854775808 * c = 2 ^ 63 * c from rfl, ← Nat.two_pow_add_eq_or_of_lt (by omega : x / 2 < 2 ^ 63)]

theorem set_top (D : List Nat) (n k m : Nat) (hl : D.length = n) (hk : k < n) (hm : m = n - 1 - k) : (List.replicate (n - k) 0 ++ D.drop (n - k)).set m (D.getD m 0) = List.replicate (n - (k + 1)) 0 ++ D.drop (n - (k + 1)) := by
  rw [show n - (k + 1) = m by omega, show n - k = m + 1 by omega, List.replicate_succ', List.append_assoc, List.set_append_right _ _ (by simp), List.length_replicate, Nat.sub_self, List.drop_eq_getElem_cons (show m < D.length by omega), List.getD_eq_getElem?_getD, List.getElem?_eq_getElem (show m < D.length by omega)]
  simp

/-- A row that is being filled from the top. -/
theorem top_cell {w : World} {base g n k m : Nat} {t : TypeId} {D : List Nat} (h : OwnN .u64 t w base (.slice (some ⟨g, 0, none⟩) n n) n (List.replicate (n - k) 0 ++ D)) (hk : k < n) (hm : m = n - 1 - k) : w.cell? ⟨g, m, none⟩ = some (.int .u64 0) := by
  rw [World.ownsRow.cellAt h m (by omega), List.getElem?_map, List.getElem?_append_left (by simp; omega), List.getElem?_replicate, if_pos (by omega)]
  rfl

set_option maxRecDepth 20000 in
set_option maxHeartbeats 2000000 in
/-- Right. -/
theorem lRight (o : Tr) (u : Value) (xs : List Nat) (bit : Nat) (hbit : bit < 18446744073709551616) (w : World) (ht : TrRoom w o 1) (hu : RowT w o u xs) (hdx : Digs 18446744073709551616 xs) (hL : xs.length ≤ 100000000) :
    Calls Tryz.prog 167 #[trPtr o, u, .int .u64 (bit : Nat)] w fun e w' => ∃ v', e = .returned (.tuple #[v', .int .u64 ((val 18446744073709551616 xs + bit % 2 * 18446744073709551616 ^ xs.length) % 2 : Nat)]) ∧
      OwnN .u64 24 w' w.heap.size v' xs.length (digs 18446744073709551616 ((val 18446744073709551616 xs + bit % 2 * 18446744073709551616 ^ xs.length) / 2) xs.length) ∧ ∃ o', Did w o [(1, (xs.length : Nat), 0)] w' o' := by
  obtain ⟨i0, hi0, hz0, hz1, hz2⟩ := info_parts Tryz.info24
  have hand := and_one_u64 (bit : Int) (by omega) (by omega)
  obtain ⟨bt, hbt⟩ : ∃ bt, bt = bit % 2 := ⟨_, rfl⟩
  rw [show (bit : Int) % 2 = (bt : Int) by omega] at hand
  rw [← hbt]
  have hb1 : bt ≤ 1 := by omega
  clear hbt
  have hself := toHid (digs_val_self hdx)
  have hX : Hid (val 18446744073709551616 xs < 18446744073709551616 ^ xs.length) := val_lt_le hdx (Nat.le_refl _)
  obtain ⟨ao, n, cap, rfl, hLx, _, _, _, _⟩ := hu.1.open
  have hnb : n ≤ 100000000 := by rw [← hLx.out]; exact hL
  rw [hLx.out] at hX hself ⊢
  have HU : Hid (RowT w o (.slice ao n cap) xs) := hu
  have HT : Hid (TrRoom w o 1) := ht
  have hS := tSpanDid o n w ht.1
  obtain ⟨tp, htp⟩ : ∃ tp, tp = trPtr o := ⟨_, rfl⟩
  rw [← htp] at hS ⊢
  clear hu ht hLx hdx htp hL
  generalize val 18446744073709551616 xs = X at *
  have hD : Hid (∀ p, p < n → dig 18446744073709551616 X p = dig 18446744073709551616 (X + bt * 18446744073709551616 ^ n) p) := fun p hp => dig_above hp
  have hB0 : Hid (bt = (X + bt * 18446744073709551616 ^ n) / 18446744073709551616 ^ n % 2) := by
    unfold Hid
    rw [Nat.add_mul_div_right _ _ (Nat.pow_pos (by omega)), Nat.div_eq_of_lt hX.out]; omega
  generalize X + bt * 18446744073709551616 ^ n = Z at *
  obtain ⟨C, hC⟩ : ∃ C, C = Z % 2 := ⟨_, rfl⟩
  rw [← hC]
  have HC := toHid hC
  clear hC
  go_enter Tryz.func167, Tryz.ntmps167
  go_wp2_with fail
  refine hS.mono ?_
  rintro e w4 ⟨rfl, o2, d2⟩
  have d4 := toHid d2
  have hr1 := HU.out.did d2
  obtain ⟨a1, n1, c1, e1, hN1, _, _, _, hn1⟩ := hr1.1.open
  simp only [Value.slice.injEq] at e1
  obtain ⟨rfl, rfl, rfl⟩ := e1
  have hw4 : Hid (w.heap.size ≤ w4.heap.size) := d2.size
  rw [← hself.out] at hn1
  clear hS d2 hr1 hN1
  go_wp2_with (at_make; refine wpList_make_full _ rfl _ _ 23 rfl w4.heap.size 24 i0 _ 1 Tryz.underlying23 hi0 hz0 hz1 _ _ _ _ n rfl rfl rfl rfl (by rw [hz2]; omega) (by unfold maxLen; omega) (Nat.le_refl _) ?_; intro w5 ho5 hg5)
  rw [zeros_map] at ho5
  have k5 := grown_kept hg5
  clear hg5
  go_loopw [10, 23] (fun c i wr => ∃ (k c' : Nat), k ≤ n ∧ c' ≤ 1 ∧ i = .int .i64 (k : Int) ∧ c = .int .u64 (c' : Int) ∧ OwnN .u64 24 wr w4.heap.size (.slice (some ⟨w4.heap.size, 0, none⟩) n n) n (List.replicate (n - k) 0 ++ (digs 18446744073709551616 (Z / 2) n).drop (n - k)) ∧ Kept Nought w4 wr ∧
      Hid (c' = Z / 18446744073709551616 ^ (n - k) % 2)) (fun _ i _ => n - (intOf i).toNat)
  case atStart => exact ⟨0, bt, Nat.zero_le _, hb1, rfl, rfl, by rw [Nat.sub_zero, List.drop_eq_nil_of_le (by rw [digs_length]; exact Nat.le_refl _), List.append_nil]; exact ho5, k5, hB0⟩
  case round =>
    obtain ⟨k, c, hk, hc, rfl, rfl, ho, hkp, HC2⟩ := hrel
    by_cases hkn : k < n
    · have hk0 : (0 : Int) ≤ (k : Int) := Int.natCast_nonneg _
      have hk1 : (k : Int) < (n : Int) := by omega
      obtain ⟨m, hm⟩ : ∃ m, m = n - 1 - k := ⟨_, rfl⟩
      obtain ⟨b1, off1, rfl, hc1⟩ := digs_at ((hn1 m (by omega)).grew hkp) (by omega)
      have hc0 := top_cell ho hkn hm
      have hf := World.ownsRow.frozenAt ho m
      have hst := fun u => (World.ownsRow.stored ho m u).1
      have hx : dig 18446744073709551616 X m < 18446744073709551616 := Nat.mod_lt _ (by omega)
      obtain ⟨z, hz⟩ : ∃ z : Nat, z = dig 18446744073709551616 X m / 2 + 9223372036854775808 * c := ⟨_, rfl⟩
      have hzd : z = dig 18446744073709551616 (Z / 2) m := by
        rw [hz, right_dig, hD.out m (by omega), HC2.out, show m + 1 = n - k by omega]
      have HST : Hid (OwnN .u64 24 (wr.setCell ⟨w4.heap.size, m, none⟩ (.int .u64 (z : Int))) w4.heap.size (.slice (some ⟨w4.heap.size, 0, none⟩) n n) n (List.replicate (n - (k + 1)) 0 ++ (digs 18446744073709551616 (Z / 2) n).drop (n - (k + 1)))) := by
        have := hst (.int .u64 (z : Int))
        unfold Hid OwnN
        rw [← set_top _ n k m (digs_length _ _ _) hkn hm, digs_getD _ _ _ _ (by omega), ← hzd, List.map_set]
        exact this
      have HCN : Hid (dig 18446744073709551616 X m % 2 = Z / 18446744073709551616 ^ (n - (k + 1)) % 2) := by
        unfold Hid
        rw [hD.out m (by omega), show n - (k + 1) = m by omega]
        unfold dig
        omega
      have hpl : (n : Int) - 1 - (k : Int) = (m : Int) := by omega
      have hm0 : (0 : Int) ≤ (m : Int) := Int.natCast_nonneg _
      have hm1 : (m : Int) < (n : Int) := by omega
      have HM : Hid (m = n - 1 - k) := hm
      clear hn1 HC2 hst ho5 k5 hzd hm
      generalize dig 18446744073709551616 X m = x at *
      have HOR : Hid (bits .or .u64 ((x : Int) / 2) ((c : Int) * 9223372036854775808) = (z : Int)) := by
        unfold Hid
        rw [show ((c : Int) * 9223372036854775808) = ((9223372036854775808 * c : Nat) : Int) by omega, show (x : Int) / 2 = ((x / 2 : Nat) : Int) by omega, shr_or x c hx hc, hz]
      have hand2 := and_one_u64 (x : Int) (by omega) (by omega)
      clear hz
      go_wp2_with fail
      go_region
      all_goals
        go_wp2_with fail
        rw [HOR.out]
        go_roundw
        case rel => exact ⟨k + 1, x % 2, by omega, by omega, by go_num, rfl, HST.out, (hkp.setCell _ (fun h => by simp at h) _).drew, HCN⟩
        case measure => simp [intOf]; omega
    · have hk1 : ¬ (k : Int) < (n : Int) := by omega
      have e : k = n := by omega
      subst e
      rw [Nat.sub_self, List.replicate_zero, List.nil_append, List.drop_zero] at ho
      have E2 : Hid (C = c) := by
        have := HC2.out
        rw [Nat.sub_self, Nat.pow_zero, Nat.div_one] at this
        exact HC.out.trans this.symm
      clear hn1 HC2 ho5 k5
      go_wp2_with fail
      go_ret2
      rw [E2.out]
      exact ⟨_, rfl, own_base ho (fun b hb => Nat.le_trans hw4.out (ho.lt b hb).1), o2, d4.out.grew hkp⟩

end Go.Proofs.YtiljkgoafknefaaGreat


/- Melted of: Ref6F Ref6G Ref6H. -/

/- The plain side of layer 6: times: products modulo a modulus. -/
namespace Go.Proofs.YtiljkgoafknefaaGreat
open Go.RowKit

theorem okMod.len {ms rs : List Nat} {K : Nat} (h : okMod ms K rs) : ms.length ≤ 130 ∧ ms.length = wordsN (val 18446744073709551616 ms) ∧ 2 ≤ val 18446744073709551616 ms ∧ val 18446744073709551616 ms % 2 = 1 := by
  obtain ⟨h1, h2, _, _⟩ := h
  obtain ⟨e1, e2, e3⟩ := montE_ok h1
  unfold modM at h2
  rw [if_pos h1] at h2
  have : ms.length = wordsN (val 18446744073709551616 ms) := by
    have := congrArg List.length h2
    rw [digs_length] at this
    exact this.symm
  exact ⟨by omega, this, e2, e3⟩

/-- The value v lies in memory that w has not yet. -/
def NewIn (w : World) (v : Value) : Prop := ∀ b, v.ownBlock = some b → w.heap.size ≤ b

theorem NewIn.nil (w : World) : NewIn w (.slice none 0 0) := fun b hb => by cases hb

theorem NewIn.of {w W : World} {v : Value} (h : v.ownBlock = some W.heap.size) (k : Kept Nought w W) : NewIn w v := fun b hb => by
  rw [h] at hb
  cases hb
  exact k.size

theorem NewIn.after {w W : World} {v : Value} (h : NewIn W v) (k : Kept Nought w W) : NewIn w v := fun b hb => Nat.le_trans k.size (h b hb)

/-- n slices in a row, at ao (the plain side's word for it). -/
def SlotsR (w : World) (ao : Option Addr) (n : Nat) (A : Nat → Option Addr) (L C : Nat → Nat) : Prop :=
  ∀ i, i < n → ∃ b off, ao = some ⟨b, off, none⟩ ∧ w.cell? ⟨b, off + i, none⟩ = some (.slice (A i) (L i) (C i))

theorem SlotsR.grew {w w' : World} {ao : Option Addr} {n : Nat} {A : Nat → Option Addr} {L C : Nat → Nat} (h : SlotsR w ao n A L C) (k : Kept Nought w w') : SlotsR w' ao n A L C := by
  intro i hi
  obtain ⟨b, off, rfl, hc⟩ := h i hi
  exact ⟨b, off, rfl, k.cellN hc⟩

end Go.Proofs.YtiljkgoafknefaaGreat

/- The plain side of layer 6: Enter, Leave, Mul, One. -/
namespace Go.Proofs.YtiljkgoafknefaaGreat
open Go.RowKit

/-- What is 1 times 2^(64 n) undone. -/
theorem red_uniq {V P T Y z : Nat} (hT : P * T % V = 1) (hY : Y < V) (h : P * Y % V = z % V) : Y = T * z % V := by
  have e1 : T * z % V = T * (P * Y % V) % V := by rw [h, Nat.mul_mod_mod]
  rw [e1, Nat.mul_mod_mod, ← Nat.mul_assoc, Nat.mul_comm T P, ← Nat.mod_mul_mod, hT, Nat.one_mul, Nat.mod_eq_of_lt hY]

theorem kself (w : World) : Kept Nought w w := Kept.refl Nought w

theorem kdrew {a w : World} (h : Kept Nought a w) : Kept Nought a w.drew := h.drew

theorem kalloc {a w : World} (o : Obj) (h : Kept Nought a w) : Kept Nought a (w.alloc o) := h.alloc o

end Go.Proofs.YtiljkgoafknefaaGreat

/- The plain side of layer 6: Leave, Mul, One, and what a bad modulus does. -/
namespace Go.Proofs.YtiljkgoafknefaaGreat
open Go.RowKit

end Go.Proofs.YtiljkgoafknefaaGreat


/- The plain side of layer 7: sums, differences, products. -/
namespace Go.Proofs.YtiljkgoafknefaaGreat
open Go.RowKit

/-- A difference modulo V, of numbers below V. -/
def subM (x y V : Nat) : Nat := if y ≤ x then x - y else x + V - y

end Go.Proofs.YtiljkgoafknefaaGreat


/- The plain side of layer 7: rests, halves, what comes to 0 with a number. -/
namespace Go.Proofs.YtiljkgoafknefaaGreat
open Go.RowKit

/-- A half modulo V. -/
def halfM (x V : Nat) : Nat := (if x % 2 = 1 then x + V else x) / 2

end Go.Proofs.YtiljkgoafknefaaGreat


/- Package ring: sum, difference, half. -/
namespace Go.Proofs.YtiljkgoafknefaaGreat
open Go.RowKit

theorem one_le (b : Bool) : oneN b ≤ 1 := by unfold oneN; split <;> omega

theorem digs_cong {a b n : Nat} (h : a % 18446744073709551616 ^ n = b % 18446744073709551616 ^ n) : digs 18446744073709551616 a n = digs 18446744073709551616 b n :=
  digs_val (by omega) (digs_digs (by omega) _ _) (digs_length _ _ _) (by rw [val_digs]; exact h)

theorem sub_num {X Z V n : Nat} (_ : X < V) (hZ : Z < V) (hV : V < 18446744073709551616 ^ n) : digs 18446744073709551616 (selN (oneN (decide (X < Z))) (subN X Z n % 18446744073709551616 ^ n + V) (subN X Z n % 18446744073709551616 ^ n)) n = digs 18446744073709551616 (subM X Z V) n := by
  apply digs_cong
  unfold subN subM selN oneN
  rw [← B64]
  generalize 18446744073709551616 ^ n = P at *
  by_cases h : X < Z
  · rw [decide_eq_true h, if_pos rfl, if_pos rfl, if_pos h, if_neg (by omega), Nat.mod_eq_of_lt (show X + P - Z < P by omega), show X + P - Z + V = X + V - Z + P by omega, Nat.add_mod_right]
  · rw [if_neg h, if_pos (show Z ≤ X by omega)]
    simp [h]

theorem subM_lt {X Z V : Nat} (hX : X < V) (hZ : Z < V) : subM X Z V < V := by
  unfold subM
  split <;> omega

set_option maxRecDepth 20000 in
set_option maxHeartbeats 2000000 in
/-- difference: the first number may have no words. -/
theorem gDiff (o : Tr) (ao bo xo yo : Option Addr) (n n1 mcap rl rcap xc yc : Nat) (K : Int) (xs ys ms : List Nat) (w : World) (ht : TrRoom w o 2) (hx : RowT w o (.slice xo n1 xc) xs) (hy : RowT w o (.slice yo n yc) ys) (hm : RowT w o (.slice ao n mcap) ms) (hdx : Digs 18446744073709551616 xs) (hdy : Digs 18446744073709551616 ys) (hdm : Digs 18446744073709551616 ms) (hn : n ≤ 100000) (hn1 : n1 ≤ n) :
    Calls Tryz.prog 155 #[trPtr o, .agg #[.slice ao n mcap, .int .u64 K, .slice bo rl rcap], .slice xo n1 xc, .slice yo n yc] w fun e w' => ∃ v', e = .returned v' ∧ Done w o (List.replicate 2 (1, (n : Int), 0)) n (fun Y => val 18446744073709551616 xs < val 18446744073709551616 ms → val 18446744073709551616 ys < val 18446744073709551616 ms → digs 18446744073709551616 Y n = digs 18446744073709551616 (subM (val 18446744073709551616 xs) (val 18446744073709551616 ys) (val 18446744073709551616 ms)) n) w' v' := by
  obtain ⟨_, _, _, e1, hLx, _, _, _, _⟩ := hx.1.open
  cases e1
  obtain ⟨_, _, _, e1, hLy, _, _, _, _⟩ := hy.1.open
  cases e1
  obtain ⟨_, _, _, e1, hLm, _, _, _, _⟩ := hm.1.open
  cases e1
  have hVn : val 18446744073709551616 ms < 18446744073709551616 ^ n := by rw [← hLm.out]; exact val_lt (by omega) hdm
  have k0 : Kept Nought w (w.alloc (.cells #[.slice ao n mcap, .int .u64 K, .slice bo rl rcap] 90)) := (Kept.refl Nought w).alloc _
  have hx0 : (w.alloc (.cells #[.slice ao n mcap, .int .u64 K, .slice bo rl rcap] 90)).heap[w.heap.size]? = some (.cells #[.slice ao n mcap, .int .u64 K, .slice bo rl rcap] 90 (0, 0)) := heap_alloc_new _ _
  obtain ⟨X, hX⟩ : ∃ X, X = val 18446744073709551616 xs := ⟨_, rfl⟩
  obtain ⟨Z, hZ⟩ : ∃ Z, Z = val 18446744073709551616 ys := ⟨_, rfl⟩
  obtain ⟨V, hV⟩ : ∃ V, V = val 18446744073709551616 ms := ⟨_, rfl⟩
  rw [← hX, ← hZ, ← hV]
  rw [← hV] at hVn
  have hSu := lSub o _ _ xs ys _ ((ht.less (by omega)).grew k0) (hx.grew k0) (hy.grew k0) hdx hdy (by rw [hLx.out]; omega) (by rw [hLy.out]; omega)
  rw [hLx.out, hLy.out, Nat.max_eq_right hn1, ← hX, ← hZ] at hSu
  have HN := toHid (fun h1 h2 => sub_num (X := X) (Z := Z) (V := V) (n := n) h1 h2 hVn)
  obtain ⟨c, hc⟩ : ∃ c, c = oneN (decide (X < Z)) := ⟨_, rfl⟩
  have hc1 : c ≤ 1 := by rw [hc]; exact one_le _
  rw [← hc] at hSu HN
  have HAd : Hid (∀ (W : World) (o1 : Tr) (m1 : List Ev) (v1 : Value), Did w o m1 W o1 → m1.length = 1 → RowT W o1 v1 (digs 18446744073709551616 (subN X Z n) n) → Calls Tryz.prog 166 #[trPtr o, .int .u64 (c : Nat), v1, .slice ao n mcap] W fun e w' => ∃ v' c', e = .returned (.tuple #[v', .int .u64 c']) ∧ OwnN .u64 24 w' W.heap.size v' n (digs 18446744073709551616 (selN c (subN X Z n % 18446744073709551616 ^ n + V) (subN X Z n % 18446744073709551616 ^ n)) n) ∧ ∃ o', Did W o1 [(1, (n : Nat), 0)] w' o') := fun W o1 m1 v1 d hl hr => by
    have := lAddIf o1 c (by omega) v1 _ _ ms W (d.room (by rw [hl]; exact ht.less (by omega))) hr (hm.did d) (digs_digs (by omega) _ _) hdm (by rw [digs_length]; omega) (by rw [hLm.out]; omega)
    rw [digs_length, hLm.out, Nat.max_self, val_digs, ← hV, d.ptr] at this
    refine this.mono ?_
    rintro e w' ⟨v', rfl, h1, h2⟩
    exact ⟨v', _, rfl, h1, h2⟩
  have HT := toHid ht.1
  have HTR := toHid ht
  obtain ⟨po, hpo⟩ := trPtr_shape o
  rw [hpo] at hSu HAd ⊢
  have K0 := toHid k0
  clear hm hx hy ht hLx hLy hLm hdx hdy hdm k0 hX hZ hV hVn hc hpo hn1
  obtain ⟨p0, p1, p2⟩ := cells3 hx0
  go_enter Tryz.func155, Tryz.ntmps155
  go_wp2_with fail
  refine hSu.mono ?_
  rintro e w1 ⟨v1, rfl, ho1, o1, d1⟩
  have d01 := Did.after K0.out d1
  have hx1 := (d1.kept.block _ (lt_of_block hx0) (cells_apart hx0 (HT.out.grew K0.out) (by decide) (by decide))).trans hx0
  have ti1 := (d01.room (k := 0) (HTR.out.less (by simp))).1
  have hr1 := own_rowT ho1 (digs_length _ _ _) ti1
  obtain ⟨q0, q1, q2⟩ := cells3 hx1
  have hS1 := HAd.out w1 o1 _ v1 d01 rfl hr1
  clear hSu p0 p1 p2 hx0
  go_wp2_with fail
  refine hS1.mono ?_
  rintro e w2 ⟨v2, c2, rfl, ho2, o2, d2⟩
  go_wp2_with fail
  go_ret
  refine ⟨_, rfl, _, o2, own_base ho2 (fun b hb => ?_), (fun h1 h2 => HN.out h1 h2), d01.trans d2⟩
  have := (ho2.lt b hb).1
  have := d01.size
  omega

end Go.Proofs.YtiljkgoafknefaaGreat

