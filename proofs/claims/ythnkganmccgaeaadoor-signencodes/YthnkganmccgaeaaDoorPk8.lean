/- Put together of: Shc6. -/
import Derived.Test.YthnkganmccgaeaaDoorPk7
import Derived.Laws.BitsAllLaws

/- Package sha512: Start, Pad, bytesOf, Block of what is none. -/
namespace Go.Proofs.YthnkganmccgaeaaDoor
open Go.RowKit

set_option maxRecDepth 20000 in
set_option maxHeartbeats 2000000 in
/-- Start. -/
theorem mStart (short : Bool) (w : World) (hT : Tab12 w) :
    Calls Tryd.prog 32 #[.bool short] w fun e w' => e = .returned (.agg ((H5 short).map fun z => Value.int .u64 (z : Nat)).toArray) ∧ Kept Nought w w' := by
  obtain ⟨W, hW⟩ : ∃ W, W = w.alloc (.cells #[.int .u64 0, .int .u64 0, .int .u64 0, .int .u64 0, .int .u64 0, .int .u64 0, .int .u64 0, .int .u64 0] 50) := ⟨_, rfl⟩
  have k0 : Kept Nought w W := by rw [hW]; exact (Kept.refl Nought w).alloc _
  have hO0 : Arr .u64 50 W w.heap.size [0, 0, 0, 0, 0, 0, 0, 0] := by rw [hW]; exact heap_alloc_new w _
  have HW := toHid hW
  cases short
  · obtain ⟨z0, z1, z2, z3, z4, z5, z6, z7, hzz⟩ : ∃ z0 z1 z2 z3 z4 z5 z6 z7, H512 = [z0, z1, z2, z3, z4, z5, z6, z7] := ⟨_, _, _, _, _, _, _, _, rfl⟩
    have hg := (hT.grew k0).start
    rw [hzz] at hg
    have g0 : W.cell? ⟨2, 0, none⟩ = some (.int .u64 (z0 : Int)) := hg 0 (by omega)
    have g1 : W.cell? ⟨2, 1, none⟩ = some (.int .u64 (z1 : Int)) := hg 1 (by omega)
    have g2 : W.cell? ⟨2, 2, none⟩ = some (.int .u64 (z2 : Int)) := hg 2 (by omega)
    have g3 : W.cell? ⟨2, 3, none⟩ = some (.int .u64 (z3 : Int)) := hg 3 (by omega)
    have g4 : W.cell? ⟨2, 4, none⟩ = some (.int .u64 (z4 : Int)) := hg 4 (by omega)
    have g5 : W.cell? ⟨2, 5, none⟩ = some (.int .u64 (z5 : Int)) := hg 5 (by omega)
    have g6 : W.cell? ⟨2, 6, none⟩ = some (.int .u64 (z6 : Int)) := hg 6 (by omega)
    have g7 : W.cell? ⟨2, 7, none⟩ = some (.int .u64 (z7 : Int)) := hg 7 (by omega)
    have p0 := hO0.cell 0 (by simp)
    have o0 := hO0.free 0
    have p1 := hO0.cell 1 (by simp)
    have o1 := hO0.free 1
    have p2 := hO0.cell 2 (by simp)
    have o2 := hO0.free 2
    have p3 := hO0.cell 3 (by simp)
    have o3 := hO0.free 3
    have p4 := hO0.cell 4 (by simp)
    have o4 := hO0.free 4
    have p5 := hO0.cell 5 (by simp)
    have o5 := hO0.free 5
    have p6 := hO0.cell 6 (by simp)
    have o6 := hO0.free 6
    have p7 := hO0.cell 7 (by simp)
    have o7 := hO0.free 7
    have hF := hO0.put8 rfl z0 z1 z2 z3 z4 z5 z6 z7
    have x0 := hF.cell 0 (by simp)
    have x1 := hF.cell 1 (by simp)
    have x2 := hF.cell 2 (by simp)
    have x3 := hF.cell 3 (by simp)
    have x4 := hF.cell 4 (by simp)
    have x5 := hF.cell 5 (by simp)
    have x6 := hF.cell 6 (by simp)
    have x7 := hF.cell 7 (by simp)
    have KF := toHid (k0.next (kept8 W w.heap.size (.int .u64 (z0 : Nat)) (.int .u64 (z1 : Nat)) (.int .u64 (z2 : Nat)) (.int .u64 (z3 : Nat)) (.int .u64 (z4 : Nat)) (.int .u64 (z5 : Nat)) (.int .u64 (z6 : Nat)) (.int .u64 (z7 : Nat))) (fun x hx e => by have e' : x = w.heap.size := e; omega))
    have HZZ : Hid (H5 false = [z0, z1, z2, z3, z4, z5, z6, z7]) := hzz
    clear hg hF hO0 k0 hW hT hzz
    go_enter Tryd.func32, Tryd.ntmps32
    go_wp2_with (rw [← HW.out])
    rw [HZZ.out]
    exact bodyPost_ret (v := .agg #[.int .u64 (z0 : Int), .int .u64 (z1 : Int), .int .u64 (z2 : Int), .int .u64 (z3 : Int), .int .u64 (z4 : Int), .int .u64 (z5 : Int), .int .u64 (z6 : Int), .int .u64 (z7 : Int)]) (by simp [results, Tryd.results32, go_sem, x0, x1, x2, x3, x4, x5, x6, x7]) rfl ⟨rfl, KF.out⟩
  · obtain ⟨z0, z1, z2, z3, z4, z5, z6, z7, hzz⟩ : ∃ z0 z1 z2 z3 z4 z5 z6 z7, H384 = [z0, z1, z2, z3, z4, z5, z6, z7] := ⟨_, _, _, _, _, _, _, _, rfl⟩
    have hg := (hT.grew k0).short
    rw [hzz] at hg
    have g0 : W.cell? ⟨1, 0, none⟩ = some (.int .u64 (z0 : Int)) := hg 0 (by omega)
    have g1 : W.cell? ⟨1, 1, none⟩ = some (.int .u64 (z1 : Int)) := hg 1 (by omega)
    have g2 : W.cell? ⟨1, 2, none⟩ = some (.int .u64 (z2 : Int)) := hg 2 (by omega)
    have g3 : W.cell? ⟨1, 3, none⟩ = some (.int .u64 (z3 : Int)) := hg 3 (by omega)
    have g4 : W.cell? ⟨1, 4, none⟩ = some (.int .u64 (z4 : Int)) := hg 4 (by omega)
    have g5 : W.cell? ⟨1, 5, none⟩ = some (.int .u64 (z5 : Int)) := hg 5 (by omega)
    have g6 : W.cell? ⟨1, 6, none⟩ = some (.int .u64 (z6 : Int)) := hg 6 (by omega)
    have g7 : W.cell? ⟨1, 7, none⟩ = some (.int .u64 (z7 : Int)) := hg 7 (by omega)
    have p0 := hO0.cell 0 (by simp)
    have o0 := hO0.free 0
    have p1 := hO0.cell 1 (by simp)
    have o1 := hO0.free 1
    have p2 := hO0.cell 2 (by simp)
    have o2 := hO0.free 2
    have p3 := hO0.cell 3 (by simp)
    have o3 := hO0.free 3
    have p4 := hO0.cell 4 (by simp)
    have o4 := hO0.free 4
    have p5 := hO0.cell 5 (by simp)
    have o5 := hO0.free 5
    have p6 := hO0.cell 6 (by simp)
    have o6 := hO0.free 6
    have p7 := hO0.cell 7 (by simp)
    have o7 := hO0.free 7
    have hF := hO0.put8 rfl z0 z1 z2 z3 z4 z5 z6 z7
    have x0 := hF.cell 0 (by simp)
    have x1 := hF.cell 1 (by simp)
    have x2 := hF.cell 2 (by simp)
    have x3 := hF.cell 3 (by simp)
    have x4 := hF.cell 4 (by simp)
    have x5 := hF.cell 5 (by simp)
    have x6 := hF.cell 6 (by simp)
    have x7 := hF.cell 7 (by simp)
    have KF := toHid (k0.next (kept8 W w.heap.size (.int .u64 (z0 : Nat)) (.int .u64 (z1 : Nat)) (.int .u64 (z2 : Nat)) (.int .u64 (z3 : Nat)) (.int .u64 (z4 : Nat)) (.int .u64 (z5 : Nat)) (.int .u64 (z6 : Nat)) (.int .u64 (z7 : Nat))) (fun x hx e => by have e' : x = w.heap.size := e; omega))
    have HZZ : Hid (H5 true = [z0, z1, z2, z3, z4, z5, z6, z7]) := hzz
    clear hg hF hO0 k0 hW hT hzz
    go_enter Tryd.func32, Tryd.ntmps32
    go_wp2_with (rw [← HW.out])
    rw [HZZ.out]
    exact bodyPost_ret (v := .agg #[.int .u64 (z0 : Int), .int .u64 (z1 : Int), .int .u64 (z2 : Int), .int .u64 (z3 : Int), .int .u64 (z4 : Int), .int .u64 (z5 : Int), .int .u64 (z6 : Int), .int .u64 (z7 : Int)]) (by simp [results, Tryd.results32, go_sem, x0, x1, x2, x3, x4, x5, x6, x7]) rfl ⟨rfl, KF.out⟩

theorem mask32N (X : Nat) (hX : X < 18446744073709551616) : bits .and .u64 (X : Int) 4294967295 = ((X % 4294967296 : Nat) : Int) := by
  have h := u64_and_nat X 4294967295 hX (by omega)
  rw [show (4294967295 : Int) = ((4294967295 : Nat) : Int) from rfl, h]
  congr 1
  exact Nat.and_two_pow_sub_one_eq_mod X 32

set_option maxHeartbeats 1000000 in
/-- bits.Mul64 of a length and 8. -/
theorem mMul8 (N U V : Nat) (hN : N < 9223372036854775808) (hU : U = N / 2305843009213693952) (hV : V = 8 * N % 18446744073709551616) (w : World) :
    Calls Tryd.prog 46 #[.int .u64 (N : Nat), .int .u64 8] w fun e w' => e = .returned (.tuple #[.int .u64 (U : Int), .int .u64 (V : Int)]) ∧ w' = w := by
  obtain ⟨a, ha⟩ : ∃ a, a = N % 4294967296 := ⟨_, rfl⟩
  obtain ⟨b, hb⟩ : ∃ b, b = N / 4294967296 := ⟨_, rfl⟩
  have h1 := mask32N N (by omega)
  rw [← ha] at h1
  have h2 : (N : Int) / 4294967296 = (b : Int) := by omega
  have h3 : bits .and .u64 8 4294967295 = 8 := mask32N 8 (by omega)
  obtain ⟨p, hp⟩ : ∃ p, p = a * 8 := ⟨_, rfl⟩
  have g1 : (a : Int) * 8 = (p : Int) := by omega
  obtain ⟨q, hq⟩ : ∃ q, q = p / 4294967296 := ⟨_, rfl⟩
  have g2 : (p : Int) / 4294967296 = (q : Int) := by omega
  obtain ⟨t, ht⟩ : ∃ t, t = b * 8 + q := ⟨_, rfl⟩
  have g3 : (b : Int) * 8 + (q : Int) = (t : Int) := by omega
  have h4 := mask32N t (by omega)
  obtain ⟨c, hc⟩ : ∃ c, c = t % 4294967296 := ⟨_, rfl⟩
  rw [← hc] at h4
  have g4 : (t : Int) / 4294967296 = (U : Int) := by omega
  have g5 : (c : Int) / 4294967296 = 0 := by omega
  have g6 : IntKind.u64.wrap ((N : Int) * 8) = (V : Int) := by rw [IntKind.wrap_u64]; omega
  have lp : p < 18446744073709551616 := by omega
  have lt : t < 18446744073709551616 := by omega
  have lc : c < 18446744073709551616 := by omega
  have lU : U < 18446744073709551616 := by omega
  have lb : b < 2147483648 := by omega
  have la : a < 4294967296 := by omega
  have lq : q < 4294967296 := by omega
  clear ha hb hp hq ht hc hU hV
  go_enter Tryd.func46, Tryd.ntmps46
  go_wp2_with fail
  go_ret2
  exact ⟨rfl, rfl⟩

/-- Eight bytes while they are laid, from their end on. -/
def lay8 (L : List Nat) (i : Nat) : List Nat := List.replicate (8 - i) 0 ++ L.drop (8 - i)

theorem lay8_length {L : List Nat} {i : Nat} (hL : L.length = 8) (hi : i ≤ 8) : (lay8 L i).length = 8 := by
  unfold lay8
  rw [List.length_append, List.length_replicate, List.length_drop, hL]
  omega

theorem lay8_set {L : List Nat} {i y : Nat} (hL : L.length = 8) (hi : i < 8) (hy : L[7 - i]? = some y) : (lay8 L i).set (7 - i) y = lay8 L (i + 1) := by
  unfold lay8
  rw [show 8 - i = (7 - i) + 1 by omega, List.replicate_succ', List.append_assoc, List.set_append_right _ _ (by simp), List.length_replicate, Nat.sub_self, show 8 - (i + 1) = 7 - i by omega]
  congr 1
  have hl : 7 - i < L.length := by omega
  rw [List.drop_eq_getElem_cons hl]
  rw [List.getElem?_eq_getElem hl] at hy
  rw [Option.some.inj hy]
  rfl

/-- The upper eight bytes of a padding's count. -/
def upL (N : Nat) : List Nat := [0, 0, 0, 0, 0, 0, 0, N / 2305843009213693952 % 256]

theorem upL_at (N j : Nat) (hj : j < 8) (hN : N < 9223372036854775808) : (upL N)[j]? = some (N / 2305843009213693952 / 2 ^ (56 - 8 * j) % 256) := by
  have hu : N / 2305843009213693952 < 4 := by omega
  unfold upL
  generalize N / 2305843009213693952 = u at *
  have h : j = 0 ∨ j = 1 ∨ j = 2 ∨ j = 3 ∨ j = 4 ∨ j = 5 ∨ j = 6 ∨ j = 7 := by omega
  have hz : ∀ k, 0 < k → u / 2 ^ (8 * k) = 0 := fun k hk => Nat.div_eq_of_lt (Nat.lt_of_lt_of_le hu (show 2 ^ 2 ≤ 2 ^ (8 * k) from Nat.pow_le_pow_right (by omega) (by omega)))
  rcases h with rfl | rfl | rfl | rfl | rfl | rfl | rfl | rfl
  · show some 0 = some (u / 2 ^ (8 * 7) % 256)
    rw [hz 7 (by omega)]
  · show some 0 = some (u / 2 ^ (8 * 6) % 256)
    rw [hz 6 (by omega)]
  · show some 0 = some (u / 2 ^ (8 * 5) % 256)
    rw [hz 5 (by omega)]
  · show some 0 = some (u / 2 ^ (8 * 4) % 256)
    rw [hz 4 (by omega)]
  · show some 0 = some (u / 2 ^ (8 * 3) % 256)
    rw [hz 3 (by omega)]
  · show some 0 = some (u / 2 ^ (8 * 2) % 256)
    rw [hz 2 (by omega)]
  · show some 0 = some (u / 2 ^ (8 * 1) % 256)
    rw [hz 1 (by omega)]
  · show some (u % 256) = some (u / 1 % 256)
    rw [Nat.div_one]

/-- The padding while its count is laid, from its end on. -/
def pdM (N i : Nat) : List Nat := ([128] ++ List.replicate (padZM N) 0) ++ (lay8 (upL N) i ++ lay8 (padL N 8) i)

theorem pdM_length (N i : Nat) (hi : i ≤ 8) : (pdM N i).length = 1 + padZM N + 16 := by
  unfold pdM
  rw [List.length_append, List.length_append, List.length_append, List.length_replicate, lay8_length rfl hi, lay8_length (padL_length N) hi]
  show 1 + padZM N + _ = _
  omega

theorem pdM_set {N i y u : Nat} (hi : i < 8) (hN : N < 9223372036854775808) (hy : y = 8 * N % 18446744073709551616 / 2 ^ (8 * i) % 256) (hu : u = N / 2305843009213693952 / 2 ^ (8 * i) % 256) : ((pdM N i).set (1 + padZM N + (8 + (7 - i))) y).set (1 + padZM N + (7 - i)) u = pdM N (i + 1) := by
  have h1 : ([128] ++ List.replicate (padZM N) 0).length = 1 + padZM N := by simp; omega
  have h2 := padL_at N (7 - i) (by omega)
  have h3 := upL_at N (7 - i) (by omega) hN
  rw [show 56 - 8 * (7 - i) = 8 * i by omega, ← hy] at h2
  rw [show 56 - 8 * (7 - i) = 8 * i by omega, ← hu] at h3
  have l1 := lay8_length (L := upL N) rfl (Nat.le_of_lt hi)
  unfold pdM
  rw [List.set_append_right _ _ (by rw [h1]; omega), h1, Nat.add_sub_cancel_left, List.set_append_right _ _ (by rw [h1]; omega), h1, Nat.add_sub_cancel_left, List.set_append_right _ _ (by rw [l1]; omega), l1, Nat.add_sub_cancel_left, lay8_set (padL_length N) hi h2, List.set_append_left _ _ (by rw [l1]; omega), lay8_set rfl hi h3]

theorem pdM_end (N : Nat) : pdM N 8 = padM N := by
  unfold pdM padM lay8
  rw [← List.append_assoc]
  rfl

theorem pdM_start {N : Nat} : (List.replicate (1 + padZM N + 16) 0).set 0 128 = pdM N 0 := by
  unfold pdM lay8
  rw [show 1 + padZM N + 16 = (padZM N + 16) + 1 by omega, List.replicate_succ, List.set_cons_zero, Nat.sub_zero, List.drop_of_length_le (by exact Nat.le_refl 8), List.drop_of_length_le (by rw [padL_length]; omega), List.append_nil, List.append_assoc, List.replicate_append_replicate, List.replicate_append_replicate]
  rfl

set_option maxRecDepth 20000 in
set_option maxHeartbeats 2000000 in
/-- Pad. -/
theorem mPad (n : Int) (N : Nat) (hn : n < 9223372036854775808) (hN : N = n.toNat) (w : World) :
    Calls Tryd.prog 44 #[.int .i64 n] w fun e w' => ∃ v', e = .returned v' ∧ OwnB w' w.heap.size v' (padM N) ∧ Kept Nought w w' := by
  obtain ⟨i0, hi0, hz0, hz1, hz2⟩ := info_parts Tryd.info8s
  have gm : max n 0 = (N : Int) := by omega
  have hNb : N < 9223372036854775808 := by omega
  obtain ⟨m, hm⟩ : ∃ m, m = 1 + padZM N + 16 := ⟨_, rfl⟩
  have hZb : padZM N < 128 := Nat.mod_lt _ (by omega)
  obtain ⟨Z, hZ⟩ : ∃ Z, Z = padZM N := ⟨_, rfl⟩
  have gz : ((239 : Int) - (N : Int) % 128) % 128 = (Z : Int) := by rw [hZ]; unfold padZM; omega
  have gm2 : (1 : Int) + (Z : Int) + 16 = (m : Int) := by omega
  have hmb : m ≤ 200 := by omega
  have gm0 : (0 : Int) < (m : Int) := by omega
  have HS : Hid ((List.replicate m 0).set 0 128 = pdM N 0) := by unfold Hid; rw [hm]; exact pdM_start
  have HM := toHid hm
  have HL : Hid (∀ i, i ≤ 8 → (pdM N i).length = m) := fun i hi => by rw [hm]; exact pdM_length N i hi
  obtain ⟨U, hU⟩ : ∃ U, U = N / 2305843009213693952 := ⟨_, rfl⟩
  obtain ⟨V, hV⟩ : ∃ V, V = 8 * N % 18446744073709551616 := ⟨_, rfl⟩
  have J8 := toHid (mMul8 N U V hNb hU hV)
  have lU : U < 4 := by omega
  have lV : V < 18446744073709551616 := by omega
  have HU := toHid hU
  have HV := toHid hV
  rw [← hZ] at hZb
  have hm9 : 17 ≤ m := by omega
  clear hm hN hZ hU hV
  go_enter Tryd.func44, Tryd.ntmps44
  go_wp2_with (at_make; refine wpList_make_full _ rfl _ _ 22 rfl w.heap.size 5 i0 _ 1 Tryd.underlying22 hi0 hz0 hz1 _ _ _ _ m rfl rfl (by first | rfl | omega) (by first | rfl | omega) (by rw [hz2]; omega) (by unfold maxLen; omega) (Nat.le_refl _) ?_; intro w1 ho1 hg1; rw [zeros_map] at ho1; have k1 := grown_kept hg1; have hb1 := own_block ho1; have hA1 : Arr .u8 5 w1 w.heap.size (List.replicate m 0) := hb1; have c0 := hA1.cell 0 (by rw [List.length_replicate]; omega); have f0 := hA1.free 0)
  have HA2 : Hid (Arr .u8 5 (w1.setCell ⟨w.heap.size, 0, none⟩ (.int .u8 (128 : Nat))) w.heap.size (pdM N 0)) := by
    have := hA1.set 0 128
    rw [HS.out] at this
    exact this
  have HK2 := toHid (k1.setCell ⟨w.heap.size, 0, none⟩ (fun h => by simp at h) (.int .u8 128))
  obtain ⟨w2, hw2⟩ : ∃ w2, w2 = w1.setCell ⟨w.heap.size, 0, none⟩ (.int .u8 128) := ⟨_, rfl⟩
  have HA3 : Hid (Arr .u8 5 w2 w.heap.size (pdM N 0)) := by rw [hw2]; exact HA2.out
  rw [← hw2] at HK2 ⊢
  clear c0 f0 hA1 hb1 k1 hg1 ho1 HA2 hw2
  refine (J8.out _).mono ?_
  rintro e w3 ⟨rfl, rfl⟩
  go_wp2_with fail
  go_loopw [27] (fun iv wr => ∃ i : Nat, i ≤ 8 ∧ iv = .int .i64 (i : Int) ∧ Hid (Arr .u8 5 wr w.heap.size (pdM N i)) ∧ Hid (Kept Nought w wr)) (fun iv _ => 8 - (intOf iv).toNat)
  case atStart => exact ⟨0, by omega, rfl, HA3.out, HK2.out⟩
  case round =>
    obtain ⟨i, hi, rfl, HA, HK⟩ := hrel
    by_cases hi8 : i < 8
    · have g1 : (i : Int) < 8 := by omega
      have g0 : (0 : Int) ≤ (i : Int) := by omega
      obtain ⟨k, hk⟩ : ∃ k, k = m - 1 - i := ⟨_, rfl⟩
      have gk : (m : Int) - 1 - (i : Int) = (k : Int) := by omega
      have gk0 : (0 : Int) ≤ (k : Int) := by omega
      have gk1 : (k : Int) < (m : Int) := by omega
      obtain ⟨j, hj⟩ : ∃ j, j = m - 1 - 8 - i := ⟨_, rfl⟩
      have gj : (m : Int) - 1 - 8 - (i : Int) = (j : Int) := by omega
      have gj0 : (0 : Int) ≤ (j : Int) := by omega
      have gj1 : (j : Int) < (m : Int) := by omega
      have hjk : ¬ j = k := by omega
      have hkj : ¬ k = j := by omega
      obtain ⟨q, hq⟩ : ∃ q, q = 8 * i := ⟨_, rfl⟩
      have gq : (8 : Int) * (i : Int) = (q : Int) := by omega
      have gq0 : (0 : Int) ≤ (q : Int) := by omega
      have hq64 : q < 64 := by omega
      obtain ⟨y, hy⟩ : ∃ y, y = V / 2 ^ q % 256 := ⟨_, rfl⟩
      have gy : (V : Int) / 2 ^ q % 256 = (y : Int) := by
        rw [hy]
        simp
      obtain ⟨u, hu⟩ : ∃ u, u = U / 2 ^ q % 256 := ⟨_, rfl⟩
      have gu : (U : Int) / 2 ^ q % 256 = (u : Int) := by
        rw [hu]
        simp
      have HN : Hid (((pdM N i).set k y).set j u = pdM N (i + 1)) := by
        unfold Hid
        rw [hk, hj, HM.out, show 1 + padZM N + 16 - 1 - i = 1 + padZM N + (8 + (7 - i)) by omega, show 1 + padZM N + 16 - 1 - 8 - i = 1 + padZM N + (7 - i) by omega]
        exact pdM_set hi8 hNb (by rw [hy, hq, HV.out]) (by rw [hu, hq, HU.out])
      have ck := HA.out.cell k (by rw [HL.out i hi]; omega)
      have fk := HA.out.free k
      have hA2 := HA.out.set k y
      have cj := hA2.cell j (by rw [List.length_set, HL.out i hi]; omega)
      have fj := hA2.free j
      have HA2 := toHid hA2
      clear hk hq hy hj hu hA2
      go_wp2_with fail
      go_roundw
      case rel => exact ⟨i + 1, by omega, by go_num, by unfold Hid; rw [← HN.out]; exact HA2.out.set j u, (HK.out.setCell ⟨w.heap.size, k, none⟩ (fun h => by simp at h) (.int .u8 (y : Int))).setCell ⟨w.heap.size, j, none⟩ (fun h => by simp at h) (.int .u8 (u : Int))⟩
      case measure => simp [intOf]; omega
    · have g1 : ¬ (i : Int) < 8 := by omega
      have hA := HA.out
      rw [show i = 8 by omega, pdM_end] at hA
      have hO : OwnB wr w.heap.size (.slice (some ⟨w.heap.size, 0, none⟩) m m) (padM N) := OwnB.of (own_of_block hA (by rw [← pdM_end]; exact HL.out 8 (by omega)) (by unfold maxLen; omega) (Nat.le_refl _))
      have HOO := toHid hO
      clear hA hO
      go_wp2_with fail
      go_ret
      exact ⟨_, rfl, HOO.out, HK.out⟩

theorem b8M_at (z j : Nat) (hj : j < 8) : (b8M z 8)[j]? = some (z / 2 ^ (8 * (7 - j)) % 256) := by
  unfold b8M
  rw [List.getElem?_map, List.getElem?_range hj, show 8 * (7 - j) = 56 - 8 * j by omega]
  rfl

theorem outM_at (st : List Nat) : ∀ n i, i < 8 * n → (outM st n)[i]? = some (st.getD (i / 8) 0 / 2 ^ (8 * (7 - i % 8)) % 256)
  | 0, i, hi => by omega
  | n + 1, i, hi => by
    unfold outM
    by_cases h : i < 8 * n
    · rw [List.getElem?_append_left (by rw [outM_length]; exact h)]
      exact outM_at st n i h
    · rw [List.getElem?_append_right (by rw [outM_length]; omega), outM_length, b8M_at _ _ (by omega), show i / 8 = n by omega, show i - 8 * n = i % 8 by omega]

/-- A state's first bytes while they are laid. -/
def obM (st : List Nat) (sz i : Nat) : List Nat := (outM st 8).take i ++ List.replicate (sz - i) 0

theorem obM_length (st : List Nat) {sz i : Nat} (hs : sz ≤ 64) (hi : i ≤ sz) : (obM st sz i).length = sz := by
  unfold obM
  rw [List.length_append, List.length_take, outM_length, List.length_replicate]
  omega

theorem obM_set {st : List Nat} {sz i y : Nat} (hs : sz ≤ 64) (hi : i < sz) (hy : y = st.getD (i / 8) 0 / 2 ^ (8 * (7 - i % 8)) % 256) : (obM st sz i).set i y = obM st sz (i + 1) := by
  have h := outM_at st 8 i (by omega)
  rw [← hy] at h
  have hl : i < (outM st 8).length := by rw [outM_length]; omega
  rw [List.getElem?_eq_getElem hl] at h
  unfold obM
  have hlt : ((outM st 8).take i).length = i := by rw [List.length_take, outM_length]; omega
  rw [List.set_append_right _ _ (by omega), hlt, Nat.sub_self, show sz - i = (sz - (i + 1)) + 1 by omega, List.replicate_succ, List.set_cons_zero, List.take_succ_eq_append_getElem hl, Option.some.inj h, List.append_assoc]
  rfl

theorem obM_end (st : List Nat) (sz : Nat) : obM st sz sz = (outM st 8).take sz := by
  unfold obM
  rw [Nat.sub_self, List.replicate_zero, List.append_nil]

set_option maxRecDepth 20000 in
set_option maxHeartbeats 2000000 in
/-- bytesOf. -/
theorem mBytesOf (st : List Nat) (sz : Nat) (sv : Array Value) (hsv : sv = (st.map fun z => Value.int .u64 (z : Nat)).toArray) (w : World) (hs : st.length = 8) (hsd : Digs 18446744073709551616 st) (hs0 : 0 < sz) (hs1 : sz ≤ 64) :
    Calls Tryd.prog 30 #[.agg sv, .int .i64 (sz : Int)] w fun e w' => ∃ v', e = .returned v' ∧ OwnB w' w.heap.size v' ((outM st 8).take sz) ∧ Kept Nought w w' := by
  obtain ⟨i0, hi0, hz0, hz1, hz2⟩ := info_parts Tryd.info8s
  obtain ⟨W, hW⟩ : ∃ W, W = w.alloc (.cells sv 50) := ⟨_, rfl⟩
  have k0 : Kept Nought w W := by rw [hW]; exact (Kept.refl Nought w).alloc _
  have hsW : W.heap.size = w.heap.size + 1 := by rw [hW]; simp
  have hS0 : Arr .u64 50 W w.heap.size st := by
    rw [hW, hsv]
    exact heap_alloc_new w _
  have gs0 : (0 : Int) ≤ (sz : Int) := by omega
  have HS0 := toHid hS0
  have HK0 := toHid k0
  have HW := toHid hW
  have HSD := toHid hsd
  have HSW := toHid hsW
  clear hW hS0 k0 hsv hsd hsW
  go_enter Tryd.func30, Tryd.ntmps30
  go_wp2_with (first | rw [← HW.out] | (at_make; refine wpList_make_full _ rfl _ _ 22 rfl W.heap.size 5 i0 _ 1 Tryd.underlying22 hi0 hz0 hz1 _ _ _ _ sz rfl rfl (by first | rfl | omega) (by first | rfl | omega) (by rw [hz2]; omega) (by unfold maxLen; omega) (Nat.le_refl _) ?_; intro w1 ho1 hg1; rw [zeros_map] at ho1; have k1 := grown_kept hg1; have hA1 : Arr .u8 5 w1 W.heap.size (List.replicate sz 0) := own_block ho1))
  have HA1 := toHid hA1
  have HK1 := toHid k1
  clear hA1 k1 hg1 ho1
  rw [HSW.out] at HA1 ⊢
  go_loopw [10] (fun iv wr => ∃ i : Nat, i ≤ sz ∧ iv = .int .i64 (i : Int) ∧ Hid (Arr .u8 5 wr (w.heap.size + 1) (obM st sz i)) ∧ Hid (Kept Nought W wr)) (fun iv _ => sz - (intOf iv).toNat)
  case atStart => exact ⟨0, by omega, rfl, HA1.out, HK1.out⟩
  case round =>
    obtain ⟨i, hi, rfl, HA, HK⟩ := hrel
    by_cases hi8 : i < sz
    · have g1 : (i : Int) < (sz : Int) := by omega
      have g0 : (0 : Int) ≤ (i : Int) := by omega
      obtain ⟨p, hp⟩ : ∃ p, p = i / 8 := ⟨_, rfl⟩
      have gp : (i : Int) / 8 = (p : Int) := by omega
      have gp0 : (0 : Int) ≤ (p : Int) := by omega
      have gp1 : (p : Int) < 8 := by omega
      obtain ⟨q, hq⟩ : ∃ q, q = 8 * (7 - i % 8) := ⟨_, rfl⟩
      have gq : (8 : Int) * (7 - (i : Int) % 8) = (q : Int) := by omega
      have gq0 : (0 : Int) ≤ (q : Int) := by omega
      have hq64 : q < 64 := by omega
      have cs := (HS0.out.grew HK.out).cell p (by omega)
      have lz : st.getD p 0 < 18446744073709551616 := HSD.out.getD (by omega) _
      obtain ⟨y, hy⟩ : ∃ y, y = st.getD p 0 / 2 ^ q % 256 := ⟨_, rfl⟩
      have HN : Hid ((obM st sz i).set i y = obM st sz (i + 1)) := by
        unfold Hid
        exact obM_set hs1 hi8 (by rw [hy, hp, hq])
      generalize st.getD p 0 = z at *
      have gy : (z : Int) / 2 ^ q % 256 = (y : Int) := by
        rw [hy]
        simp
      have ck := HA.out.cell i (by rw [obM_length st hs1 hi]; omega)
      have fk := HA.out.free i
      clear hp hq hy
      go_wp2_with fail
      go_roundw
      case rel => exact ⟨i + 1, by omega, by go_num, by unfold Hid; rw [← HN.out]; exact HA.out.set i y, HK.out.setCell ⟨w.heap.size + 1, i, none⟩ (fun h => by rw [HSW.out] at h; simp at h) (.int .u8 (y : Int))⟩
      case measure => simp [intOf]; omega
    · have g1 : ¬ (i : Int) < (sz : Int) := by omega
      have hA := HA.out
      rw [show i = sz by omega, obM_end] at hA
      have hO : OwnB wr w.heap.size (.slice (some ⟨w.heap.size + 1, 0, none⟩) sz sz) ((outM st 8).take sz) := OwnB.of (own_of_block hA (by rw [List.length_take, outM_length]; omega) (by unfold maxLen; omega) (Nat.le_succ _))
      have HRO := toHid hO
      have KW := toHid (HK0.out.trans HK.out)
      clear hA hO
      go_wp2_with fail
      go_ret
      exact ⟨_, rfl, HRO.out, KW.out⟩

end Go.Proofs.YthnkganmccgaeaaDoor

