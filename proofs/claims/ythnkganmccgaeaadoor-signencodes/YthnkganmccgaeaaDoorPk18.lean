/- Put together of: Shx6 Shx7. -/
import Derived.Test.YthnkganmccgaeaaDoorPk17

/- Package sha256: Pad, bytesOf, Block of what is none. -/
namespace Go.Proofs.YthnkganmccgaeaaDoor
open Go.RowKit

/-- The padding while its count is laid, from its end on. -/
def pdN (N i : Nat) : List Nat := ([128] ++ List.replicate (padZ N) 0) ++ (List.replicate (8 - i) 0 ++ (padL N 8).drop (8 - i))

theorem pdN_length (N i : Nat) (hi : i ≤ 8) : (pdN N i).length = 1 + padZ N + 8 := by
  unfold pdN
  rw [List.length_append, List.length_append, List.length_append, List.length_replicate, List.length_replicate, List.length_drop, padL_length]
  show 1 + padZ N + _ = _
  omega

theorem pd_set {N i y : Nat} (hi : i < 8) (hy : y = 8 * N % 18446744073709551616 / 2 ^ (8 * i) % 256) : (pdN N i).set (1 + padZ N + (7 - i)) y = pdN N (i + 1) := by
  have h1 : ([128] ++ List.replicate (padZ N) 0).length = 1 + padZ N := by simp; omega
  have h2 := padL_at N (7 - i) (by omega)
  rw [show 56 - 8 * (7 - i) = 8 * i by omega, ← hy] at h2
  unfold pdN
  rw [List.set_append_right _ _ (by rw [h1]; omega), h1, Nat.add_sub_cancel_left]
  congr 1
  rw [show 8 - i = (7 - i) + 1 by omega, List.replicate_succ', List.append_assoc, List.set_append_right _ _ (by simp), List.length_replicate, Nat.sub_self, show 8 - (i + 1) = 7 - i by omega]
  congr 1
  have hl : 7 - i < (padL N 8).length := by rw [padL_length]; omega
  rw [List.drop_eq_getElem_cons hl]
  rw [List.getElem?_eq_getElem hl] at h2
  rw [Option.some.inj h2]
  rfl

theorem pd_end (N : Nat) : pdN N 8 = padN N := rfl

theorem pd_start {N : Nat} : (List.replicate (1 + padZ N + 8) 0).set 0 128 = pdN N 0 := by
  unfold pdN
  rw [show 1 + padZ N + 8 = (padZ N + 8) + 1 by omega, List.replicate_succ, List.set_cons_zero, Nat.sub_zero, List.drop_of_length_le (by rw [padL_length]; omega), List.append_nil, List.append_assoc, List.replicate_append_replicate]
  rfl

set_option maxRecDepth 20000 in
set_option maxHeartbeats 2000000 in
/-- Pad. -/
theorem hPad (n : Int) (N : Nat) (hn : n < 9223372036854775808) (hN : N = n.toNat) (w : World) :
    Calls Tryd.prog 29 #[.int .i64 n] w fun e w' => ∃ v', e = .returned v' ∧ OwnB w' w.heap.size v' (padN N) ∧ Kept Nought w w' := by
  obtain ⟨i0, hi0, hz0, hz1, hz2⟩ := info_parts Tryd.info8s
  have gm : max n 0 = (N : Int) := by omega
  have hNb : N < 9223372036854775808 := by omega
  obtain ⟨m, hm⟩ : ∃ m, m = 1 + padZ N + 8 := ⟨_, rfl⟩
  have hZb : padZ N < 64 := Nat.mod_lt _ (by omega)
  obtain ⟨Z, hZ⟩ : ∃ Z, Z = padZ N := ⟨_, rfl⟩
  have gz : ((119 : Int) - (N : Int) % 64) % 64 = (Z : Int) := by rw [hZ]; unfold padZ; omega
  have gm2 : (1 : Int) + (Z : Int) + 8 = (m : Int) := by omega
  have hmb : m ≤ 100 := by omega
  have gm0 : (0 : Int) < (m : Int) := by omega
  have HS : Hid ((List.replicate m 0).set 0 128 = pdN N 0) := by unfold Hid; rw [hm]; exact pd_start
  have HM := toHid hm
  have HL : Hid (∀ i, i ≤ 8 → (pdN N i).length = m) := fun i hi => by rw [hm]; exact pdN_length N i hi
  rw [← hZ] at hZb
  have hm9 : 9 ≤ m := by omega
  clear hm hN hZ
  go_enter Tryd.func29, Tryd.ntmps29
  go_wp2_with (at_make; refine wpList_make_full _ rfl _ _ 22 rfl w.heap.size 5 i0 _ 1 Tryd.underlying22 hi0 hz0 hz1 _ _ _ _ m rfl rfl (by first | rfl | omega) (by first | rfl | omega) (by rw [hz2]; omega) (by unfold maxLen; omega) (Nat.le_refl _) ?_; intro w1 ho1 hg1; rw [zeros_map] at ho1; have k1 := grown_kept hg1; have hb1 := own_block ho1; have hA1 : Arr .u8 5 w1 w.heap.size (List.replicate m 0) := hb1; have c0 := hA1.cell 0 (by rw [List.length_replicate]; omega); have f0 := hA1.free 0)
  have HA2 : Hid (Arr .u8 5 (w1.setCell ⟨w.heap.size, 0, none⟩ (.int .u8 (128 : Nat))) w.heap.size (pdN N 0)) := by
    have := hA1.set 0 128
    rw [HS.out] at this
    exact this
  have HK2 := toHid (k1.setCell ⟨w.heap.size, 0, none⟩ (fun h => by simp at h) (.int .u8 128))
  obtain ⟨w2, hw2⟩ : ∃ w2, w2 = w1.setCell ⟨w.heap.size, 0, none⟩ (.int .u8 128) := ⟨_, rfl⟩
  have HA3 : Hid (Arr .u8 5 w2 w.heap.size (pdN N 0)) := by rw [hw2]; exact HA2.out
  rw [← hw2] at HK2 ⊢
  clear c0 f0 hA1 hb1 k1 hg1 ho1 HA2 hw2
  go_loopw [20] (fun iv wr => ∃ i : Nat, i ≤ 8 ∧ iv = .int .i64 (i : Int) ∧ Hid (Arr .u8 5 wr w.heap.size (pdN N i)) ∧ Hid (Kept Nought w wr)) (fun iv _ => 8 - (intOf iv).toNat)
  case atStart => exact ⟨0, by omega, rfl, HA3.out, HK2.out⟩
  case round =>
    obtain ⟨i, hi, rfl, HA, HK⟩ := hrel
    by_cases hi8 : i < 8
    · have g1 : (i : Int) < 8 := by omega
      have g0 : (0 : Int) ≤ (i : Int) := by omega
      obtain ⟨k, hk⟩ : ∃ k, k = m - 1 - i := ⟨_, rfl⟩
      have gk : (m : Int) - 1 - (i : Int) = (k : Int) := by omega
      have gk0 : (0 : Int) ≤ (k : Int) := by omega
      have gk1 : (k : Int) < (m : Int) := by omega
      obtain ⟨q, hq⟩ : ∃ q, q = 8 * i := ⟨_, rfl⟩
      have gq : (8 : Int) * (i : Int) = (q : Int) := by omega
      have gq0 : (0 : Int) ≤ (q : Int) := by omega
      have hq64 : q < 64 := by omega
      obtain ⟨y, hy⟩ : ∃ y, y = 8 * N % 18446744073709551616 / 2 ^ q % 256 := ⟨_, rfl⟩
      have gy : IntKind.u64.wrap (8 * (N : Int)) / 2 ^ q % 256 = (y : Int) := by
        rw [IntKind.wrap_u64, hy]
        simp
      have HN : Hid ((pdN N i).set k y = pdN N (i + 1)) := by
        unfold Hid
        rw [hk, HM.out, show 1 + padZ N + 8 - 1 - i = 1 + padZ N + (7 - i) by omega]
        exact pd_set hi8 (by rw [hy, hq])
      have ck := HA.out.cell k (by rw [HL.out i hi]; omega)
      have fk := HA.out.free k
      clear hk hq hy
      go_wp2_with fail
      go_roundw
      case rel => exact ⟨i + 1, by omega, by go_num, by unfold Hid; rw [← HN.out]; exact HA.out.set k y, HK.out.setCell ⟨w.heap.size, k, none⟩ (fun h => by simp at h) (.int .u8 (y : Int))⟩
      case measure => simp [intOf]; omega
    · have g1 : ¬ (i : Int) < 8 := by omega
      have hA := HA.out
      rw [show i = 8 by omega, pd_end] at hA
      have hO : OwnB wr w.heap.size (.slice (some ⟨w.heap.size, 0, none⟩) m m) (padN N) := OwnB.of (own_of_block hA (HL.out 8 (by omega)) (by unfold maxLen; omega) (Nat.le_refl _))
      have HOO := toHid hO
      clear hA hO
      go_wp2_with fail
      go_ret
      exact ⟨_, rfl, HOO.out, HK.out⟩

theorem outN_length (st : List Nat) : ∀ n, (outN st n).length = 4 * n
  | 0 => rfl
  | n + 1 => by
    unfold outN
    rw [List.length_append, outN_length st n]
    rfl

theorem b4_at (z j : Nat) (hj : j < 4) : (b4N z)[j]? = some (z / 2 ^ (8 * (3 - j)) % 256) := by
  have h : j = 0 ∨ j = 1 ∨ j = 2 ∨ j = 3 := by omega
  rcases h with rfl | rfl | rfl | rfl
  · rfl
  · rfl
  · rfl
  · show some (z % 256) = some (z / 1 % 256)
    rw [Nat.div_one]

theorem outN_at (st : List Nat) : ∀ n i, i < 4 * n → (outN st n)[i]? = some (st.getD (i / 4) 0 / 2 ^ (8 * (3 - i % 4)) % 256)
  | 0, i, hi => by omega
  | n + 1, i, hi => by
    unfold outN
    by_cases h : i < 4 * n
    · rw [List.getElem?_append_left (by rw [outN_length]; exact h)]
      exact outN_at st n i h
    · rw [List.getElem?_append_right (by rw [outN_length]; omega), outN_length, b4_at _ _ (by omega), show i / 4 = n by omega, show i - 4 * n = i % 4 by omega]

/-- A state's bytes while they are laid. -/
def obN (st : List Nat) (i : Nat) : List Nat := (outN st 8).take i ++ List.replicate (32 - i) 0

theorem obN_length (st : List Nat) {i : Nat} (hi : i ≤ 32) : (obN st i).length = 32 := by
  unfold obN
  rw [List.length_append, List.length_take, outN_length, List.length_replicate]
  omega

theorem ob_set {st : List Nat} {i y : Nat} (hi : i < 32) (hy : y = st.getD (i / 4) 0 / 2 ^ (8 * (3 - i % 4)) % 256) : (obN st i).set i y = obN st (i + 1) := by
  have h := outN_at st 8 i (by omega)
  rw [← hy] at h
  have hl : i < (outN st 8).length := by rw [outN_length]; omega
  rw [List.getElem?_eq_getElem hl] at h
  unfold obN
  have hlt : ((outN st 8).take i).length = i := by rw [List.length_take, outN_length]; omega
  rw [List.set_append_right _ _ (by omega), hlt, Nat.sub_self, show 32 - i = (32 - (i + 1)) + 1 by omega, List.replicate_succ, List.set_cons_zero, List.take_succ_eq_append_getElem hl, Option.some.inj h, List.append_assoc]
  rfl

theorem ob_end (st : List Nat) : obN st 32 = outN st 8 := by
  unfold obN
  rw [List.take_of_length_le (by rw [outN_length]; omega), Nat.sub_self, List.replicate_zero, List.append_nil]

set_option maxRecDepth 20000 in
set_option maxHeartbeats 2000000 in
/-- bytesOf. -/
theorem hBytesOf (st : List Nat) (sv : Array Value) (hsv : sv = (st.map fun z => Value.int .u32 (z : Nat)).toArray) (w : World) (hs : st.length = 8) (hsd : Digs 4294967296 st) :
    Calls Tryd.prog 28 #[.agg sv] w fun e w' => ∃ v', e = .returned v' ∧ Row .u8 w' v' (outN st 8) ∧ (∀ b, v'.ownBlock = some b → w.heap.size ≤ b) ∧ Kept Nought w w' := by
  obtain ⟨W, hW⟩ : ∃ W, W = (w.alloc (.cells sv 45)).alloc (.cells ((List.replicate 32 0).map fun z : Nat => Value.int .u8 (z : Int)).toArray 60) := ⟨_, rfl⟩
  have k0 : Kept Nought w W := by rw [hW]; exact ((Kept.refl Nought w).alloc _).alloc _
  have hS0 : Arr .u32 45 W w.heap.size st := by
    rw [hW, hsv]
    exact heapAt_alloc (heap_alloc_new w _)
  have hO0 : Arr .u8 60 W (w.heap.size + 1) (List.replicate 32 0) := by
    rw [hW]
    have := heap_alloc_new (w.alloc (.cells sv 45)) (.cells ((List.replicate 32 0).map fun z : Nat => Value.int .u8 (z : Int)).toArray 60)
    rwa [show (w.alloc (.cells sv 45)).heap.size = w.heap.size + 1 by simp] at this
  have HS0 := toHid hS0
  have HO0 := toHid hO0
  have HK0 := toHid k0
  have HW : Hid (W = (w.alloc (.cells sv 45)).alloc (.cells (#[.int .u8 0, .int .u8 0, .int .u8 0, .int .u8 0, .int .u8 0, .int .u8 0, .int .u8 0, .int .u8 0, .int .u8 0, .int .u8 0, .int .u8 0, .int .u8 0, .int .u8 0, .int .u8 0, .int .u8 0, .int .u8 0, .int .u8 0, .int .u8 0, .int .u8 0, .int .u8 0, .int .u8 0, .int .u8 0, .int .u8 0, .int .u8 0, .int .u8 0, .int .u8 0, .int .u8 0, .int .u8 0, .int .u8 0, .int .u8 0, .int .u8 0, .int .u8 0] : Array Value) 60)) := hW
  have HSD := toHid hsd
  clear hW hS0 hO0 k0 hsv hsd
  go_enter Tryd.func28, Tryd.ntmps28
  go_wp2_with fail
  rw [← HW.out]
  go_loopw [5] (fun iv wr => ∃ i : Nat, i ≤ 32 ∧ iv = .int .i64 (i : Int) ∧ Hid (Arr .u8 60 wr (w.heap.size + 1) (obN st i)) ∧ Hid (Kept (fun b => b = w.heap.size + 1) W wr)) (fun iv _ => 32 - (intOf iv).toNat)
  case atStart => exact ⟨0, by omega, rfl, HO0.out, Kept.refl _ _⟩
  case round =>
    obtain ⟨i, hi, rfl, HA, HK⟩ := hrel
    by_cases hi8 : i < 32
    · have g1 : (i : Int) < 32 := by omega
      have g0 : (0 : Int) ≤ (i : Int) := by omega
      obtain ⟨p, hp⟩ : ∃ p, p = i / 4 := ⟨_, rfl⟩
      have gp : (i : Int) / 4 = (p : Int) := by omega
      have gp0 : (0 : Int) ≤ (p : Int) := by omega
      have gp1 : (p : Int) < 8 := by omega
      obtain ⟨q, hq⟩ : ∃ q, q = 8 * (3 - i % 4) := ⟨_, rfl⟩
      have gq : (8 : Int) * (3 - (i : Int) % 4) = (q : Int) := by omega
      have gq0 : (0 : Int) ≤ (q : Int) := by omega
      have hq64 : q < 32 := by omega
      have cs := (HS0.out.kept HK.out (by omega)).cell p (by omega)
      have lz : st.getD p 0 < 4294967296 := HSD.out.getD (by omega) _
      obtain ⟨y, hy⟩ : ∃ y, y = st.getD p 0 / 2 ^ q % 256 := ⟨_, rfl⟩
      have HN : Hid ((obN st i).set i y = obN st (i + 1)) := by
        unfold Hid
        exact ob_set hi8 (by rw [hy, hp, hq])
      generalize st.getD p 0 = z at *
      have gy : (z : Int) / 2 ^ q % 256 = (y : Int) := by
        rw [hy]
        simp
      have ck := HA.out.cell i (by rw [obN_length st hi]; omega)
      have fk := HA.out.free i
      clear hp hq hy
      go_wp2_with fail
      go_roundw
      case rel => exact ⟨i + 1, by omega, by go_num, by unfold Hid; rw [← HN.out]; exact HA.out.set i y, HK.out.setCell ⟨w.heap.size + 1, i, none⟩ (fun _ => rfl) (.int .u8 (y : Int))⟩
      case measure => simp [intOf]; omega
    · have g1 : ¬ (i : Int) < 32 := by omega
      have hA := HA.out
      rw [show i = 32 by omega, ob_end] at hA
      have hrow : Row .u8 wr (.slice (some ⟨w.heap.size + 1, 0, none⟩) 32 32) (outN st 8) := Row.of_block hA (by rw [outN_length]) (by unfold maxLen; omega)
      have HRO := toHid hrow
      have KW := toHid (HK0.out.next HK.out (fun x hx e => by have e' : x = w.heap.size + 1 := e; omega))
      clear hA hrow
      go_wp2_with fail
      go_ret
      exact ⟨_, rfl, HRO.out, fun b hb => by cases hb; exact Nat.le_succ _, KW.out⟩

end Go.Proofs.YthnkganmccgaeaaDoor


/- Package sha256: hashed: block after block. -/
namespace Go.Proofs.YthnkganmccgaeaaDoor
open Go.RowKit

/-- So many blocks, from a state on. -/
def hsN (s all : List Nat) : Nat → List Nat
  | 0 => s
  | i + 1 => blkN (hsN s all i) ((all.drop (64 * i)).take 64)

theorem blks_hs (all : List Nat) : ∀ i, blksN all i = hsN H256 all i
  | 0 => rfl
  | i + 1 => by
    unfold blksN hsN
    rw [blks_hs all i]

theorem hsN_digs {s all : List Nat} (hs : s.length = 8) (hd : Digs 4294967296 s) : ∀ i, Digs 4294967296 (hsN s all i) ∧ (hsN s all i).length = 8
  | 0 => ⟨hd, hs⟩
  | _ + 1 => blkN_digs

/-- Blocks behind blocks. -/
theorem hs_more (s all : List Nat) (a : Nat) : ∀ b, hsN s all (a + b) = hsN (hsN s all a) (all.drop (64 * a)) b
  | 0 => rfl
  | b + 1 => by
    show blkN (hsN s all (a + b)) ((all.drop (64 * (a + b))).take 64) = blkN (hsN (hsN s all a) (all.drop (64 * a)) b) (((all.drop (64 * a)).drop (64 * b)).take 64)
    rw [hs_more s all a b, List.drop_drop, show 64 * (a + b) = 64 * a + 64 * b by omega]

/-- What lies behind the blocks has no part in it. -/
theorem hs_take (s all : List Nat) (m : Nat) : ∀ a, 64 * a ≤ m → hsN s (all.take m) a = hsN s all a
  | 0, _ => rfl
  | a + 1, h => by
    unfold hsN
    rw [hs_take s all m a (by omega), List.drop_take, List.take_take, show min 64 (m - 64 * a) = 64 by omega]

set_option maxRecDepth 40000 in
set_option maxHeartbeats 4000000 in
/-- hashed, of whole blocks. -/
theorem hHashed (ao : Option Addr) (n cap M : Nat) (s bs : List Nat) (sv : Array Value) (hsv : sv = (s.map fun z => Value.int .u32 (z : Nat)).toArray) (w : World) (hT : Tab11 w) (hs : s.length = 8) (hsd : Digs 4294967296 s) (hb : Row .u8 w (.slice ao n cap) bs) (hbd : Digs 256 bs) (hn : n = 64 * M) (hnb : n ≤ 2000000) :
    Calls Tryd.prog 27 #[.agg sv, .slice ao n cap] w fun e w' => e = .returned (.agg ((hsN s bs M).map fun z => Value.int .u32 (z : Nat)).toArray) ∧ Kept Nought w w' := by
  obtain ⟨s0, s1, s2, s3, s4, s5, s6, s7, hsl⟩ : ∃ s0 s1 s2 s3 s4 s5 s6 s7, s = [s0, s1, s2, s3, s4, s5, s6, s7] := by
    match s, hs with
    | [a, b, c, d, e, f, g, h], _ => exact ⟨a, b, c, d, e, f, g, h, rfl⟩
  have e0 : sv = #[.int .u32 (s0 : Nat), .int .u32 (s1 : Nat), .int .u32 (s2 : Nat), .int .u32 (s3 : Nat), .int .u32 (s4 : Nat), .int .u32 (s5 : Nat), .int .u32 (s6 : Nat), .int .u32 (s7 : Nat)] := by rw [hsv, hsl]; rfl
  subst e0
  clear hsv
  obtain ⟨W, hW⟩ : ∃ W, W = (w.alloc (.cells #[.int .u32 (s0 : Nat), .int .u32 (s1 : Nat), .int .u32 (s2 : Nat), .int .u32 (s3 : Nat), .int .u32 (s4 : Nat), .int .u32 (s5 : Nat), .int .u32 (s6 : Nat), .int .u32 (s7 : Nat)] 45)).alloc (.cells #[.int .u32 0, .int .u32 0, .int .u32 0, .int .u32 0, .int .u32 0, .int .u32 0, .int .u32 0, .int .u32 0] 45) := ⟨_, rfl⟩
  have k0 : Kept Nought w W := by rw [hW]; exact ((Kept.refl Nought w).alloc _).alloc _
  have hS0 : Arr .u32 45 W w.heap.size s := by
    rw [hW, hsl]
    exact heapAt_alloc (heap_alloc_new w _)
  have hO0 : Arr .u32 45 W (w.heap.size + 1) [0, 0, 0, 0, 0, 0, 0, 0] := by
    rw [hW]
    have := heap_alloc_new (w.alloc (.cells #[.int .u32 (s0 : Nat), .int .u32 (s1 : Nat), .int .u32 (s2 : Nat), .int .u32 (s3 : Nat), .int .u32 (s4 : Nat), .int .u32 (s5 : Nat), .int .u32 (s6 : Nat), .int .u32 (s7 : Nat)] 45)) (.cells #[.int .u32 0, .int .u32 0, .int .u32 0, .int .u32 0, .int .u32 0, .int .u32 0, .int .u32 0, .int .u32 0] 45)
    rwa [show (w.alloc (.cells #[.int .u32 (s0 : Nat), .int .u32 (s1 : Nat), .int .u32 (s2 : Nat), .int .u32 (s3 : Nat), .int .u32 (s4 : Nat), .int .u32 (s5 : Nat), .int .u32 (s6 : Nat), .int .u32 (s7 : Nat)] 45)).heap.size = w.heap.size + 1 by simp] at this
  obtain ⟨_, _, _, e1, hLb, hcap, _, _, _⟩ := hb.open
  cases e1
  have HS0 := toHid hS0
  have HO0 := toHid hO0
  have HK0 := toHid k0
  have HW := toHid hW
  have HB := toHid hb
  have HBD := toHid hbd
  have HT := toHid hT
  have HSD := toHid hsd
  have HN := toHid hn
  clear hW hS0 hO0 k0 hb hbd hT hsd hsl hn
  go_enter Tryd.func27, Tryd.ntmps27
  go_wp2_with fail
  rw [← HW.out]
  go_loopw [5] (fun iv wr => ∃ j ii : Nat, j ≤ M ∧ Hid (ii = 64 * j) ∧ iv = .int .i64 (ii : Int) ∧ Hid (Arr .u32 45 wr w.heap.size (hsN s bs j)) ∧ Hid (Kept (fun b => b = w.heap.size) W wr)) (fun iv _ => n - (intOf iv).toNat)
  case atStart => exact ⟨0, 0, Nat.zero_le _, rfl, rfl, HS0.out, Kept.refl _ _⟩
  case round =>
    obtain ⟨j, ii, hj, HII, rfl, HR, HK⟩ := hrel
    by_cases hjM : j < M
    · have hii := HII.out
      have hMM := HN.out
      have hlt : ii + 64 ≤ n := by omega
      obtain ⟨_, _, _, e1, _, _, _, _, hnum⟩ := HB.out.open
      cases e1
      obtain ⟨yb, yoff, e1, _⟩ := hnum 0 (by omega)
      cases e1
      have hyw : yb < w.heap.size := HB.out.lt (fun e => by have := hLb.out; rw [e] at this; simp at this; omega) yb rfl
      have g1 : (ii : Int) < (n : Int) := by omega
      have g0 : (0 : Int) ≤ (ii : Int) := by omega
      obtain ⟨i2, hi2⟩ : ∃ i2, i2 = ii + 64 := ⟨_, rfl⟩
      have gw : IntKind.i64.wrap ((ii : Int) + 64) = (i2 : Int) := by rw [IntKind.wrap_i64]; omega
      have gc : (i2 : Int) ≤ (cap : Int) := by omega
      have gd : (ii : Int) ≤ (i2 : Int) := by omega
      have ge : i2 - ii = 64 := by omega
      have gf : ¬ cap = ii := by omega
      have gl : ii ≤ i2 := by omega
      have gm : i2 ≤ cap := by omega
      obtain ⟨hbd8, hbl8⟩ := hsN_digs (all := bs) hs HSD.out j
      obtain ⟨x0, x1, x2, x3, x4, x5, x6, x7, hxx⟩ : ∃ x0 x1 x2 x3 x4 x5 x6 x7, hsN s bs j = [x0, x1, x2, x3, x4, x5, x6, x7] := by
        match h : hsN s bs j, hbl8 with
        | [a, b, c, d, e, f, g, h'], _ => exact ⟨a, b, c, d, e, f, g, h', rfl⟩
      have hnx : hsN s bs (j + 1) = blkN [x0, x1, x2, x3, x4, x5, x6, x7] ((bs.drop ii).take 64) := by
        show blkN (hsN s bs j) ((bs.drop (64 * j)).take 64) = _
        rw [hxx, hii]
      obtain ⟨z0, z1, z2, z3, z4, z5, z6, z7, hzz⟩ : ∃ z0 z1 z2 z3 z4 z5 z6 z7, blkN [x0, x1, x2, x3, x4, x5, x6, x7] ((bs.drop ii).take 64) = [z0, z1, z2, z3, z4, z5, z6, z7] := by
        match h : blkN [x0, x1, x2, x3, x4, x5, x6, x7] ((bs.drop ii).take 64), (blkN_digs (s := [x0, x1, x2, x3, x4, x5, x6, x7]) (bs := (bs.drop ii).take 64)).2 with
        | [a, b, c, d, e, f, g, h'], _ => exact ⟨a, b, c, d, e, f, g, h', rfl⟩
      have hRR := HR.out
      rw [hxx] at hRR hbd8
      have kwr : Kept Nought w wr := HK0.out.next HK.out (fun x hx e => by
        have e' : x = w.heap.size := e
        omega)
      have JB : Hid (∀ W', Kept Nought wr W' → Calls Tryd.prog 42 #[.agg #[.int .u32 (x0 : Int), .int .u32 (x1 : Int), .int .u32 (x2 : Int), .int .u32 (x3 : Int), .int .u32 (x4 : Int), .int .u32 (x5 : Int), .int .u32 (x6 : Int), .int .u32 (x7 : Int)], .slice (some ⟨yb, yoff + ii, none⟩) 64 (cap - ii)] W' fun e w' => e = .returned (.tuple #[.agg #[.int .u32 (z0 : Int), .int .u32 (z1 : Int), .int .u32 (z2 : Int), .int .u32 (z3 : Int), .int .u32 (z4 : Int), .int .u32 (z5 : Int), .int .u32 (z6 : Int), .int .u32 (z7 : Int)], .bool true]) ∧ Kept Nought wr w') := fun W' k => by
        have := hBlock (some ⟨yb, yoff + ii, none⟩) (cap - ii) [x0, x1, x2, x3, x4, x5, x6, x7] ((bs.drop ii).take 64) _ rfl W' (HT.out.grew (kwr.trans k)) rfl hbd8 (row_part (HB.out.grew (kwr.trans k)) hlt) ((HBD.out.drop ii).take 64)
        rw [hzz] at this
        refine this.mono ?_
        rintro e w' ⟨rfl, k'⟩
        exact ⟨rfl, k.trans k'⟩
      have HNX : Hid (hsN s bs (j + 1) = [z0, z1, z2, z3, z4, z5, z6, z7]) := hnx.trans hzz
      have HI2 := toHid hi2
      have HRR := toHid hRR
      have c0 := hRR.cell 0 (by simp)
      have c1 := hRR.cell 1 (by simp)
      have c2 := hRR.cell 2 (by simp)
      have c3 := hRR.cell 3 (by simp)
      have c4 := hRR.cell 4 (by simp)
      have c5 := hRR.cell 5 (by simp)
      have c6 := hRR.cell 6 (by simp)
      have c7 := hRR.cell 7 (by simp)
      clear hii hMM hi2 hbd8 hbl8 hxx hnx hzz hRR HR kwr hnum
      go_wp2_with fail
      go_region_with (go_at_call 42; refine (JB.out _ ((Kept.refl _ _).drew)).mono ?_; rintro e w8 ⟨rfl, k8⟩; have hR8 := HRR.out.grew k8; have o0 := hR8.free 0; have o1 := hR8.free 1; have o2 := hR8.free 2; have o3 := hR8.free 3; have o4 := hR8.free 4; have o5 := hR8.free 5; have o6 := hR8.free 6; have o7 := hR8.free 7; have d0 := k8.cellN c0; have d1 := k8.cellN c1; have d2 := k8.cellN c2; have d3 := k8.cellN c3; have d4 := k8.cellN c4; have d5 := k8.cellN c5; have d6 := k8.cellN c6; have d7 := k8.cellN c7)
      all_goals
        go_wp2_with fail
        go_roundw
        case rel => exact ⟨j + 1, ii + 64, by omega, by unfold Hid; have := HII.out; omega, by go_num, by unfold Hid; rw [HNX.out]; exact hR8.put8 rfl z0 z1 z2 z3 z4 z5 z6 z7, (HK.out.next k8 (fun x _ f => f.elim)).next (kept8 w8 w.heap.size (.int .u32 (z0 : Int)) (.int .u32 (z1 : Int)) (.int .u32 (z2 : Int)) (.int .u32 (z3 : Int)) (.int .u32 (z4 : Int)) (.int .u32 (z5 : Int)) (.int .u32 (z6 : Int)) (.int .u32 (z7 : Int))) (fun x _ h => h)⟩
        case measure => simp [intOf]; omega
    · have g1 : ¬ (ii : Int) < (n : Int) := by have := HII.out; have := HN.out; omega
      have hRR := HR.out
      rw [show j = M by omega] at hRR
      have hbl8 := (hsN_digs (all := bs) hs HSD.out M).2
      obtain ⟨x0, x1, x2, x3, x4, x5, x6, x7, hxx⟩ : ∃ x0 x1 x2 x3 x4 x5 x6 x7, hsN s bs M = [x0, x1, x2, x3, x4, x5, x6, x7] := by
        match h : hsN s bs M, hbl8 with
        | [a, b, c, d, e, f, g, h'], _ => exact ⟨a, b, c, d, e, f, g, h', rfl⟩
      rw [hxx] at hRR
      have c0 := hRR.cell 0 (by simp)
      have c1 := hRR.cell 1 (by simp)
      have c2 := hRR.cell 2 (by simp)
      have c3 := hRR.cell 3 (by simp)
      have c4 := hRR.cell 4 (by simp)
      have c5 := hRR.cell 5 (by simp)
      have c6 := hRR.cell 6 (by simp)
      have c7 := hRR.cell 7 (by simp)
      have hOO := HO0.out.kept HK.out (by omega)
      have p0 := hOO.cell 0 (by simp)
      have o0 := hOO.free 0
      have p1 := hOO.cell 1 (by simp)
      have o1 := hOO.free 1
      have p2 := hOO.cell 2 (by simp)
      have o2 := hOO.free 2
      have p3 := hOO.cell 3 (by simp)
      have o3 := hOO.free 3
      have p4 := hOO.cell 4 (by simp)
      have o4 := hOO.free 4
      have p5 := hOO.cell 5 (by simp)
      have o5 := hOO.free 5
      have p6 := hOO.cell 6 (by simp)
      have o6 := hOO.free 6
      have p7 := hOO.cell 7 (by simp)
      have o7 := hOO.free 7
      have hF := hOO.put8 rfl x0 x1 x2 x3 x4 x5 x6 x7
      have y0 := hF.cell 0 (by simp)
      have y1 := hF.cell 1 (by simp)
      have y2 := hF.cell 2 (by simp)
      have y3 := hF.cell 3 (by simp)
      have y4 := hF.cell 4 (by simp)
      have y5 := hF.cell 5 (by simp)
      have y6 := hF.cell 6 (by simp)
      have y7 := hF.cell 7 (by simp)
      have KF := toHid ((HK0.out.next HK.out (fun x hx e => by have e' : x = w.heap.size := e; omega)).next (kept8 wr (w.heap.size + 1) (.int .u32 (x0 : Int)) (.int .u32 (x1 : Int)) (.int .u32 (x2 : Int)) (.int .u32 (x3 : Int)) (.int .u32 (x4 : Int)) (.int .u32 (x5 : Int)) (.int .u32 (x6 : Int)) (.int .u32 (x7 : Int))) (fun x hx e => by have e' : x = w.heap.size + 1 := e; omega))
      have HXX := toHid hxx
      clear hRR hbl8 hxx hOO hF HR HK HS0 HO0 HK0 HB HBD HT
      go_wp2_with fail
      rw [HXX.out]
      exact bodyPost_ret (v := .agg #[.int .u32 (x0 : Int), .int .u32 (x1 : Int), .int .u32 (x2 : Int), .int .u32 (x3 : Int), .int .u32 (x4 : Int), .int .u32 (x5 : Int), .int .u32 (x6 : Int), .int .u32 (x7 : Int)]) (by simp [results, Tryd.results27, go_sem, y0, y1, y2, y3, y4, y5, y6, y7]) rfl ⟨rfl, KF.out⟩

end Go.Proofs.YthnkganmccgaeaaDoor

