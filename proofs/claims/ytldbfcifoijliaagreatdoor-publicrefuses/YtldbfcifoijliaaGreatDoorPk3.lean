/- Put together of: Base2. -/
import Derived.Test.YtldbfcifoijliaaGreatDoorPk1

/- Melted of: BigAdd BigSub BigMul BigShift BigShr BigDiv BigTake BigGuess DivMath. -/

/- The plain sum. -/
namespace Go.Proofs.YtldbfcifoijliaaGreatDoor
open Go.RowKit

theorem val_take_succ (B : Nat) (l : List Nat) (k : Nat) : val B (l.take (k + 1)) = val B (l.take k) + B ^ k * l.getD k 0 := by
  by_cases h : k < l.length
  · rw [List.take_succ_eq_append_getElem h, val_snoc, List.length_take, Nat.min_eq_left (by omega), List.getD_eq_getElem?_getD, List.getElem?_eq_getElem h]
    rfl
  · rw [List.take_of_length_le (by omega), List.take_of_length_le (by omega), List.getD_eq_getElem?_getD, List.getElem?_eq_none (by omega)]
    simp

theorem carry_step (p B t : Nat) : p * (t % B) + p * B * (t / B) = p * t := by
  have h := Nat.mod_add_div t B
  calc p * (t % B) + p * B * (t / B) = p * (t % B + B * (t / B)) := by rw [Nat.mul_add, Nat.mul_assoc]
    _ = p * t := by rw [h]

theorem new1_cells (w : World) (x : Value) (e : TypeId) : ∀ j u, [x][j]? = some u → (w.alloc (.cells #[x] e)).cell? ((⟨w.heap.size, 0, none⟩ : Addr).add j) = some u :=
  World.news_of_block (cs := #[x]) (t := e) (fr := (0, 0)) (Go.heap_alloc_new w _)

end Go.Proofs.YtldbfcifoijliaaGreatDoor

/- The plain difference. -/
namespace Go.Proofs.YtldbfcifoijliaaGreatDoor
open Go.RowKit

theorem sub_step {a b os : List Nat} {k β x y z β' : Nat} (hl : os.length = k) (h : val 4294967296 os + val 4294967296 (b.take k) = val 4294967296 (a.take k) + 4294967296 ^ k * β) (hx : a.getD k 0 = x) (hy : b.getD k 0 = y)
    (hz : z + y + β = x + 4294967296 * β') :
    val 4294967296 (os ++ [z]) + val 4294967296 (b.take (k + 1)) = val 4294967296 (a.take (k + 1)) + 4294967296 ^ (k + 1) * β' := by
  rw [val_snoc, hl, val_take_succ, val_take_succ, hx, hy, Nat.pow_succ, Nat.mul_assoc]
  have e : 4294967296 ^ k * (z + y + β) = 4294967296 ^ k * (x + 4294967296 * β') := by rw [hz]
  rw [Nat.mul_add, Nat.mul_add, Nat.mul_add] at e
  omega

theorem sub_end {a b os : List Nat} {β : Nat} (hd : Digs 4294967296 os) (hl : os.length = a.length) (h : val 4294967296 os + val 4294967296 b = val 4294967296 a + 4294967296 ^ a.length * β) (hb : β ≤ 1) (hle : val 4294967296 b ≤ val 4294967296 a) :
    val 4294967296 os = val 4294967296 a - val 4294967296 b := by
  have h1 := val_lt (by omega) hd
  rw [hl] at h1
  have h2 : β = 0 ∨ β = 1 := by omega
  rcases h2 with rfl | rfl
  · omega
  · rw [Nat.mul_one] at h
    omega

set_option maxRecDepth 100000 in
set_option maxHeartbeats 800000 in
theorem rSub (u v : Value) (A B : Nat) (w : World) (hu : IsBig w u A) (hv : IsBig w v B) (hle : B ≤ A) :
    Calls Tryz.prog 109 #[u, v] w fun r w' => ∃ v', r = .returned v' ∧ IsBig w' v' (A - B) ∧ (∀ b, v'.ownBlock = some b → w.heap.size ≤ b) ∧ Kept Nought w w' := by
  obtain ⟨i0, hi0, hz0, hz1, hz2⟩ := info_parts Tryz.info62
  obtain ⟨a, ra, da, ta, rfl, la⟩ := hu
  obtain ⟨b, rb, db, tb, rfl, lb⟩ := hv
  have hlen : b.length ≤ a.length := by
    rw [len_le_iff (by omega) db tb]
    exact Nat.lt_of_le_of_lt hle (val_lt (by omega) da)
  have HB := fun i W (hk : Kept Nought w W) => rDigit v b i W (rb.grew hk)
  have xa := fun i => da.getD (by omega) i
  have xb := fun i => db.getD (by omega) i
  obtain ⟨ao, n, ac, rfl, hN, _, _, _, h4⟩ := ra.open
  rw [hN.out] at la hlen
  clear ra rb lb da db ta tb
  go_enter Tryz.func109, Tryz.ntmps109
  go_wp2_with fail
  go_loopw [5, 6, 10] (fun o c i wr => ∃ (k β : Nat) (os : List Nat), k ≤ n ∧ β ≤ 1 ∧ i = .int .i64 k ∧ c = .int .i64 (-(β : Int)) ∧ Hid (os.length = k) ∧ Digs 4294967296 os ∧ OwnN .u32 62 wr w.heap.size o k os ∧ Kept Nought w wr ∧
      Hid (val 4294967296 os + val 4294967296 (b.take k) = val 4294967296 (a.take k) + 4294967296 ^ k * β)) (fun _ _ i _ => n - (intOf i).toNat)
  case atStart => exact ⟨0, 0, [], Nat.zero_le _, by omega, rfl, rfl, rfl, Digs.nil _, World.ownsRow_nil _ _ _ _, Kept.refl _ _, by unfold Hid; simp [val]⟩
  case round =>
    obtain ⟨k, β, os, hk, hβ, rfl, rfl, HL, hod, ho, hkp, HV⟩ := hrel
    by_cases hlt : k < n
    · obtain ⟨bb, off, rfl, hcell⟩ := (h4 k hlt).grew hkp
      have hD := fun W (hk : Kept Nought w W) => HB k W hk
      have hx := xa k
      have hy := xb k
      have HS : Hid (∀ z β', z + b.getD k 0 + β = a.getD k 0 + 4294967296 * β' → val 4294967296 (os ++ [z]) + val 4294967296 (b.take (k + 1)) = val 4294967296 (a.take (k + 1)) + 4294967296 ^ (k + 1) * β') := fun z β' hz => sub_step HL.out HV.out rfl rfl hz
      clear HB xa xb HV h4
      generalize a.getD k 0 = x at *
      generalize b.getD k 0 = y at *
      have g0 : (0 : Int) ≤ (k : Int) := Int.natCast_nonneg _
      have g1 : (k : Int) < (n : Int) := by omega
      have w1 : IntKind.i64.wrap ((x : Int) - (y : Int)) = (x : Int) - (y : Int) := by rw [IntKind.wrap_i64]; omega
      have w2 : IntKind.i64.wrap (-(β : Int) + ((x : Int) - (y : Int))) = -(β : Int) + ((x : Int) - (y : Int)) := by rw [IntKind.wrap_i64]; omega
      go_wp2_with fail
      go_quiet ((go_at_call 34; exact Calls.quiet_of_same (hD _ (hkp.drewN _))))
      have ho2 : OwnN .u32 62 (wr.drewN nq) w.heap.size _ k os := ho
      have hk2 : Kept Nought w (wr.drewN nq) := hkp.drewN nq
      clear hD hcell w1 w2
      generalize wr.drewN nq = W2 at *
      obtain ⟨t, ht⟩ : ∃ t : Int, t = -(β : Int) + ((x : Int) - (y : Int)) := ⟨_, rfl⟩
      obtain ⟨z, β', hz, hβ', e1, e2, ez⟩ : ∃ z β' : Nat, z < 4294967296 ∧ β' ≤ 1 ∧ t % 4294967296 = (z : Int) ∧ t / 4294967296 = -(β' : Int) ∧ z + y + β = x + 4294967296 * β' := by
        by_cases hneg : t < 0
        · exact ⟨(t % 4294967296).toNat, 1, by omega, by omega, by omega, by omega, by omega⟩
        · exact ⟨(t % 4294967296).toNat, 0, by omega, by omega, by omega, by omega, by omega⟩
      have hS := HS.out z β' ez
      have HS2 : Hid (val 4294967296 (os ++ [z]) + val 4294967296 (b.take (k + 1)) = val 4294967296 (a.take (k + 1)) + 4294967296 ^ (k + 1) * β') := hS
      have hb1 : -8589934592 ≤ t := by omega
      have hb2 : t ≤ 8589934592 := by omega
      rw [← ht]
      have E1 : Hid (t % 4294967296 = (z : Int)) := e1
      have E2 : Hid (t / 4294967296 = -(β' : Int)) := e2
      clear hS HS ez e1 e2 ht
      go_wp2_with (at_builtin; refine wpList_append_lies _ rfl _ _ 36 rfl w.heap.size 62 i0 _ 1 4 Tryz.underlying36 hi0 hz0 hz1 hz2 rfl (by omega) _ _ _ rfl (ho2.alloc _) ⟨W2.heap.size, 0, none⟩ 1 1 [.int .u32 (t % 4294967296)] rfl rfl (new1_cells W2 _ _) (by simp [Value.oneCell']) (by omega) (by unfold maxLen; omega) (by omega) (by have := hk2.size; simp; omega) (W2.heap.size + 1) (by simp) ?_; intro gg c' w4 ho4 hg hat hgl)
      have hk5 : Kept Nought w w4 := (hk2.alloc _).grown hg (fun b hb hlt => by have := (ho2.lt b hb).1; omega)
      rw [E1.out] at ho4
      rw [E2.out]
      go_roundw
      case rel => exact ⟨k + 1, β', os ++ [z], by omega, hβ', by go_num, rfl, by unfold Hid; rw [List.length_append, HL.out]; rfl, hod.append (Digs.one hz), by unfold OwnN; rw [List.map_append]; exact ho4, hk5, HS2⟩
      case measure => simp [intOf]; omega
    · have g1 : ¬ (k : Int) < (n : Int) := by omega
      have hv2 : val 4294967296 os = val 4294967296 a - val 4294967296 b := by
        have h := HV.out
        have e1 := hN.out
        have e2 := HL.out
        rw [List.take_of_length_le (by omega), List.take_of_length_le (by omega)] at h
        exact sub_end hod (by omega) (by rw [show a.length = k by omega]; exact h) hβ hle
      have hr : Row .u32 wr _ os := Row.of_own (base := w.heap.size) (e := 62) (by rw [HL.out]; exact ho)
      have ht := rTrimBig _ _ _ hr hod (by have := HL.out; omega)
      rw [hv2] at ht
      clear HB xa xb HV h4 hv2 hr
      go_wp2_with fail
      refine ht.mono ?_
      rintro e w' ⟨v', rfl, hb, ho', rfl⟩
      go_wp2
      go_ret
      exact ⟨v', rfl, hb, fun b hb' => by rw [ho'] at hb'; exact (ho.lt b hb').1, hkp⟩

end Go.Proofs.YtldbfcifoijliaaGreatDoor

/- The plain product. -/
namespace Go.Proofs.YtldbfcifoijliaaGreatDoor
open Go.RowKit

theorem val_put {B : Nat} : ∀ {l : List Nat} {i d : Nat}, i < l.length → val B (l.set i d) + B ^ i * l.getD i 0 = val B l + B ^ i * d
  | x :: r, 0, d, _ => by simp [val]; omega
  | x :: r, i + 1, d, h => by
    have ih := val_put (B := B) (l := r) (i := i) (d := d) (by simpa using h)
    have e1 : B ^ (i + 1) * r.getD i 0 = B * (B ^ i * r.getD i 0) := by rw [Nat.pow_succ, Nat.mul_comm (B ^ i) B, Nat.mul_assoc]
    have e2 : B ^ (i + 1) * d = B * (B ^ i * d) := by rw [Nat.pow_succ, Nat.mul_comm (B ^ i) B, Nat.mul_assoc]
    simp only [List.set_cons_succ, val, List.getD_cons_succ]
    rw [e1, e2]
    have ih2 : B * (val B (r.set i d) + B ^ i * r.getD i 0) = B * (val B r + B ^ i * d) := by rw [ih]
    rw [Nat.mul_add, Nat.mul_add] at ih2
    omega

theorem digs_set {B : Nat} {l : List Nat} (h : Digs B l) (i : Nat) {d : Nat} (hd : d < B) : Digs B (l.set i d) := fun x hx => by
  rcases List.mem_or_eq_of_mem_set hx with h1 | h1
  · exact h x h1
  · omega

/-- One digit of the inner loop. -/
theorem mul_step {b zs : List Nat} {i j c x y z P : Nat} (hj : i + j < zs.length) (h : val 4294967296 zs + 4294967296 ^ (i + j) * c = P + 4294967296 ^ i * (x * val 4294967296 (b.take j))) (hz : zs.getD (i + j) 0 = z) (hy : b.getD j 0 = y) :
    val 4294967296 (zs.set (i + j) ((c + (x * y + z)) % 4294967296)) + 4294967296 ^ (i + (j + 1)) * ((c + (x * y + z)) / 4294967296) = P + 4294967296 ^ i * (x * val 4294967296 (b.take (j + 1))) := by
  have h1 := val_put (B := 4294967296) (d := (c + (x * y + z)) % 4294967296) hj
  rw [hz] at h1
  have h2 := carry_step (4294967296 ^ (i + j)) 4294967296 (c + (x * y + z))
  rw [← Nat.pow_succ] at h2
  have e : i + (j + 1) = (i + j).succ := rfl
  rw [e, val_take_succ, hy]
  rw [Nat.mul_add, Nat.mul_add] at h2
  have e3 : 4294967296 ^ i * (x * (val 4294967296 (b.take j) + 4294967296 ^ j * y)) = 4294967296 ^ i * (x * val 4294967296 (b.take j)) + 4294967296 ^ (i + j) * (x * y) := by
    rw [Nat.mul_add, Nat.mul_add, Nat.pow_add]
    congr 1
    rw [Nat.mul_left_comm x, ← Nat.mul_assoc]
  rw [e3]
  omega

/-- The end of a row. -/
theorem mul_row {a b zs : List Nat} {i c x : Nat} (hi : i + b.length < zs.length) (h : val 4294967296 zs + 4294967296 ^ (i + b.length) * c = val 4294967296 (a.take i) * val 4294967296 b + 4294967296 ^ i * (x * val 4294967296 b)) (hz : zs.getD (i + b.length) 0 = 0) (hx : a.getD i 0 = x) :
    val 4294967296 (zs.set (i + b.length) c) = val 4294967296 (a.take (i + 1)) * val 4294967296 b := by
  have h1 := val_put (B := 4294967296) (d := c) hi
  rw [hz, Nat.mul_zero, Nat.add_zero] at h1
  rw [h1, h, val_take_succ, hx, Nat.add_mul, Nat.mul_assoc]

theorem mul_top {a b zs : List Nat} {i : Nat} (ha : Digs 4294967296 a) (hb : Digs 4294967296 b) (hz : Digs 4294967296 zs) (h : val 4294967296 zs = val 4294967296 (a.take i) * val 4294967296 b) : zs.getD (i + b.length) 0 = 0 := by
  rw [← dig_val (by omega) hz, h]
  unfold dig
  have h1 : val 4294967296 (a.take i) < 4294967296 ^ i := by
    have := val_lt (by omega) (ha.take i)
    exact Nat.lt_of_lt_of_le this (Nat.pow_le_pow_right (by omega) (by rw [List.length_take]; omega))
  have h2 := val_lt (by omega) hb
  have h3 : val 4294967296 (a.take i) * val 4294967296 b < 4294967296 ^ (i + b.length) := by
    rw [Nat.pow_add]
    exact Nat.mul_lt_mul'' h1 h2
  rw [Nat.div_eq_of_lt h3]

theorem getD_set_ne {l : List Nat} {i j d : Nat} (h : i ≠ j) : (l.set i d).getD j 0 = l.getD j 0 := by
  rw [List.getD_eq_getElem?_getD, List.getD_eq_getElem?_getD, List.getElem?_set_ne h]

theorem mul_bound (c x y z : Nat) (hc : c < 4294967296) (hx : x < 4294967296) (hy : y < 4294967296) (hz : z < 4294967296) : x * y ≤ 18446744065119617025 ∧ c + (x * y + z) < 18446744073709551616 := by
  have h : x * y ≤ 4294967295 * 4294967295 := Nat.mul_le_mul (by omega) (by omega)
  omega

set_option maxRecDepth 100000 in
set_option maxHeartbeats 800000 in
theorem rMul (u v : Value) (A B : Nat) (w : World) (hu : IsBig w u A) (hv : IsBig w v B) (hla : dlen A ≤ 100000000) (hlb : dlen B ≤ 100000000) :
    Calls Tryz.prog 36 #[u, v] w fun r w' => ∃ v', r = .returned v' ∧ IsBig w' v' (A * B) ∧ (∀ b, v'.ownBlock = some b → w.heap.size ≤ b) ∧ Kept Nought w w' := by
  obtain ⟨i0, hi0, hz0, hz1, hz2⟩ := info_parts Tryz.info62
  obtain ⟨a, ra, da, ta, rfl, la⟩ := hu
  obtain ⟨b, rb, db, tb, rfl, lb⟩ := hv
  have la' : a.length ≤ 100000000 := by rw [len_dlen da ta]; exact hla
  have lb' : b.length ≤ 100000000 := by rw [len_dlen db tb]; exact hlb
  have xa := fun i => da.getD (by omega) i
  have xb := fun i => db.getD (by omega) i
  obtain ⟨ao, n, ac, rfl, hN, _, _, _, hA⟩ := ra.open
  obtain ⟨bo, m, bc, rfl, hM, _, _, _, hB⟩ := rb.open
  rw [hN.out] at la'
  rw [hM.out] at lb'
  clear ra rb la lb ta tb hla hlb
  go_enter Tryz.func36, Tryz.ntmps36
  go_wp2_with (at_make; refine wpList_make_full _ rfl _ _ 36 rfl w.heap.size 62 i0 _ 1 Tryz.underlying36 hi0 hz0 hz1 _ _ _ _ (n + m) rfl rfl (by omega) (by omega) (by rw [hz2]; omega) (by unfold maxLen; omega) (Nat.le_refl _) ?_; intro w1 ho1 hg1)
  rw [zeros_map] at ho1
  have k1 := grown_kept hg1
  clear hg1
  go_loopw [19] (fun i wr => ∃ (k : Nat) (zs : List Nat), k ≤ n ∧ i = .int .i64 k ∧ Hid (zs.length = n + m) ∧ Digs 4294967296 zs ∧ Hid (val 4294967296 zs = val 4294967296 (a.take k) * val 4294967296 b) ∧ OwnN .u32 62 wr w.heap.size (.slice (some ⟨w.heap.size, 0, none⟩) (n + m) (n + m)) (n + m) zs ∧ Kept Nought w wr) (fun i _ => n - (intOf i).toNat)
  case atStart => exact ⟨0, List.replicate (n + m) 0, Nat.zero_le _, rfl, List.length_replicate, (fun d hd => by simp at hd; omega), by unfold Hid; rw [val_zeros _ (fun d hd => by simp at hd; exact hd.2)]; simp [val], ho1, k1⟩
  case round =>
    clear ho1 k1
    obtain ⟨i, zs, hk, rfl, hzl, hzd, hzv, ho, hkp⟩ := hrel
    by_cases hlt : i < n
    · obtain ⟨ba, oa, rfl, ca⟩ := (hA i hlt).grew hkp
      have htop : Hid (zs.getD (i + m) 0 = 0) := by have := mul_top (i := i) da db hzd hzv.out; rw [hM.out] at this; exact this
      have hx := xa i
      have HX : Hid (∀ zs' c, i + b.length < zs'.length → val 4294967296 zs' + 4294967296 ^ (i + b.length) * c = val 4294967296 (a.take i) * val 4294967296 b + 4294967296 ^ i * (a.getD i 0 * val 4294967296 b) → zs'.getD (i + b.length) 0 = 0 → val 4294967296 (zs'.set (i + b.length) c) = val 4294967296 (a.take (i + 1)) * val 4294967296 b) := fun zs' c h1 h2 h3 => mul_row h1 h2 h3 rfl
      have hP := hzv.out
      clear hA xa
      generalize a.getD i 0 = x at *
      have g1 : (i : Int) < (n : Int) := by omega
      go_wp2_with fail
      go_loopw [8, 26] (fun cc jj wr => ∃ (j c : Nat) (zs : List Nat), j ≤ m ∧ jj = .int .i64 j ∧ cc = .int .u64 (c : Nat) ∧ c < 4294967296 ∧ Hid (zs.length = n + m) ∧ Digs 4294967296 zs ∧ Hid (zs.getD (i + m) 0 = 0) ∧
          Hid (val 4294967296 zs + 4294967296 ^ (i + j) * c = val 4294967296 (a.take i) * val 4294967296 b + 4294967296 ^ i * (x * val 4294967296 (b.take j))) ∧ OwnN .u32 62 wr w.heap.size (.slice (some ⟨w.heap.size, 0, none⟩) (n + m) (n + m)) (n + m) zs ∧ Kept Nought w wr) (fun _ jj _ => m - (intOf jj).toNat)
      case atStart => exact ⟨0, 0, zs, Nat.zero_le _, rfl, rfl, by omega, hzl, hzd, htop, by unfold Hid; rw [hP]; simp [val], ho, hkp⟩
      case round =>
        clear ho hkp hzd hzl hzv htop ca hP
        obtain ⟨j, c, zs, hj, rfl, rfl, hc, hzl, hzd, htop, hzv, ho, hkp⟩ := hrel
        by_cases hlj : j < m
        · obtain ⟨bb, ob, rfl, cb⟩ := (hB j hlj).grew hkp
          have hy := xb j
          have hz := hzd.getD (by omega) (i + j)
          have hst := mul_step (b := b) (x := x) (show i + j < zs.length by have := hzl.out; omega) hzv.out rfl rfl
          have hcell : wr.cell? ⟨w.heap.size, i + j, none⟩ = some (.int .u32 ((zs.getD (i + j) 0 : Nat) : Int)) := by
            rw [World.ownsRow.cellAt ho (i + j) (by omega), List.getElem?_map, List.getD_eq_getElem?_getD, List.getElem?_eq_getElem (by have := hzl.out; omega)]
            rfl
          have hf := World.ownsRow.frozenAt ho (i + j)
          have hsto := fun u => (World.ownsRow.stored ho (i + j) u).1
          have htop2 : ∀ d, Hid ((zs.set (i + j) d).getD (i + m) 0 = 0) := fun d => by unfold Hid; rw [getD_set_ne (by omega)]; exact htop.out
          clear hB xb hzv htop
          generalize b.getD j 0 = y at *
          generalize zs.getD (i + j) 0 = z at *
          obtain ⟨m1, m2⟩ := mul_bound c x y z hc hx hy hz
          have HS : Hid (val 4294967296 (zs.set (i + j) ((c + (x * y + z)) % 4294967296)) + 4294967296 ^ (i + (j + 1)) * ((c + (x * y + z)) / 4294967296) = val 4294967296 (a.take i) * val 4294967296 b + 4294967296 ^ i * (x * val 4294967296 (b.take (j + 1)))) := hst
          clear hst
          obtain ⟨q, hq⟩ : ∃ q, q = x * y := ⟨_, rfl⟩
          have hq' : (x : Int) * (y : Int) = (q : Int) := by rw [hq]; simp
          rw [← hq] at m1 m2 HS
          have e1 : Hid (((c : Int) + ((q : Int) + (z : Int))) % 4294967296 = (((c + (q + z)) % 4294967296 : Nat) : Int)) := by unfold Hid; omega
          have e2 : Hid (((c : Int) + ((q : Int) + (z : Int))) / 4294967296 = (((c + (q + z)) / 4294967296 : Nat) : Int)) := by unfold Hid; omega
          clear hq
          have g2 : (j : Int) < (m : Int) := by omega
          have g3 : (i : Int) + (j : Int) < (n : Int) + (m : Int) := by omega
          have g4 : (0 : Int) ≤ (i : Int) + (j : Int) := by omega
          go_wp2_with fail
          rw [e1.out, e2.out]
          go_roundw
          case rel =>
            refine ⟨j + 1, (c + (q + z)) / 4294967296, zs.set (i + j) ((c + (q + z)) % 4294967296), by omega, by go_num, rfl, by omega, by unfold Hid; rw [List.length_set]; exact hzl.out, digs_set hzd _ (Nat.mod_lt _ (by omega)), htop2 _, HS, ?_, hkp.setCell _ (fun h => by simp at h) _⟩
            unfold OwnN
            rw [List.map_set]
            exact hsto _
          case measure => simp [intOf]; omega
        · have ej : j = m := by omega
          have hst := HX.out zs c (by have := hzl.out; have := hM.out; omega) (by rw [hM.out]; have h := hzv.out; rw [ej, show b.take m = b from List.take_of_length_le (by have := hM.out; omega)] at h; exact h) (by rw [hM.out]; exact htop.out)
          rw [hM.out] at hst
          have HS : Hid (val 4294967296 (zs.set (i + m) c) = val 4294967296 (a.take (i + 1)) * val 4294967296 b) := hst
          have hcell : wr.cell? ⟨w.heap.size, i + m, none⟩ = some (.int .u32 0) := by
            have h0 := htop.out
            rw [List.getD_eq_getElem?_getD, List.getElem?_eq_getElem (by have := hzl.out; omega)] at h0
            rw [World.ownsRow.cellAt ho (i + m) (by omega), List.getElem?_map, List.getElem?_eq_getElem (by have := hzl.out; omega)]
            simp only [Option.getD_some] at h0
            rw [Option.map_some, h0]
            rfl
          have hf := World.ownsRow.frozenAt ho (i + m)
          have hsto := fun u => (World.ownsRow.stored ho (i + m) u).1
          clear hB xb hzv htop hst HX ej
          have g2 : ¬ (j : Int) < (m : Int) := by omega
          have g3 : (i : Int) + (m : Int) < (n : Int) + (m : Int) := by omega
          have g4 : (0 : Int) ≤ (i : Int) + (m : Int) := by omega
          go_wp2
          go_roundw
          case rel =>
            refine ⟨i + 1, zs.set (i + m) c, by omega, by go_num, by unfold Hid; rw [List.length_set]; exact hzl.out, digs_set hzd _ hc, HS, ?_, hkp.setCell _ (fun h => by simp at h) _⟩
            unfold OwnN
            rw [List.map_set]
            exact hsto _
          case measure => simp [intOf]; omega
    · have g1 : ¬ (i : Int) < (n : Int) := by omega
      have hv : val 4294967296 zs = val 4294967296 a * val 4294967296 b := by
        rw [hzv.out, List.take_of_length_le (by have := hN.out; omega)]
      have hr : Row .u32 wr _ zs := Row.of_own (base := w.heap.size) (e := 62) (by rw [hzl.out]; exact ho)
      have ht := rTrimBig _ _ _ hr hzd (by have := hzl.out; omega)
      rw [hv] at ht
      clear hA hB xa xb hv hr
      go_wp2_with fail
      refine ht.mono ?_
      rintro e w' ⟨v', rfl, hb, ho', rfl⟩
      go_wp2
      go_ret
      exact ⟨v', rfl, hb, fun b hb' => by rw [ho'] at hb'; exact (ho.lt b hb').1, hkp⟩

end Go.Proofs.YtldbfcifoijliaaGreatDoor

/- The plain shifts. -/
namespace Go.Proofs.YtldbfcifoijliaaGreatDoor
open Go.RowKit

theorem shl_step {a os : List Nat} {k c x s : Nat} (hl : os.length = k) (h : val 4294967296 os + 4294967296 ^ k * c = s * val 4294967296 (a.take k)) (hx : a.getD k 0 = x) :
    val 4294967296 (os ++ [(c + x * s) % 4294967296]) + 4294967296 ^ (k + 1) * ((c + x * s) / 4294967296) = s * val 4294967296 (a.take (k + 1)) := by
  rw [val_snoc, hl, val_take_succ, hx, Nat.pow_succ, Nat.add_assoc, carry_step, Nat.mul_add, Nat.mul_add]
  rw [← h]
  have e : 4294967296 ^ k * (x * s) = s * (4294967296 ^ k * x) := by rw [← Nat.mul_assoc, Nat.mul_comm]
  omega

theorem or_shl (c x n : Nat) (hn : n < 32) (hc : c < 2 ^ n) (hx : x < 4294967296) : bits .or .u64 (c : Int) ((x : Int) * 2 ^ n) = ((c + x * 2 ^ n : Nat) : Int) := by
  have hp : (2 : Nat) ^ n ≤ 2 ^ 31 := Nat.pow_le_pow_right (by omega) (by omega)
  have hm : x * 2 ^ n ≤ 4294967295 * 2 ^ 31 := Nat.mul_le_mul (by omega) hp
  have h := u64_or_nat c (x * 2 ^ n) (by omega) (by omega)
  have hj := nat_join n (x * 2 ^ n) c (Nat.mul_mod_left _ _) hc
  rw [Nat.or_comm, hj] at h
  have e1 : (x : Int) * 2 ^ n = ((x * 2 ^ n : Nat) : Int) := by simp
  rw [e1, h]
  omega

theorem shl_carry (c x n : Nat) (hc : c < 2 ^ n) (hx : x < 4294967296) : (c + x * 2 ^ n) / 4294967296 < 2 ^ n := by
  rw [Nat.div_lt_iff_lt_mul (by omega)]
  have h : x * 2 ^ n ≤ 4294967295 * 2 ^ n := Nat.mul_le_mul_right _ (by omega)
  omega

theorem or_shl_wrap (c x n : Nat) (hn : n < 32) (hc : c < 2 ^ n) (hx : x < 4294967296) : bits .or .u64 (c : Int) (IntKind.u64.wrap ((x : Int) * 2 ^ n)) = ((c + x * 2 ^ n : Nat) : Int) := by
  have hp : (2 : Nat) ^ n ≤ 2 ^ 31 := Nat.pow_le_pow_right (by omega) (by omega)
  have hm : x * 2 ^ n ≤ 4294967295 * 2 ^ 31 := Nat.mul_le_mul (by omega) hp
  have e1 : (x : Int) * 2 ^ n = ((x * 2 ^ n : Nat) : Int) := by simp
  have e2 : IntKind.u64.wrap ((x : Int) * 2 ^ n) = (x : Int) * 2 ^ n := by
    rw [IntKind.wrap_u64, e1]
    generalize x * 2 ^ n = t at *
    omega
  rw [e2]
  exact or_shl c x n hn hc hx

theorem shl_lt (c x n : Nat) (hn : n < 32) (hc : c < 2 ^ n) (hx : x < 4294967296) : c + x * 2 ^ n < 9223372036854775808 := by
  have hp : (2 : Nat) ^ n ≤ 2 ^ 31 := Nat.pow_le_pow_right (by omega) (by omega)
  have hm : x * 2 ^ n ≤ 4294967295 * 2 ^ 31 := Nat.mul_le_mul (by omega) hp
  omega

/-- make with a length and more room. -/
theorem wpList_make_room {P : Program} (w : World) {ops : Array Oper} {rest : List Oper} {o : Oper} {a : Act} {Q : Exit → Act → World → Prop}
    (hg : o.guard = none) (l c : Operand) (t : TypeId) (hop : o.op = Op.makeSlice t l c)
    (e : TypeId) (i : TypeInfo) (k : IntKind) (h1 : P.underlying t = some (.slice e)) (h2 : P.info? e = some i) (h3 : i.zero = some (.int k 0)) (h4 : i.size = 1)
    (kl kc : IntKind) (L C : Int) (n m : Nat) (hl : a.eval l = .int kl L) (hc : a.eval c = .int kc C) (hL : L = (n : Int)) (hC : C = (m : Int)) (hnm : n ≤ m) (b2 : i.bytes * m ≤ 281474976710656) (b3 : m ≤ maxLen)
    (hK : ∀ w', OwnN k e w' w.heap.size (.slice (some ⟨w.heap.size, 0, none⟩) n m) n (List.replicate n 0) → Kept Nought w w' → wpList P ops Q rest (a.put o.dst (.slice (some ⟨w.heap.size, 0, none⟩) n m)) w') :
    wpList P ops Q (o :: rest) a w := by
  refine wpList_plain hg fun K hK' => ?_
  have b3' : (m : Int) ≤ 9223372036854775807 := by unfold maxLen at b3; omega
  have hb' : (i.bytes : Int) * (m : Int) ≤ 281474976710656 := by
    have h : ((i.bytes * m : Nat) : Int) ≤ 281474976710656 := by omega
    rwa [Int.natCast_mul] at h
  have hr := run_make (P := P) w t e i (.int k 0) h1 h2 h3 kl kc n m (by omega) (by omega) hb' b3'
  simp only [Int.toNat_natCast] at hr
  subst hL
  subst hC
  unfold Oper.wp
  simp [execOp, hop, hl, hc, hr, Result.andThen]
  refine hK' _ _ (hK _ ?_ ((Kept.refl Nought w).alloc _))
  refine ⟨by simp, .inr ⟨w.heap.size, m, _, rfl, Nat.le_refl _, Go.heap_alloc_new w _, hnm, b3, ?_, ?_⟩⟩
  · rw [size_madeCells, h4]
  · rw [h4, Nat.mul_one, Nat.mul_one, List.map_replicate]
    show (madeCells #[Value.int k 0] m).toList.take n = _
    rw [toList_madeCells_one, List.take_replicate, Nat.min_eq_left hnm]
    rfl

theorem val_pad (n : Nat) (os : List Nat) : val 4294967296 (List.replicate n 0 ++ os) = 4294967296 ^ n * val 4294967296 os := by
  rw [val_append, val_zeros 4294967296 (l := List.replicate n 0) (fun d hd => by simp at hd; exact hd.2), List.length_replicate]
  omega

set_option maxRecDepth 100000 in
set_option maxHeartbeats 800000 in
theorem rShlOwn (v : Value) (A n : Nat) (w : World) (hv : IsBig w v A) (hlen : dlen A ≤ 100000000) (hn : n ≤ 1000000000) :
    Calls Tryz.prog 78 #[v, .int .i64 n] w fun r w' => ∃ v', r = .returned v' ∧ OwnBig w' w.heap.size v' (2 ^ n * A) ∧ Kept Nought w w' := by
  obtain ⟨i0, hi0, hz0, hz1, hz2⟩ := info_parts Tryz.info62
  obtain ⟨a, ra, da, ta, rfl, la⟩ := hv
  have la' : a.length ≤ 100000000 := by rw [len_dlen da ta]; exact hlen
  have xa := fun i => da.getD (by omega) i
  obtain ⟨ao, m, ac, rfl, hM, _, _, _, h4⟩ := ra.open
  rw [hM.out] at la'
  clear ra la hlen da ta
  obtain ⟨q, hq⟩ : ∃ q, q = n / 32 := ⟨_, rfl⟩
  obtain ⟨s, hs⟩ : ∃ s, s = n % 32 := ⟨_, rfl⟩
  have hs32 : s < 32 := by omega
  have hq' : q ≤ 100000000 := by omega
  have HE : Hid (2 ^ n = 4294967296 ^ q * 2 ^ s) := by
    unfold Hid
    rw [show (4294967296 : Nat) ^ q = 2 ^ (32 * q) from by rw [Nat.pow_mul], ← Nat.pow_add]
    congr 1; omega
  have n0 : (n : Int) / 32 = (q : Int) := by omega
  have n1 : (n : Int) % 32 = (s : Int) := by omega
  have n2 : n % 32 = s := hs.symm
  have n3 : n / 32 = q := hq.symm
  clear hq hs
  have HR : Hid (4294967296 ^ q * (2 ^ s * val 4294967296 a) = 2 ^ n * val 4294967296 a) := by unfold Hid; rw [HE.out, Nat.mul_assoc]
  clear HE
  go_enter Tryz.func78, Tryz.ntmps78
  go_wp2_with (at_make; refine wpList_make_room _ rfl _ _ 36 rfl 62 i0 .u32 Tryz.underlying36 hi0 hz0 hz1 _ _ _ _ q (q + m + 1) rfl rfl (by omega) (by omega) (by omega) (by rw [hz2]; omega) (by unfold maxLen; omega) ?_; intro w1 ho1 k1)
  go_loopw [5, 6, 20] (fun o c i wr => ∃ (k c' : Nat) (os : List Nat), k ≤ m ∧ Hid (c' < 2 ^ s) ∧ c' < 4294967296 ∧ i = .int .i64 k ∧ c = .int .u64 (c' : Nat) ∧ Hid (os.length = k) ∧ Digs 4294967296 os ∧ OwnN .u32 62 wr w.heap.size o (q + k) (List.replicate q 0 ++ os) ∧ Kept Nought w wr ∧
      Hid (val 4294967296 os + 4294967296 ^ k * c' = 2 ^ s * val 4294967296 (a.take k))) (fun _ _ i _ => m - (intOf i).toNat)
  case atStart => exact ⟨0, 0, [], Nat.zero_le _, Nat.pow_pos (by omega), by omega, rfl, rfl, rfl, Digs.nil _, by rw [List.append_nil]; exact ho1, k1, by unfold Hid; simp [val]⟩
  case round =>
    clear ho1 k1
    obtain ⟨k, c, os, hk, hc, hc', rfl, rfl, HL, hod, ho, hkp, HV⟩ := hrel
    by_cases hlt : k < m
    · obtain ⟨b, off, rfl, hcell⟩ := (h4 k hlt).grew hkp
      have hx := xa k
      have HS : Hid (val 4294967296 (os ++ [(c + a.getD k 0 * 2 ^ s) % 4294967296]) + 4294967296 ^ (k + 1) * ((c + a.getD k 0 * 2 ^ s) / 4294967296) = 2 ^ s * val 4294967296 (a.take (k + 1))) := shl_step HL.out HV.out rfl
      have HO := or_shl_wrap c _ s hs32 hc.out hx
      have HC : Hid ((c + a.getD k 0 * 2 ^ s) / 4294967296 < 2 ^ s) := shl_carry c _ s hc.out hx
      have hT := shl_lt c _ s hs32 hc.out hx
      clear xa h4 HV
      generalize a.getD k 0 = x at *
      generalize c + x * 2 ^ s = T at *
      have g1 : (k : Int) < (m : Int) := by omega
      have e1 : Hid ((T : Int) % 4294967296 = ((T % 4294967296 : Nat) : Int)) := by unfold Hid; omega
      have e2 : Hid ((T : Int) / 4294967296 = ((T / 4294967296 : Nat) : Int)) := by unfold Hid; omega
      go_wp2_with (at_builtin; refine wpList_append_lies _ rfl _ _ 36 rfl w.heap.size 62 i0 _ 1 4 Tryz.underlying36 hi0 hz0 hz1 hz2 rfl (by omega) _ _ _ rfl (ho.alloc _) ⟨wr.heap.size, 0, none⟩ 1 1 [.int .u32 ((T : Int) % 4294967296)] rfl rfl (new1_cells wr _ _) (by simp [Value.oneCell']) (by omega) (by unfold maxLen; omega) (by omega) (by have := hkp.size; simp; omega) (wr.heap.size + 1) (by simp) ?_; intro gg c' w4 ho4 hg hat hgl)
      have hk5 : Kept Nought w w4 := (hkp.alloc _).grown hg (fun b hb hlt => by have := (ho.lt b hb).1; omega)
      rw [e1.out] at ho4
      rw [e2.out]
      go_roundw
      case rel => exact ⟨k + 1, T / 4294967296, os ++ [T % 4294967296], by omega, HC, by omega, by go_num, rfl, by unfold Hid; rw [List.length_append, HL.out]; rfl, hod.append (Digs.one (Nat.mod_lt _ (by omega))), by unfold OwnN; rw [← List.append_assoc, List.map_append]; exact ho4, hk5, HS⟩
      case measure => simp [intOf]; omega
    · have g1 : ¬ (k : Int) < (m : Int) := by omega
      have hv2 : Hid (val 4294967296 (List.replicate q 0 ++ (os ++ [c])) = 2 ^ n * val 4294967296 a) := by
        unfold Hid
        have := HV.out
        rw [List.take_of_length_le (by have := hM.out; omega)] at this
        rw [val_pad, val_snoc, HL.out, this]
        exact HR.out
      clear xa h4 HV HR
      go_wp2_with (at_builtin; refine wpList_append_lies _ rfl _ _ 36 rfl w.heap.size 62 i0 _ 1 4 Tryz.underlying36 hi0 hz0 hz1 hz2 rfl (by omega) _ _ _ rfl (ho.alloc _) ⟨wr.heap.size, 0, none⟩ 1 1 [.int .u32 (c : Int)] rfl rfl (new1_cells wr _ _) (by simp [Value.oneCell']) (by omega) (by unfold maxLen; omega) (by omega) (by have := hkp.size; simp; omega) (wr.heap.size + 1) (by simp) ?_; intro gg c' w4 ho4 hg hat hgl)
      have hk5 : Kept Nought w w4 := (hkp.alloc _).grown hg (fun b hb hlt => by have := (ho.lt b hb).1; omega)
      have hl5 : (List.replicate q 0 ++ (os ++ [c])).length = q + k + 1 := by rw [List.length_append, List.length_append, HL.out, List.length_replicate]; simp; omega
      have hd5 : Digs 4294967296 (List.replicate q 0 ++ (os ++ [c])) := Digs.append (fun d hd => by simp at hd; omega) (hod.append (Digs.one (by omega)))
      have ho5 : OwnN .u32 62 w4 w.heap.size (.slice (some ⟨gg, 0, none⟩) (q + k + 1) c') (q + k + 1) (List.replicate q 0 ++ (os ++ [c])) := by unfold OwnN; rw [← List.append_assoc, List.map_append]; exact ho4
      have ht := rTrimOwn _ _ _ _ _ ho5 hd5 (by omega)
      rw [hv2.out] at ht
      clear ho5
      refine ht.mono ?_
      rintro e w' ⟨v', rfl, hb, rfl⟩
      go_wp2
      go_ret
      exact ⟨v', rfl, hb, hk5⟩

theorem own_lt {w : World} {base : Nat} {v : Value} {V : Nat} (h : OwnBig w base v V) : ∀ b, v.ownBlock = some b → base ≤ b := by
  obtain ⟨ds, ho, _⟩ := h
  exact fun b hb => (ho.lt b hb).1

theorem rShl (v : Value) (A n : Nat) (w : World) (hv : IsBig w v A) (hlen : dlen A ≤ 100000000) (hn : n ≤ 1000000000) :
    Calls Tryz.prog 78 #[v, .int .i64 n] w fun r w' => ∃ v', r = .returned v' ∧ IsBig w' v' (2 ^ n * A) ∧ (∀ b, v'.ownBlock = some b → w.heap.size ≤ b) ∧ Kept Nought w w' := by
  refine (rShlOwn v A n w hv hlen hn).mono ?_
  rintro r w' ⟨v', rfl, ho, hk⟩
  exact ⟨v', rfl, ho.big, own_lt ho, hk⟩

end Go.Proofs.YtldbfcifoijliaaGreatDoor

/- The plain shift down. -/
namespace Go.Proofs.YtldbfcifoijliaaGreatDoor
open Go.RowKit

theorem shr_digit (V q s k : Nat) (hs : s < 32) : dig 4294967296 (V / (4294967296 ^ q * 2 ^ s)) k = (dig 4294967296 V (q + k) + 4294967296 * dig 4294967296 V (q + k + 1)) / 2 ^ s % 4294967296 := by
  unfold dig
  have e1 : V / (4294967296 ^ q * 2 ^ s) / 4294967296 ^ k = V / 4294967296 ^ (q + k) / 2 ^ s := by
    rw [Nat.div_div_eq_div_mul, Nat.div_div_eq_div_mul, Nat.pow_add]
    congr 1
    rw [Nat.mul_assoc, Nat.mul_assoc, Nat.mul_comm (2 ^ s)]
  have e2 : V / 4294967296 ^ (q + k + 1) = V / 4294967296 ^ (q + k) / 4294967296 := by rw [Nat.div_div_eq_div_mul, ← Nat.pow_succ]
  rw [e1, e2]
  generalize V / 4294967296 ^ (q + k) = z
  have hp : 0 < 2 ^ s := Nat.pow_pos (by omega)
  obtain ⟨c, hc⟩ : ∃ c, (4294967296 : Nat) = 2 ^ s * c := ⟨2 ^ (32 - s), by rw [← Nat.pow_add, show s + (32 - s) = 32 by omega]⟩
  have hz : z = (z % 4294967296 + 4294967296 * (z / 4294967296 % 4294967296)) + 2 ^ s * (4294967296 * (c * (z / 4294967296 / 4294967296))) := by
    have : 2 ^ s * (4294967296 * (c * (z / 4294967296 / 4294967296))) = 4294967296 * (4294967296 * (z / 4294967296 / 4294967296)) := by
      calc 2 ^ s * (4294967296 * (c * (z / 4294967296 / 4294967296))) = (2 ^ s * c) * (4294967296 * (z / 4294967296 / 4294967296)) := by
            rw [Nat.mul_left_comm 4294967296 c, ← Nat.mul_assoc]
        _ = 4294967296 * (4294967296 * (z / 4294967296 / 4294967296)) := by rw [← hc]
    omega
  conv => lhs; rw [hz]
  rw [Nat.add_mul_div_left _ _ hp, Nat.add_mul_mod_self_left]

theorem shr_lt {V q s m : Nat} (h : V < 4294967296 ^ m) (hq : q ≤ m) : V / (4294967296 ^ q * 2 ^ s) < 4294967296 ^ (m - q) := by
  have hp : 0 < 4294967296 ^ q * 2 ^ s := Nat.mul_pos (Nat.pow_pos (by omega)) (Nat.pow_pos (by omega))
  rw [Nat.div_lt_iff_lt_mul hp]
  have e : 4294967296 ^ m = 4294967296 ^ (m - q) * 4294967296 ^ q := by rw [← Nat.pow_add, Nat.sub_add_cancel hq]
  have h2 : 4294967296 ^ (m - q) * 4294967296 ^ q * 1 ≤ 4294967296 ^ (m - q) * 4294967296 ^ q * 2 ^ s := Nat.mul_le_mul_left _ (Nat.pow_pos (by omega))
  rw [← Nat.mul_assoc]
  omega

set_option maxRecDepth 100000 in
set_option maxHeartbeats 800000 in
theorem rShr (v : Value) (A n : Nat) (w : World) (hv : IsBig w v A) (hn : n ≤ 1000000000000) :
    Calls Tryz.prog 80 #[v, .int .i64 n] w fun r w' => ∃ v', r = .returned v' ∧ IsBig w' v' (A / 2 ^ n) ∧ (∀ b, v'.ownBlock = some b → w.heap.size ≤ b) ∧ Kept Nought w w' := by
  obtain ⟨i0, hi0, hz0, hz1, hz2⟩ := info_parts Tryz.info62
  obtain ⟨a, ra, da, ta, rfl, la⟩ := hv
  have hlt := val_lt (by omega) da
  have hV : ∀ i, a.getD i 0 = dig 4294967296 (val 4294967296 a) i := fun i => (dig_val (by omega) da i).symm
  have HD := fun i W (hk : Kept Nought w W) => rDigit v a i W (ra.grew hk)
  obtain ⟨ao, m, ac, rfl, hM, _, _, _, h4⟩ := ra.open
  rw [hM.out] at la hlt
  unfold NumAt at h4
  simp only [hV] at HD h4
  have xa : ∀ i, dig 4294967296 (val 4294967296 a) i < 4294967296 := fun i => Nat.mod_lt _ (by omega)
  clear ra da ta hV
  generalize val 4294967296 a = V at *
  obtain ⟨q, hq⟩ : ∃ q, q = n / 32 := ⟨_, rfl⟩
  obtain ⟨s, hs⟩ : ∃ s, s = n % 32 := ⟨_, rfl⟩
  have hs32 : s < 32 := by omega
  have HE : 2 ^ n = 4294967296 ^ q * 2 ^ s := by
    rw [show (4294967296 : Nat) ^ q = 2 ^ (32 * q) from by rw [Nat.pow_mul], ← Nat.pow_add]
    congr 1; omega
  rw [HE]
  have hdig := fun k => shr_digit V q s k hs32
  have hfin : Hid (q ≤ m → V / (4294967296 ^ q * 2 ^ s) < 4294967296 ^ (m - q)) := fun h => shr_lt hlt h
  have hfin2 : Hid (m < q → V / (4294967296 ^ q * 2 ^ s) = 0) := fun h => by
    apply Nat.div_eq_of_lt
    have h1 : (4294967296 : Nat) ^ m ≤ 4294967296 ^ q := Nat.pow_le_pow_right (by omega) (by omega)
    have h2 : 4294967296 ^ q * 1 ≤ 4294967296 ^ q * 2 ^ s := Nat.mul_le_mul_left _ (Nat.pow_pos (by omega))
    omega
  have n0 : (n : Int) / 32 = (q : Int) := by omega
  have n1 : (n : Int) % 32 = (s : Int) := by omega
  have n2 : n % 32 = s := hs.symm
  have n3 : n / 32 = q := hq.symm
  have hq' : q ≤ 100000000000 := by omega
  clear hq hs HE hlt
  generalize V / (4294967296 ^ q * 2 ^ s) = R at *
  go_enter Tryz.func80, Tryz.ntmps80
  go_wp2_with fail
  go_loopw [5, 6] (fun o i wr => ∃ (k : Nat), (k = 0 ∨ q + k ≤ m) ∧ i = .int .i64 ((q + k : Nat) : Int) ∧ OwnN .u32 62 wr w.heap.size o k (digs 4294967296 R k) ∧ Kept Nought w wr) (fun _ i _ => m - (intOf i).toNat)
  case atStart => exact ⟨0, .inl rfl, rfl, World.ownsRow_nil _ _ _ _, Kept.refl _ _⟩
  case round =>
    obtain ⟨k, hk, rfl, ho, hkp⟩ := hrel
    by_cases hlt : q + k < m
    · obtain ⟨b, off, rfl, hcell⟩ := h4 (q + k) hlt
      have hcell := hkp.cellN hcell
      have hD := fun W (hk : Kept Nought w W) => HD (q + k + 1) W hk
      have hx := xa (q + k)
      have hy := xa (q + k + 1)
      have HO := or_join32 _ _ hx hy
      have hdk := hdig k
      clear xa h4 hdig HD
      generalize dig 4294967296 V (q + k) = x at *
      generalize dig 4294967296 V (q + k + 1) = y at *
      have hT : x + 4294967296 * y < 18446744073709551616 := by omega
      generalize x + 4294967296 * y = T at *
      obtain ⟨j, hj⟩ : ∃ j, j = q + k := ⟨_, rfl⟩
      rw [← hj] at hcell hD ⊢
      have hj1 : (j : Int) < (m : Int) := by omega
      have hj0 : (0 : Int) ≤ (j : Int) := Int.natCast_nonneg _
      have HJ : Hid (j = q + k) := hj
      rw [show ((j + 1 : Nat) : Int) = (j : Int) + 1 by omega] at hD
      have hjw : IntKind.i64.wrap ((j : Int) + 1) = (j : Int) + 1 := by rw [IntKind.wrap_i64]; omega
      have hle : (T : Int) / 2 ^ s = ((T / 2 ^ s : Nat) : Int) := by simp
      have HDK : Hid (dig 4294967296 R k = T / 2 ^ s % 4294967296) := hdk
      have HLE : Hid ((T : Int) / 2 ^ s % 4294967296 = ((T / 2 ^ s % 4294967296 : Nat) : Int)) := by unfold Hid; rw [hle]; omega
      clear hj hdk hle
      go_wp2_with fail
      go_quiet ((go_at_call 34; exact Calls.quiet_of_same (hD _ (hkp.drewN _))))
      have ho2 : OwnN .u32 62 (wr.drewN nq) w.heap.size _ k (digs 4294967296 R k) := ho
      have hk2 : Kept Nought w (wr.drewN nq) := hkp.drewN nq
      clear hD hcell
      generalize wr.drewN nq = W2 at *
      go_wp2_with (at_builtin; refine wpList_append_lies _ rfl _ _ 36 rfl w.heap.size 62 i0 _ 1 4 Tryz.underlying36 hi0 hz0 hz1 hz2 rfl (by omega) _ _ _ rfl (ho2.alloc _) ⟨W2.heap.size, 0, none⟩ 1 1 [.int .u32 ((T : Int) / 2 ^ s % 4294967296)] rfl rfl (new1_cells W2 _ _) (by simp [Value.oneCell']) (by omega) (by unfold maxLen; omega) (by omega) (by have := hk2.size; simp; omega) (W2.heap.size + 1) (by simp) ?_; intro gg c' w4 ho4 hg hat hgl)
      have hk5 : Kept Nought w w4 := (hk2.alloc _).grown hg (fun b hb hlt => by have := (ho2.lt b hb).1; omega)
      rw [HLE.out, ← HDK.out] at ho4
      go_roundw
      case rel => exact ⟨k + 1, .inr (by have := HJ.out; omega), by have := HJ.out; go_num, by unfold OwnN; rw [digs, List.map_append]; exact ho4, hk5⟩
      case measure => simp [intOf]; have := HJ.out; omega
    · have hk1 : ¬ ((q + k : Nat) : Int) < (m : Int) := by omega
      have hval : Hid (val 4294967296 (digs 4294967296 R k) = R) := by
        unfold Hid
        rw [val_digs]
        apply Nat.mod_eq_of_lt
        rcases Nat.lt_or_ge m q with h | h
        · have h0 := hfin2.out h
          rw [h0]
          exact Nat.pow_pos (by omega)
        · have h1 := hfin.out h
          have e : k = m - q := by omega
          rw [e]
          exact h1
      have hlk : k ≤ 1000000000 := by omega
      have hr : Row .u32 wr _ (digs 4294967296 R k) := Row.of_own (base := w.heap.size) (e := 62) (by rw [digs_length]; exact ho)
      have ht := rTrimBig _ _ _ hr (digs_digs (by omega) _ _) (by rw [digs_length]; exact hlk)
      rw [hval.out] at ht
      clear xa h4 hdig HD hr
      generalize q + k = j at *
      go_wp2_with fail
      refine ht.mono ?_
      rintro e w' ⟨v', rfl, hb, ho', rfl⟩
      go_wp2
      go_ret
      exact ⟨v', rfl, hb, fun b hb' => by rw [ho'] at hb'; exact (ho.lt b hb').1, hkp⟩

end Go.Proofs.YtldbfcifoijliaaGreatDoor

/- The plain quotient and rest by one digit. -/
namespace Go.Proofs.YtldbfcifoijliaaGreatDoor
open Go.RowKit

theorem or_low32 (r x : Nat) (hr : r < 4294967296) (hx : x < 4294967296) : bits .or .u64 ((r : Int) * 4294967296) (x : Int) = ((r * 4294967296 + x : Nat) : Int) := by
  have h := u64_or_nat (r * 4294967296) x (by omega) (by omega)
  rw [nat_join 32 (r * 4294967296) x (by omega) (by omega)] at h
  have e1 : (r : Int) * 4294967296 = ((r * 4294967296 : Nat) : Int) := by omega
  rw [e1, h]

theorem div_digit {r x d : Nat} (hd : 0 < d) (hr : r < d) (hx : x < 4294967296) : (r * 4294967296 + x) / d < 4294967296 := by
  rw [Nat.div_lt_iff_lt_mul hd]
  have : (r + 1) * 4294967296 ≤ d * 4294967296 := Nat.mul_le_mul_right _ (by omega)
  omega

theorem div_step {a qs : List Nat} {i r x d : Nat} (hi : i < a.length) (hx : a.getD i 0 = x) (h : d * val 4294967296 qs + r = val 4294967296 (a.drop (i + 1))) :
    d * val 4294967296 ((r * 4294967296 + x) / d :: qs) + (r * 4294967296 + x) % d = val 4294967296 (a.drop i) := by
  rw [List.drop_eq_getElem_cons hi]
  rw [List.getD_eq_getElem?_getD, List.getElem?_eq_getElem hi] at hx
  simp only [Option.getD_some] at hx
  simp only [val]
  rw [hx, ← h, Nat.mul_add]
  have e := Nat.div_add_mod (r * 4294967296 + x) d
  have e2 : d * (4294967296 * val 4294967296 qs) = 4294967296 * (d * val 4294967296 qs) := Nat.mul_left_comm ..
  rw [e2]
  omega

theorem div_set (i q : Nat) (qs : List Nat) : (List.replicate (i + 1) 0 ++ qs).set i q = List.replicate i 0 ++ (q :: qs) := by
  rw [List.replicate_succ', List.append_assoc, List.set_append_right _ _ (by simp)]
  simp

set_option maxRecDepth 100000 in
set_option maxHeartbeats 800000 in
theorem rDivSmall (v : Value) (A d : Nat) (w : World) (hv : IsBig w v A) (hd : 0 < d) (hd2 : d < 4294967296) :
    Calls Tryz.prog 77 #[v, .int .u32 d] w fun r w' => ∃ v1 v2, r = .returned (.tuple #[v1, v2]) ∧ IsBig w' v1 (A / d) ∧ IsBig w' v2 (A % d) ∧ (∀ b, v1.ownBlock = some b → w.heap.size ≤ b) ∧ (∀ b, v2.ownBlock = some b → w.heap.size ≤ b) ∧ Kept Nought w w' := by
  obtain ⟨i0, hi0, hz0, hz1, hz2⟩ := info_parts Tryz.info62
  obtain ⟨a, ra, da, ta, rfl, la⟩ := hv
  have xa := fun i => da.getD (by omega) i
  obtain ⟨ao, n, ac, rfl, hN, _, _, _, hA⟩ := ra.open
  rw [hN.out] at la
  clear ra da ta
  have hd' : (d : Int) ≠ 0 := by omega
  go_enter Tryz.func77, Tryz.ntmps77
  go_wp2_with (at_make; refine wpList_make_full _ rfl _ _ 36 rfl w.heap.size 62 i0 _ 1 Tryz.underlying36 hi0 hz0 hz1 _ _ _ _ n rfl rfl (by first | rfl | omega) (by first | rfl | omega) (by rw [hz2]; omega) (by unfold maxLen; omega) (Nat.le_refl _) ?_; intro w1 ho1 hg1)
  rw [zeros_map] at ho1
  have k1 := grown_kept hg1
  clear hg1
  go_loopw [7, 8] (fun rr i wr => ∃ (k r : Nat) (qs : List Nat), k ≤ n ∧ i = .int .i64 ((k : Int) - 1) ∧ rr = .int .u64 (r : Nat) ∧ r < d ∧ Hid (qs.length = n - k) ∧ Digs 4294967296 qs ∧ Hid (d * val 4294967296 qs + r = val 4294967296 (a.drop k)) ∧
      OwnN .u32 62 wr w.heap.size (.slice (some ⟨w.heap.size, 0, none⟩) n n) n (List.replicate k 0 ++ qs) ∧ Kept Nought w wr) (fun _ i _ => (intOf i + 1).toNat)
  case atStart => exact ⟨n, 0, [], Nat.le_refl _, rfl, rfl, hd, by unfold Hid; simp, Digs.nil _, by unfold Hid; rw [List.drop_of_length_le (by have := hN.out; omega)]; simp [val], by rw [List.append_nil]; exact ho1, k1⟩
  case round =>
    clear ho1 k1
    obtain ⟨k, r, qs, hk, rfl, rfl, hr, hql, hqd, hqv, ho, hkp⟩ := hrel
    cases k with
    | zero =>
      have hv0 := hqv.out
      rw [List.drop_zero] at hv0
      rw [List.replicate_zero, List.nil_append] at ho
      have hql0 : qs.length = n := by have := hql.out; omega
      have hrow : Row .u32 wr _ qs := Row.of_own (base := w.heap.size) (e := 62) (by rw [hql0]; exact ho)
      have ht := rTrimBig _ _ _ hrow hqd (by omega)
      have e1 : val 4294967296 a / d = val 4294967296 qs := by
        rw [← hv0, Nat.mul_add_div hd, Nat.div_eq_of_lt hr, Nat.add_zero]
      have e2 : val 4294967296 a % d = r := by rw [← hv0, Nat.mul_add_mod, Nat.mod_eq_of_lt hr]
      rw [← e1] at ht
      have E2 : Hid (val 4294967296 a % d = r) := e2
      clear hA xa hqv hv0 e1 e2 hrow
      go_wp2_with fail
      refine ht.mono ?_
      rintro e w' ⟨v1, rfl, hb1, ho1, rfl⟩
      have hS := rSmall r (by omega) w'
      go_wp2_with fail
      refine hS.mono ?_
      rintro e w2 ⟨v2, rfl, hb2, ho2, k2⟩
      go_wp2
      go_ret2
      exact ⟨v1, v2, rfl, hb1.grew k2, by rw [E2.out]; exact hb2, fun b hb' => by rw [ho1] at hb'; exact (ho.lt b hb').1, fun b hb' => Nat.le_trans hkp.size (ho2 b hb'), hkp.trans k2⟩
    | succ i =>
      obtain ⟨bb, off, rfl, hcell⟩ := (hA i (by omega)).grew hkp
      have hx := xa i
      have hst := div_step (d := d) (show i < a.length by have := hN.out; omega) rfl hqv.out
      have hcell2 : wr.cell? ⟨w.heap.size, i, none⟩ = some (.int .u32 0) := by
        rw [World.ownsRow.cellAt ho i (by omega), List.getElem?_map, List.getElem?_append_left (by simp), List.getElem?_replicate, if_pos (by omega)]
        rfl
      have hf := World.ownsRow.frozenAt ho i
      have hsto := fun u => (World.ownsRow.stored ho i u).1
      clear hA xa hqv
      generalize a.getD i 0 = x at *
      have hor := or_low32 r x (by omega) hx
      have hq := div_digit hd hr hx
      have hmod := Nat.mod_lt (r * 4294967296 + x) hd
      have HS : Hid (d * val 4294967296 ((r * 4294967296 + x) / d :: qs) + (r * 4294967296 + x) % d = val 4294967296 (a.drop i)) := hst
      clear hst
      have htb : r * 4294967296 + x < 18446744073709551616 := by omega
      generalize r * 4294967296 + x = t at *
      have g0 : (0 : Int) ≤ (i : Int) := Int.natCast_nonneg _
      have g1 : (i : Int) < (n : Int) := by omega
      have e1 : Hid (IntKind.u64.wrap ((t : Int) / (d : Int)) % 4294967296 = ((t / d : Nat) : Int)) := by
        unfold Hid
        rw [show (t : Int) / (d : Int) = ((t / d : Nat) : Int) by simp, IntKind.wrap_u64]
        clear HS
        generalize t / d = q at *
        omega
      have e2 : Hid ((t : Int) % (d : Int) = ((t % d : Nat) : Int)) := by unfold Hid; simp
      go_wp2_with fail
      rw [e1.out, e2.out]
      go_roundw
      case rel =>
        refine ⟨i, t % d, t / d :: qs, by omega, rfl, rfl, hmod, by unfold Hid; rw [List.length_cons, hql.out]; omega, fun y hy => ?_, HS, ?_, hkp.setCell _ (fun h => by simp at h) _⟩
        · rcases List.mem_cons.1 hy with h | h
          · omega
          · exact hqd y h
        · unfold OwnN
          rw [← div_set, List.map_set]
          exact hsto _
      case measure => simp [intOf]

end Go.Proofs.YtldbfcifoijliaaGreatDoor

/- The plain quotient's step: take. -/
namespace Go.Proofs.YtldbfcifoijliaaGreatDoor
open Go.RowKit

theorem seg_getD {zs : List Nat} {j L i : Nat} (hi : i < L) : ((zs.drop j).take L).getD i 0 = zs.getD (j + i) 0 := by
  rw [List.getD_eq_getElem?_getD, List.getElem?_take, if_pos hi, List.getElem?_drop, ← List.getD_eq_getElem?_getD]

theorem seg_length {zs : List Nat} {j L N : Nat} (hl : zs.length = N) (h : j + L ≤ N) : ((zs.drop j).take L).length = L := by
  rw [List.length_take, List.length_drop]; omega

/-- Its cells. -/
theorem seg_news {e : TypeId} {w : World} {base g N cap j L : Nat} {zs : List Nat} (ho : OwnN .u32 e w base (.slice (some ⟨g, 0, none⟩) N cap) N zs) (hl : zs.length = N) (h : j + L ≤ N) :
    ∀ i u, (((zs.drop j).take L).map fun z => Value.int .u32 (z : Nat))[i]? = some u → w.cell? ((⟨g, j, none⟩ : Addr).add i) = some u := by
  intro i u hu
  have hadd : (⟨g, j, none⟩ : Addr).add i = ⟨g, j + i, none⟩ := by unfold Addr.add; split <;> simp_all
  rw [hadd]
  have hsl := seg_length hl h
  rw [List.getElem?_map] at hu
  by_cases hi : i < L
  · rw [World.ownsRow.cellAt ho (j + i) (by omega), List.getElem?_map, ← hu, List.getElem?_take, if_pos hi, List.getElem?_drop]
  · rw [List.getElem?_eq_none (by omega)] at hu
    cases hu

theorem nums_one (k : IntKind) (zs : List Nat) : ∀ u ∈ zs.map (fun z => Value.int k (z : Nat)), u.oneCell' = true := by
  intro u hu
  obtain ⟨z, _, rfl⟩ := List.mem_map.1 hu
  rfl

theorem val_seg_lt {zs : List Nat} {j L N : Nat} (hd : Digs 4294967296 zs) (hl : zs.length = N) (h : j + L ≤ N) : val 4294967296 ((zs.drop j).take L) < 4294967296 ^ L := by
  have := val_lt (by omega) ((hd.drop j).take L)
  rwa [seg_length hl h] at this

theorem seg_set (zs : List Nat) (D j k : Nat) (hk : j + k < zs.length) :
    (zs.take j ++ (digs 4294967296 D k ++ zs.drop (j + k))).set (j + k) (dig 4294967296 D k) = zs.take j ++ (digs 4294967296 D (k + 1) ++ zs.drop (j + (k + 1))) := by
  have h1 : (zs.take j).length = j := by rw [List.length_take]; omega
  rw [List.set_append_right _ _ (by omega), h1, Nat.add_sub_cancel_left, List.set_append_right _ _ (by rw [digs_length]; omega), digs_length, Nat.sub_self, List.drop_eq_getElem_cons hk, List.set_cons_zero, digs, List.append_assoc]
  rfl

set_option maxRecDepth 100000 in
set_option maxHeartbeats 800000 in
theorem rTake (g base N cap j L c q V : Nat) (zs : List Nat) (v : Value) (w : World) (ho : OwnN .u32 62 w base (.slice (some ⟨g, 0, none⟩) N cap) N zs) (hzl : zs.length = N) (hzd : Digs 4294967296 zs) (hj : j + L ≤ N) (hL : 0 < L) (hN : N ≤ 100000000)
    (hv : IsBig w v V) (hvl : dlen V ≤ 100000000) (hq : q < 4294967296) :
    Calls Tryz.prog 97 #[.slice (some ⟨g, j, none⟩) L c, v, .int .u64 q] w fun r w' =>
      (val 4294967296 ((zs.drop j).take L) < V * q ∧ r = .returned (.bool false) ∧ Kept Nought w w') ∨
      (V * q ≤ val 4294967296 ((zs.drop j).take L) ∧ r = .returned (.bool true) ∧ OwnN .u32 62 w' base (.slice (some ⟨g, 0, none⟩) N cap) N (zs.take j ++ (digs 4294967296 (val 4294967296 ((zs.drop j).take L) - V * q) L ++ zs.drop (j + L))) ∧ Kept (fun b => b = g) w w') := by
  obtain ⟨i0, hi0, hz0, hz1, hz2⟩ := info_parts Tryz.info62
  have hS := rSmall q (by omega) w
  have hlt := val_seg_lt (j := j) (L := L) hzd hzl hj
  have hsl := seg_length (j := j) (L := L) hzl hj
  have hsd : Digs 4294967296 ((zs.drop j).take L) := (hzd.drop j).take L
  have HNews := fun W (hk : Kept Nought w W) => seg_news (j := j) (L := L) (hk.own ho (fun _ _ f => f)) hzl hj
  have hone := nums_one .u32 ((zs.drop j).take L)
  have hglt : g < w.heap.size := by
    rcases ho.2 with ⟨h', _⟩ | ⟨g', cap', cur, h', _, hgg, _⟩
    · simp at h'
    · simp only [Value.slice.injEq, Option.some.injEq, Addr.mk.injEq, and_true] at h'
      obtain ⟨rfl, _, _⟩ := h'
      exact lt_of_block hgg
  obtain ⟨us, hus⟩ : ∃ us, us = (zs.drop j).take L := ⟨_, rfl⟩
  rw [← hus] at hlt hsl hsd HNews hone ⊢
  clear hus
  go_enter Tryz.func97, Tryz.ntmps97
  go_wp2_with fail
  refine hS.mono ?_
  rintro e w1 ⟨v1, rfl, b1, _, k1⟩
  have hM := rMul v v1 V q w1 (hv.grew k1) b1 hvl (Nat.le_trans ((dlen_le _ 1).2 (by omega)) (by omega))
  go_wp2_with fail
  refine hM.mono ?_
  rintro e w2 ⟨v2, rfl, b2, _, k2⟩
  have K2 := k1.trans k2
  have hn2 := HNews w2 K2
  go_wp2_with (at_builtin; refine wpList_append_lies _ rfl _ _ 36 rfl w2.heap.size 62 i0 _ 1 4 Tryz.underlying36 hi0 hz0 hz1 hz2 rfl (by omega) _ _ _ rfl (World.ownsRow_nil w2 w2.heap.size _ _) ⟨g, j, none⟩ L c (us.map fun z => .int .u32 (z : Nat)) rfl (by rw [List.length_map, hsl]; omega) hn2 hone hL (by unfold maxLen; omega) (by omega) (Nat.le_refl _) (w2.heap.size) rfl ?_; intro gg c' w3 ho3 hg3 hat3 hgl3)
  rw [Nat.zero_add, List.nil_append] at ho3
  have r3 : Row .u32 w3 (.slice (some ⟨gg, 0, none⟩) L c') us := Row.of_own (base := w2.heap.size) (e := 62) (by rw [hsl]; exact ho3)
  have k3 : Kept Nought w2 w3 := grown_kept hg3
  have hT3 := rTrimBig _ _ _ r3 hsd (by omega)
  clear ho3 hg3 hat3 hgl3 hn2
  refine hT3.mono ?_
  rintro e w' ⟨v4, rfl, b4, _, rfl⟩
  have hC := rCmp v4 v2 (val 4294967296 us) (V * q) w' b4 (b2.grew k3)
  have K3 := K2.trans k3
  by_cases hlow : val 4294967296 us < V * q
  · rw [cmpN_lt hlow] at hC
    have HLow : Hid (val 4294967296 us < V * q) := hlow
    clear hlow HNews hlt hone hsd
    go_wp2_with fail
    refine hC.mono ?_
    rintro e w4 ⟨rfl, n4, rfl⟩
    go_wp2
    go_ret
    exact .inl ⟨HLow.out, rfl, K3.drewN n4⟩
  · have hcc : ¬ cmpN (val 4294967296 us) (V * q) < 0 := by unfold cmpN; rw [if_neg hlow]; split <;> decide
    have hle : V * q ≤ val 4294967296 us := by omega
    obtain ⟨cc, hcc2⟩ : ∃ cc, cc = cmpN (val 4294967296 us) (V * q) := ⟨_, rfl⟩
    rw [← hcc2] at hC hcc
    have HLE : Hid (V * q ≤ val 4294967296 us) := hle
    clear hlow hcc2 hle
    go_wp2_with fail
    refine hC.mono ?_
    rintro e w4 ⟨rfl, n4, hw4⟩
    have k4 : Kept Nought w' w4 := by rw [hw4]; exact (Kept.refl _ _).drewN n4
    have K4 := K3.trans k4
    have b2' := (b2.grew k3).grew k4
    clear hw4 b4 hC hT3 r3
    have hn4 := HNews w4 K4
    go_wp2_with (at_builtin; refine wpList_append_lies _ rfl _ _ 36 rfl w4.heap.size 62 i0 _ 1 4 Tryz.underlying36 hi0 hz0 hz1 hz2 rfl (by omega) _ _ _ rfl (World.ownsRow_nil w4 w4.heap.size _ _) ⟨g, j, none⟩ L c (us.map fun z => .int .u32 (z : Nat)) rfl (by rw [List.length_map, hsl]; omega) hn4 hone hL (by unfold maxLen; omega) (by omega) (Nat.le_refl _) (w4.heap.size) rfl ?_; intro gg5 c5 w5 ho5 hg5 hat5 hgl5)
    rw [Nat.zero_add, List.nil_append] at ho5
    have r5 : Row .u32 w5 (.slice (some ⟨gg5, 0, none⟩) L c5) us := Row.of_own (base := w4.heap.size) (e := 62) (by rw [hsl]; exact ho5)
    have k5 : Kept Nought w4 w5 := grown_kept hg5
    have hT5 := rTrimBig _ _ _ r5 hsd (by omega)
    clear ho5 hg5 hat5 hgl5 hn4
    refine hT5.mono ?_
    rintro e w6 ⟨v6, rfl, b6, _, rfl⟩
    have hSb := rSub v6 v2 (val 4294967296 us) (V * q) w6 b6 (b2'.grew k5) HLE.out
    have K6 := K4.trans k5
    go_wp2_with fail
    refine hSb.mono ?_
    rintro e w7 ⟨v7, rfl, b7, o7, k7⟩
    have K7 := K6.trans k7
    have ho7 : OwnN .u32 62 w7 base (.slice (some ⟨g, 0, none⟩) N cap) N zs := K7.own ho (fun _ _ f => f)
    have hv7 : ∀ b, v7.ownBlock = some b → ¬ b = g := fun b hb e => by have := o7 b hb; have := K6.size; omega
    obtain ⟨D, hD⟩ : ∃ D, D = val 4294967296 us - V * q := ⟨_, rfl⟩
    rw [← hD] at b7
    have HD : Hid (D = val 4294967296 us - V * q) := hD
    clear hSb hT5 r5 b6 b2' HNews hone hD o7
    clear b2 hM hv
    go_wp2_with fail
    go_loopw [27] (fun i wr => ∃ k : Nat, k ≤ L ∧ i = .int .i64 k ∧ OwnN .u32 62 wr base (.slice (some ⟨g, 0, none⟩) N cap) N (zs.take j ++ (digs 4294967296 D k ++ zs.drop (j + k))) ∧ Kept (fun b => b = g) w7 wr) (fun i _ => L - (intOf i).toNat)
    case atStart => exact ⟨0, Nat.zero_le _, rfl, by simpa [digs] using ho7, Kept.refl _ _⟩
    case round =>
      clear ho7
      obtain ⟨k, hk, rfl, hor, hkr⟩ := hrel
      by_cases hkl : k < L
      · obtain ⟨ds, rd, dd, _, hdv, _⟩ := b7.kept hkr hv7
        have hDg := rDigit v7 ds k wr rd
        have hdk : ds.getD k 0 = dig 4294967296 D k := by rw [← hdv]; exact (dig_val (by omega) dd k).symm
        rw [hdk] at hDg
        have hcell : wr.cell? ⟨g, j + k, none⟩ = some (.int .u32 ((zs.getD (j + k) 0 : Nat) : Int)) := by
          rw [World.ownsRow.cellAt hor (j + k) (by omega), List.getElem?_map, List.getElem?_append_right (by rw [List.length_take]; omega), List.length_take, Nat.min_eq_left (by omega), Nat.add_sub_cancel_left, List.getElem?_append_right (by rw [digs_length]; omega), digs_length, Nat.sub_self, List.getElem?_drop, Nat.add_zero, List.getD_eq_getElem?_getD, List.getElem?_eq_getElem (by omega)]
          rfl
        have hf := World.ownsRow.frozenAt hor (j + k)
        have hsto := fun u => (World.ownsRow.stored hor (j + k) u).1
        have HF := seg_set zs D j k (by omega)
        have HF2 : Hid ((zs.take j ++ (digs 4294967296 D k ++ zs.drop (j + k))).set (j + k) (dig 4294967296 D k) = zs.take j ++ (digs 4294967296 D (k + 1) ++ zs.drop (j + (k + 1)))) := HF
        clear HF hdk rd dd hdv
        generalize zs.getD (j + k) 0 = old at *
        have g1 : (k : Int) < (L : Int) := by omega
        generalize dig 4294967296 D k = dk at *
        go_wp2_with fail
        refine hDg.mono ?_
        rintro e w' ⟨rfl, rfl⟩
        go_wp2
        go_roundw
        case rel =>
          refine ⟨k + 1, by omega, by go_num, ?_, hkr.setCell _ (fun _ => rfl) _⟩
          unfold OwnN
          rw [← HF2.out, List.map_set]
          exact hsto _
        case measure => simp [intOf]; omega
      · have g1 : ¬ (k : Int) < (L : Int) := by omega
        have ek : k = L := by omega
        rw [ek] at hor
        clear ek
        go_wp2
        go_ret
        rw [HD.out] at hor
        exact .inr ⟨HLE.out, rfl, hor, (K7.any (S := fun b => b = g)).trans hkr⟩

end Go.Proofs.YtldbfcifoijliaaGreatDoor

/- A digit of the plain quotient: guess. -/
namespace Go.Proofs.YtldbfcifoijliaaGreatDoor
open Go.RowKit

theorem guess_ge {us ds : List Nat} {p a0 a1 t : Nat} (hul : us.length = p + 2) (hdl : ds.length = p + 1) (hud : Digs 4294967296 us) (h0 : us.getD p 0 = a0) (h1 : us.getD (p + 1) 0 = a1) (ht : ds.getD p 0 = t) (ht0 : 0 < t) :
    val 4294967296 us / val 4294967296 ds ≤ (a1 * 4294967296 + a0) / t := by
  have e1 := val_take_drop 4294967296 us p (by omega)
  have e2 : val 4294967296 (us.drop p) = a1 * 4294967296 + a0 := by
    rw [List.drop_eq_getElem_cons (by omega), List.drop_eq_getElem_cons (by omega), List.drop_of_length_le (by omega)]
    rw [List.getD_eq_getElem?_getD, List.getElem?_eq_getElem (by omega)] at h0 h1
    simp only [Option.getD_some] at h0 h1
    simp only [val]
    rw [h0, h1]
    omega
  have hlow : val 4294967296 (us.take p) < 4294967296 ^ p := by
    have := val_lt (by omega) (hud.take p)
    rwa [List.length_take, Nat.min_eq_left (by omega)] at this
  have e3 := val_take_drop 4294967296 ds p (by omega)
  have e4 : val 4294967296 (ds.drop p) = t := by
    rw [List.drop_eq_getElem_cons (by omega), List.drop_of_length_le (by omega)]
    rw [List.getD_eq_getElem?_getD, List.getElem?_eq_getElem (by omega)] at ht
    simp only [Option.getD_some] at ht
    simp only [val]
    rw [ht]; omega
  rw [e2] at e1
  rw [e4] at e3
  have hpos : 0 < 4294967296 ^ p := Nat.pow_pos (by omega)
  have h5 : val 4294967296 us / 4294967296 ^ p = a1 * 4294967296 + a0 := by
    rw [e1, Nat.add_mul_div_left _ _ hpos, Nat.div_eq_of_lt hlow, Nat.zero_add]
  rw [← h5, Nat.div_div_eq_div_mul]
  exact Nat.div_le_div_left (by omega) (Nat.mul_pos hpos ht0)

theorem rest_digits {U V q : Nat} (h1 : U / V ≤ q) (h2 : V * q ≤ U) (hV : 0 < V) : q = U / V ∧ U - V * q = U % V := by
  have h3 : q ≤ U / V := (Nat.le_div_iff_mul_le hV).2 (by rw [Nat.mul_comm]; exact h2)
  have e : q = U / V := by omega
  refine ⟨e, ?_⟩
  have := Nat.div_add_mod U V
  rw [e]; omega

set_option maxRecDepth 100000 in
set_option maxHeartbeats 1600000 in
theorem rGuess (g base N cap j p c V : Nat) (zs : List Nat) (v : Value) (w : World) (ho : OwnN .u32 62 w base (.slice (some ⟨g, 0, none⟩) N cap) N zs) (hzl : zs.length = N) (hzd : Digs 4294967296 zs) (hj : j + (p + 2) ≤ N) (hN : N ≤ 100000000)
    (hv : IsBig w v V) (hvl : dlen V = p + 1) (hUV : val 4294967296 ((zs.drop j).take (p + 2)) < V * 4294967296) :
    Calls Tryz.prog 79 #[.slice (some ⟨g, j, none⟩) (p + 2) c, v] w fun r w' => r = .returned (.int .u32 ((val 4294967296 ((zs.drop j).take (p + 2)) / V : Nat) : Int)) ∧
      OwnN .u32 62 w' base (.slice (some ⟨g, 0, none⟩) N cap) N (zs.take j ++ (digs 4294967296 (val 4294967296 ((zs.drop j).take (p + 2)) % V) (p + 2) ++ zs.drop (j + (p + 2)))) ∧ Kept (fun b => b = g) w w' := by
  have HT := fun q (hq : q < 4294967296) W (hk : Kept Nought w W) => rTake g base N cap j (p + 2) c q V zs v W (hk.own ho (fun _ _ f => f)) hzl hzd hj (by omega) hN (hv.grew hk) (by omega) hq
  have hVpos : 0 < V := by
    rcases Nat.eq_zero_or_pos V with h | h
    · rw [h] at hvl; simp [dlen] at hvl
    · exact h
  have hcu : ∀ i, i < p + 2 → w.cell? ⟨g, j + i, none⟩ = some (.int .u32 ((zs.getD (j + i) 0 : Nat) : Int)) := fun i hi => by
    rw [World.ownsRow.cellAt ho (j + i) (by omega), List.getElem?_map, List.getD_eq_getElem?_getD, List.getElem?_eq_getElem (by omega)]
    rfl
  obtain ⟨ds, rd, dd, td, hdv, _⟩ := hv
  have hdl : ds.length = p + 1 := by rw [len_dlen dd td, hdv]; exact hvl
  have htop : 0 < ds.getD p 0 := by
    rcases td with h | h
    · omega
    · rw [hdl, Nat.add_sub_cancel] at h; omega
  have htlt := dd.getD (by omega) p
  have hge := guess_ge (us := (zs.drop j).take (p + 2)) (ds := ds) (seg_length hzl hj) hdl ((hzd.drop j).take _) (seg_getD (by omega)) (seg_getD (by omega)) rfl htop
  rw [hdv] at hge
  have hqlt : val 4294967296 ((zs.drop j).take (p + 2)) / V < 4294967296 := by rw [Nat.div_lt_iff_lt_mul hVpos, Nat.mul_comm]; exact hUV
  have l0 := hzd.getD (by omega) (j + p)
  have l1 := hzd.getD (by omega) (j + (p + 1))
  have c0 := hcu p (by omega)
  have c1 := hcu (p + 1) (by omega)
  obtain ⟨bo, m, bc, rfl, hM, _, _, _, hB⟩ := rd.open
  have hm : m = p + 1 := hM.out.symm.trans hdl
  subst hm
  obtain ⟨gb, ob, rfl, cb⟩ := hB p (by omega)
  obtain ⟨U, hU⟩ : ∃ U, U = val 4294967296 ((zs.drop j).take (p + 2)) := ⟨_, rfl⟩
  rw [← hU] at HT hge hqlt ⊢
  clear hcu hB rd dd td hdv hUV hM hU hdl hzd
  generalize zs.getD (j + p) 0 = a0 at *
  generalize zs.getD (j + (p + 1)) 0 = a1 at *
  generalize ds.getD p 0 = t at *
  have hor := or_low32 a1 a0 l1 l0
  have htb : a1 * 4294967296 + a0 < 18446744073709551616 := by omega
  generalize a1 * 4294967296 + a0 = top at *
  have s1 : (p : Int) + 1 - 1 = (p : Int) := by omega
  have g0 : (0 : Int) ≤ (p : Int) := Int.natCast_nonneg _
  have g1 : (p : Int) + 1 < (p : Int) + 2 := by omega
  have g2 : (p : Int) < (p : Int) + 2 := by omega
  have g3 : (p : Int) < (p : Int) + 1 := by omega
  have s2 : IntKind.i64.wrap ((p : Int) + 1 - 1) = (p : Int) := by rw [IntKind.wrap_i64]; omega
  go_enter Tryz.func79, Tryz.ntmps79
  go_wp2_with fail
  go_quiet (fail)
  have k0 : Kept Nought w (w.drewN nq) := (Kept.refl _ _).drewN nq
  have cbn := k0.cellN cb
  clear c0 c1 cb
  generalize w.drewN nq = W at *
  obtain ⟨Q, hQ⟩ : ∃ Q, Q = top / t := ⟨_, rfl⟩
  rw [← hQ] at hge
  have hQr : IntKind.u64.wrap ((top : Int) / (t : Int)) = (Q : Int) := by
    have h1 : top / t ≤ top := Nat.div_le_self _ _
    rw [← hQ] at h1
    rw [show (top : Int) / (t : Int) = ((top / t : Nat) : Int) by simp, ← hQ, IntKind.wrap_u64]
    omega
  have ht0 : ¬ (t : Int) = 0 := by omega
  have fork : (4294967295 : Int) < (Q : Int) ∨ ¬ (4294967295 : Int) < (Q : Int) := by omega
  have HGE : Hid (U / V ≤ Q) := hge
  have HLT : Hid (U / V < 4294967296) := hqlt
  clear hQ hge hqlt hor
  rcases fork with hf | hf
  all_goals
    go_wp2_with fail
    go_loopw [7] (fun rr wr => ∃ q : Nat, q < 4294967296 ∧ rr = .int .u64 q ∧ Hid (U / V ≤ q) ∧ Kept Nought w wr) (fun rr _ => (intOf rr).toNat)
    case atStart => first | exact ⟨Q, by omega, rfl, HGE, k0⟩ | exact ⟨4294967295, by omega, rfl, by have := HLT.out; unfold Hid; omega, k0⟩
    case round =>
      obtain ⟨q, hq, rfl, hqu, hkq⟩ := hrel
      have hT := HT q hq wr hkq
      clear HT
      go_wp2_with fail
      refine hT.mono ?_
      rintro e w' (⟨h1, rfl, k1⟩ | ⟨h1, rfl, ho1, k1⟩)
      · have hqp : 0 < q := by
          rcases Nat.eq_zero_or_pos q with h | h
          · subst h; omega
          · exact h
        obtain ⟨q', rfl⟩ : ∃ q', q = q' + 1 := ⟨q - 1, by omega⟩
        have hq2 : Hid (U / V ≤ q') := by
          have h2 : U / V < q' + 1 := (Nat.div_lt_iff_lt_mul hVpos).2 (by rw [Nat.mul_comm]; exact h1)
          unfold Hid; omega
        clear h1 hqu hT
        go_wp2
        go_roundw
        case rel => exact ⟨q', by omega, by go_num, hq2, hkq.trans k1⟩
        case measure => simp [intOf]
      · obtain ⟨e1, e2⟩ := rest_digits hqu.out h1 hVpos
        rw [e2] at ho1
        have E1 : Hid (q = U / V) := e1
        have hq3 : (q : Int) < 4294967296 := by omega
        clear h1 hqu hT e1 e2
        go_wp2
        go_ret
        refine ⟨?_, ho1, (hkq.any (S := fun b => b = g)).trans k1⟩
        rw [← E1.out]
        rfl

end Go.Proofs.YtldbfcifoijliaaGreatDoor

/- Long division, digit by digit: plain mathematics of digits. -/
namespace Go.Proofs.YtldbfcifoijliaaGreatDoor
open Go.RowKit

/-- A divisor that is shifted till its top bit is set keeps its length. -/
theorem norm_div {ds : List Nat} {p r t : Nat} (hd : Digs 4294967296 ds) (hl : ds.length = p + 1) (ht : ds.getD p 0 = t) (h1 : t < 2 ^ (r + 1)) (h2 : 2 ^ r ≤ t) (hr : r ≤ 31) :
    2 ^ (31 - r) * val 4294967296 ds < 4294967296 ^ (p + 1) ∧ 2 ^ 31 * 4294967296 ^ p ≤ 2 ^ (31 - r) * val 4294967296 ds ∧ dlen (2 ^ (31 - r) * val 4294967296 ds) = p + 1 := by
  have e := val_take_drop 4294967296 ds p (by omega)
  have e4 : val 4294967296 (ds.drop p) = t := by
    rw [List.drop_eq_getElem_cons (by omega), List.drop_of_length_le (by omega)]
    rw [List.getD_eq_getElem?_getD, List.getElem?_eq_getElem (by omega)] at ht
    simp only [Option.getD_some] at ht
    simp only [val]
    rw [ht]; omega
  rw [e4] at e
  have hlow : val 4294967296 (ds.take p) < 4294967296 ^ p := by
    have := val_lt (by omega) (hd.take p)
    rwa [List.length_take, Nat.min_eq_left (by omega)] at this
  have a1 : val 4294967296 ds + 1 ≤ 4294967296 ^ p * (t + 1) := by rw [Nat.mul_add, Nat.mul_one]; omega
  have a2 : 4294967296 ^ p * t ≤ val 4294967296 ds := by omega
  have b1 : 2 ^ (31 - r) * 2 ^ (r + 1) = 4294967296 := by rw [← Nat.pow_add, show 31 - r + (r + 1) = 32 by omega]
  have b2 : 2 ^ (31 - r) * 2 ^ r = 2 ^ 31 := by rw [← Nat.pow_add, show 31 - r + r = 31 by omega]
  have hpos : 0 < 2 ^ (31 - r) := Nat.pow_pos (by omega)
  have c1 : 2 ^ (31 - r) * val 4294967296 ds < 4294967296 ^ (p + 1) := by
    have x1 : 2 ^ (31 - r) * (val 4294967296 ds + 1) ≤ 2 ^ (31 - r) * (4294967296 ^ p * 2 ^ (r + 1)) := Nat.mul_le_mul_left _ (Nat.le_trans a1 (Nat.mul_le_mul_left _ (by omega)))
    rw [Nat.mul_left_comm, b1, ← Nat.pow_succ] at x1
    have x2 : 2 ^ (31 - r) * val 4294967296 ds < 2 ^ (31 - r) * (val 4294967296 ds + 1) := Nat.mul_lt_mul_of_pos_left (by omega) hpos
    exact Nat.lt_of_lt_of_le x2 x1
  have c2 : 2 ^ 31 * 4294967296 ^ p ≤ 2 ^ (31 - r) * val 4294967296 ds := by
    have x1 : 2 ^ (31 - r) * (4294967296 ^ p * 2 ^ r) ≤ 2 ^ (31 - r) * val 4294967296 ds := Nat.mul_le_mul_left _ (Nat.le_trans (Nat.mul_le_mul_left _ h2) a2)
    rw [Nat.mul_left_comm, b2, Nat.mul_comm] at x1
    exact x1
  refine ⟨c1, c2, ?_⟩
  have d1 := (dlen_le _ _).2 c1
  have d2 : ¬ dlen (2 ^ (31 - r) * val 4294967296 ds) ≤ p := fun h => by
    have := (dlen_le _ _).1 h
    have h3 : 1 * 4294967296 ^ p ≤ 2 ^ 31 * 4294967296 ^ p := Nat.mul_le_mul_right _ (by decide)
    omega
  omega

theorem dlen_shift (A s : Nat) (hs : s ≤ 31) : dlen (2 ^ s * A) ≤ dlen A + 1 ∧ dlen A ≤ dlen (2 ^ s * A) ∧ 2 ^ s * A < 2 ^ s * 4294967296 ^ dlen A := by
  have h1 := (dlen_le A (dlen A)).1 (Nat.le_refl _)
  have hp : 0 < 2 ^ s := Nat.pow_pos (by omega)
  have h3 : 2 ^ s * A < 2 ^ s * 4294967296 ^ dlen A := Nat.mul_lt_mul_of_pos_left h1 hp
  refine ⟨(dlen_le _ _).2 ?_, dlen_mono (Nat.le_mul_of_pos_left _ hp), h3⟩
  rw [Nat.pow_succ, Nat.mul_comm (4294967296 ^ dlen A)]
  have h2 : 2 ^ s * 4294967296 ^ dlen A ≤ 4294967296 * 4294967296 ^ dlen A := Nat.mul_le_mul_right _ (Nat.le_trans (Nat.pow_le_pow_right (by omega) hs) (by decide))
  omega

theorem val_drop {zs : List Nat} (hd : Digs 4294967296 zs) (k : Nat) : val 4294967296 (zs.drop k) = val 4294967296 zs / 4294967296 ^ k := by
  by_cases h : k ≤ zs.length
  · have e := val_take_drop 4294967296 zs k h
    have hlow : val 4294967296 (zs.take k) < 4294967296 ^ k := by
      have := val_lt (by omega) (hd.take k)
      rwa [List.length_take, Nat.min_eq_left h] at this
    rw [e, Nat.add_mul_div_left _ _ (Nat.pow_pos (by omega)), Nat.div_eq_of_lt hlow, Nat.zero_add]
  · rw [List.drop_of_length_le (by omega)]
    have h1 := val_lt (by omega) hd
    have h2 : (4294967296 : Nat) ^ zs.length ≤ 4294967296 ^ k := Nat.pow_le_pow_right (by omega) (by omega)
    rw [Nat.div_eq_of_lt (by omega)]
    rfl

/-- The first rest is below the divisor. -/
theorem div_start {zs : List Nat} {A V s p la : Nat} (hd : Digs 4294967296 zs) (hv : val 4294967296 zs = 2 ^ s * A) (hA : 2 ^ s * A < 2 ^ s * 4294967296 ^ la) (hs : s ≤ 31) (hp : p ≤ la) (hV : 2 ^ 31 * 4294967296 ^ p ≤ V) :
    val 4294967296 (zs.drop (la - p)) < V := by
  rw [val_drop hd, hv, Nat.div_lt_iff_lt_mul (Nat.pow_pos (by omega))]
  have e : 4294967296 ^ la = 4294967296 ^ p * 4294967296 ^ (la - p) := by rw [← Nat.pow_add, show p + (la - p) = la by omega]
  rw [e, ← Nat.mul_assoc] at hA
  have h1 : 2 ^ s * 4294967296 ^ p ≤ 2 ^ 31 * 4294967296 ^ p := Nat.mul_le_mul_right _ (Nat.pow_le_pow_right (by omega) hs)
  exact Nat.lt_of_lt_of_le hA (Nat.mul_le_mul_right _ (Nat.le_trans h1 hV))

theorem drop_cons {zs : List Nat} {j : Nat} (h : j < zs.length) : val 4294967296 (zs.drop j) = zs.getD j 0 + 4294967296 * val 4294967296 (zs.drop (j + 1)) := by
  rw [List.drop_eq_getElem_cons h, List.getD_eq_getElem?_getD, List.getElem?_eq_getElem h]
  rfl

/-- One digit of the quotient. -/
theorem div_round {zs orig qs : List Nat} {V n j N : Nat} (hd : Digs 4294967296 zs) (hl : zs.length = N) (hlo : orig.length = N) (hj : j + (n + 1) ≤ N) (hV : V < 4294967296 ^ n) (hVp : 0 < V) (hR : val 4294967296 (zs.drop (j + 1)) < V) (htake : zs.take (j + 1) = orig.take (j + 1))
    (hinv : V * val 4294967296 qs + val 4294967296 (zs.drop (j + 1)) = val 4294967296 (orig.drop (j + 1))) (U : Nat) (hU : U = val 4294967296 ((zs.drop j).take (n + 1))) :
    U < V * 4294967296 ∧
    ∀ zs', zs' = zs.take j ++ (digs 4294967296 (U % V) (n + 1) ++ zs.drop (j + (n + 1))) →
      zs'.length = N ∧ Digs 4294967296 zs' ∧ zs'.take j = orig.take j ∧ val 4294967296 (zs'.drop j) < V ∧ V * val 4294967296 (U / V :: qs) + val 4294967296 (zs'.drop j) = val 4294967296 (orig.drop j) := by
  have e1 := val_take_drop 4294967296 (zs.drop (j + 1)) n (by rw [List.length_drop]; omega)
  rw [List.drop_drop] at e1
  have hz : val 4294967296 (zs.drop (j + 1 + n)) = 0 := by
    rcases Nat.eq_zero_or_pos (val 4294967296 (zs.drop (j + 1 + n))) with h | h
    · exact h
    · have : 4294967296 ^ n * 1 ≤ 4294967296 ^ n * val 4294967296 (zs.drop (j + 1 + n)) := Nat.mul_le_mul_left _ h
      omega
  have e2 := val_take_drop 4294967296 (zs.drop j) (n + 1) (by rw [List.length_drop]; omega)
  rw [List.drop_drop, show j + (n + 1) = j + 1 + n by omega, hz, Nat.mul_zero, Nat.add_zero, ← hU] at e2
  have e3 := drop_cons (zs := zs) (j := j) (by omega)
  have hzj : zs.getD j 0 = orig.getD j 0 := by
    have h1 : (zs.take (j + 1)).getD j 0 = (orig.take (j + 1)).getD j 0 := by rw [htake]
    rw [List.getD_eq_getElem?_getD, List.getD_eq_getElem?_getD, List.getElem?_take, List.getElem?_take, if_pos (by omega), if_pos (by omega)] at h1
    rw [List.getD_eq_getElem?_getD, List.getD_eq_getElem?_getD]
    exact h1
  have hd0 := hd.getD (by omega) j
  have hU2 : U = zs.getD j 0 + 4294967296 * val 4294967296 (zs.drop (j + 1)) := e2.symm.trans e3
  refine ⟨by omega, fun zs' hzs => ?_⟩
  have hlj : (zs.take j).length = j := by rw [List.length_take]; omega
  have hdrop : zs'.drop j = digs 4294967296 (U % V) (n + 1) ++ zs.drop (j + (n + 1)) := by rw [hzs, List.drop_left' hlj]
  have hmod := Nat.mod_lt U hVp
  have hval : val 4294967296 (zs'.drop j) = U % V := by
    rw [hdrop, val_append, val_digs, show j + (n + 1) = j + 1 + n by omega, hz, Nat.mul_zero, Nat.add_zero]
    apply Nat.mod_eq_of_lt
    have h1 : (4294967296 : Nat) ^ n ≤ 4294967296 ^ (n + 1) := Nat.pow_le_pow_right (by omega) (by omega)
    omega
  refine ⟨by rw [hzs]; simp [digs_length]; omega, by rw [hzs]; exact (hd.take j).append ((digs_digs (by omega) _ _).append (hd.drop _)), ?_, by omega, ?_⟩
  · rw [hzs, List.take_left' hlj]
    have h1 : (zs.take (j + 1)).take j = (orig.take (j + 1)).take j := by rw [htake]
    rwa [List.take_take, List.take_take, Nat.min_eq_left (by omega)] at h1
  · rw [hval, drop_cons (zs := orig) (j := j) (by omega), ← hzj, ← hinv]
    simp only [val]
    have h1 := Nat.div_add_mod U V
    rw [Nat.mul_add, Nat.mul_left_comm V 4294967296]
    omega

/-- The end of the division. -/
theorem div_end {zs qs : List Nat} {A M s n N : Nat} (hl : zs.length = N) (hn : n ≤ N) (hM : 0 < M) (hV : 2 ^ s * M < 4294967296 ^ n) (hR : val 4294967296 zs < 2 ^ s * M) (hinv : 2 ^ s * M * val 4294967296 qs + val 4294967296 zs = 2 ^ s * A) :
    val 4294967296 qs = A / M ∧ val 4294967296 (zs.take n) / 2 ^ s = A % M := by
  have hp : 0 < 2 ^ s := Nat.pow_pos (by omega)
  have hVp : 0 < 2 ^ s * M := Nat.mul_pos hp hM
  have e1 : (2 ^ s * A) / (2 ^ s * M) = val 4294967296 qs := by
    rw [← hinv, Nat.mul_add_div hVp, Nat.div_eq_of_lt hR, Nat.add_zero]
  have e2 : (2 ^ s * A) % (2 ^ s * M) = val 4294967296 zs := by
    rw [← hinv, Nat.mul_add_mod, Nat.mod_eq_of_lt hR]
  have e3 := val_take_drop 4294967296 zs n (by omega)
  have hz : val 4294967296 (zs.drop n) = 0 := by
    rcases Nat.eq_zero_or_pos (val 4294967296 (zs.drop n)) with h | h
    · exact h
    · have : 4294967296 ^ n * 1 ≤ 4294967296 ^ n * val 4294967296 (zs.drop n) := Nat.mul_le_mul_left _ h
      omega
  rw [hz, Nat.mul_zero, Nat.add_zero] at e3
  refine ⟨by rw [← e1, Nat.mul_div_mul_left _ _ hp], ?_⟩
  rw [← e3, ← e2, Nat.mul_mod_mul_left, Nat.mul_div_cancel_left _ hp]

end Go.Proofs.YtldbfcifoijliaaGreatDoor

