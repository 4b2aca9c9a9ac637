/- Put together of: Base3 BigM Prm2. -/
import Derived.Test.YtiljkgoafknefaaGreatPk1
import Derived.Test.YtiljkgoafknefaaGreatPk3
import Derived.Test.YtiljkgoafknefaaGreatPk4
import Derived.BigRegion

/- Melted of: BigBytes BigBit RefNat. -/

/- The plain numbers in bytes: ToBytes, FromBytes. -/
namespace Go.Proofs.YtiljkgoafknefaaGreat
open Go.RowKit

end Go.Proofs.YtiljkgoafknefaaGreat

/- The plain numbers' bits: Bit, BitLen; whether two numbers are alike with their lengths: Same. -/
namespace Go.Proofs.YtiljkgoafknefaaGreat
open Go.RowKit

/-- Bit number i. -/
def bitN (V : Nat) (i : Int) : Nat := if i < 0 then 0 else V / 2 ^ i.toNat % 2

theorem bitN_nat (V j : Nat) : bitN V (j : Int) = V / 2 ^ j % 2 := by
  unfold bitN
  rw [if_neg (by omega), Int.toNat_natCast]

theorem bit_dig (V j : Nat) : dig 4294967296 V (j / 32) / 2 ^ (j % 32) % 2 = V / 2 ^ j % 2 := by
  unfold dig
  have e : (4294967296 : Nat) ^ (j / 32) = 2 ^ (32 * (j / 32)) := by rw [Nat.pow_mul]
  have e3 : (2 : Nat) ^ j = 2 ^ (32 * (j / 32)) * 2 ^ (j % 32) := by rw [← Nat.pow_add]; congr 1; omega
  rw [e, e3, ← Nat.div_div_eq_div_mul]
  generalize V / 2 ^ (32 * (j / 32)) = x
  have e4 : (4294967296 : Nat) = 2 ^ (j % 32) * 2 ^ (32 - j % 32) := by
    rw [← Nat.pow_add, show j % 32 + (32 - j % 32) = 32 by omega]
  rw [e4, Nat.mod_mul_right_div_self]
  have hd : 2 ∣ 2 ^ (32 - j % 32) := ⟨2 ^ (31 - j % 32), by rw [← Nat.pow_succ', show (31 - j % 32).succ = 32 - j % 32 by omega]⟩
  exact Nat.mod_mod_of_dvd _ hd

theorem bit_above {ds : List Nat} (hd : Digs 4294967296 ds) (j : Nat) (h : ds.length ≤ j / 32) : val 4294967296 ds / 2 ^ j % 2 = 0 := by
  have h1 := val_lt (by omega) hd
  have h2 : (4294967296 : Nat) ^ ds.length ≤ 2 ^ j := by
    have e : (4294967296 : Nat) ^ ds.length = 2 ^ (32 * ds.length) := by rw [Nat.pow_mul]
    rw [e]
    exact Nat.pow_le_pow_right (by omega) (by omega)
  rw [Nat.div_eq_of_lt (by omega)]

set_option maxRecDepth 100000 in
set_option maxHeartbeats 400000 in
theorem rBit (v : Value) (V : Nat) (i : Int) (w : World) (h : IsBig w v V) (hi : i ≤ 9223372036854775807) :
    Calls Tryz.prog 67 #[v, .int .i64 i] w fun r w' => r = .returned (.int .u64 (bitN V i : Nat)) ∧ w' = w := by
  obtain ⟨ds, hr, hd, _, rfl, hl⟩ := h
  have hV : ∀ i, ds.getD i 0 = dig 4294967296 (val 4294967296 ds) i := fun i => (dig_val (by omega) hd i).symm
  obtain ⟨ao, n, cap, rfl, hN, _, _, _, h4⟩ := hr.open
  rw [hN.out] at hl
  by_cases hneg : i < 0
  · have e : bitN (val 4294967296 ds) i = 0 := by unfold bitN; rw [if_pos hneg]
    rw [e]
    clear h4 hr hd hV e
    go_enter Tryz.func67, Tryz.ntmps67
    go_wp2
    go_ret
    exact ⟨rfl, rfl⟩
  · obtain ⟨j, rfl⟩ := Int.eq_ofNat_of_zero_le (show 0 ≤ i by omega)
    rw [bitN_nat]
    by_cases hj : j / 32 < n
    · obtain ⟨b, off, rfl, hc⟩ := h4 (j / 32) hj
      have hb := bit_dig (val 4294967296 ds) j
      rw [← hV] at hb
      rw [← hb]
      have hx : ds.getD (j / 32) 0 < 4294967296 := hd.getD (by omega) _
      clear h4 hr hd hV hb
      generalize ds.getD (j / 32) 0 = x at *
      have g1 : (j : Int) / 32 < (n : Int) := by omega
      have g2 : (0 : Int) ≤ (j : Int) / 32 := by omega
      have g3 : ((j : Int) / 32).toNat = j / 32 := by omega
      go_enter Tryz.func67, Tryz.ntmps67
      have hy := Nat.div_le_self x (2 ^ (j % 32))
      have hand : Hid (IntKind.u64.wrap (bits .and .u32 ((x : Int) / 2 ^ (j % 32)) 1) = ((x / 2 ^ (j % 32) % 2 : Nat) : Int)) := by
        unfold Hid
        have e : (x : Int) / 2 ^ (j % 32) = ((x / 2 ^ (j % 32) : Nat) : Int) := by simp
        have h1 := u32_and_nat (x / 2 ^ (j % 32)) 1 (by omega) (by omega)
        rw [nat_mask1] at h1
        rw [e, show (1 : Int) = ((1 : Nat) : Int) from rfl, h1, IntKind.wrap_u64]
        omega
      clear hy
      generalize x / 2 ^ (j % 32) % 2 = R at *
      go_wp2
      go_ret
      refine ⟨?_, rfl⟩
      show Ending.returned (Value.int .u64 (IntKind.u64.wrap (bits .and .u32 ((x : Int) / 2 ^ (j % 32)) 1))) = _
      rw [hand.out]
    · have g1 : ¬ (j : Int) / 32 < (n : Int) := by omega
      rw [bit_above hd j (by have := hN.out; omega)]
      clear h4 hr hd hV
      go_enter Tryz.func67, Tryz.ntmps67
      go_wp2
      go_ret
      exact ⟨rfl, rfl⟩

/-- How many bits a number has. -/
def blen (V : Nat) : Nat := if V = 0 then 0 else Nat.log2 V + 1

theorem blen_le (V n : Nat) : blen V ≤ n ↔ V < 2 ^ n := by
  unfold blen
  by_cases h : V = 0
  · subst h; simp [Nat.pow_pos]
  · rw [if_neg h]
    have := Nat.log2_lt (n := V) (k := n) h
    omega

theorem blen_zero {V k : Nat} (h : V < 2 ^ (k + 1)) (hb : V / 2 ^ k % 2 = 0) : V < 2 ^ k := by
  have h1 : V / 2 ^ k < 2 := by rw [Nat.div_lt_iff_lt_mul (Nat.pow_pos (by omega))]; rw [Nat.pow_succ] at h; omega
  have h2 : V / 2 ^ k = 0 := by
    generalize V / 2 ^ k = q at *
    omega
  rcases Nat.lt_or_ge V (2 ^ k) with h3 | h3
  · exact h3
  · have := (Nat.div_pos_iff).2 ⟨Nat.pow_pos (n := k) (show 0 < 2 by omega), h3⟩
    omega

theorem blen_one {V k : Nat} (h : V < 2 ^ (k + 1)) (hb : V / 2 ^ k % 2 ≠ 0) : blen V = k + 1 := by
  have h1 := (blen_le V (k + 1)).2 h
  have h2 : ¬ blen V ≤ k := fun hk => by
    have := (blen_le V k).1 hk
    rw [Nat.div_eq_of_lt this] at hb
    exact hb rfl
  omega

set_option maxRecDepth 100000 in
set_option maxHeartbeats 400000 in
theorem rBitLen (v : Value) (V : Nat) (w : World) (h : IsBig w v V) :
    Calls Tryz.prog 36 #[v] w fun r w' => r = .returned (.int .i64 (blen V : Nat)) ∧ w' = w := by
  have HB := fun j (hj : j ≤ 100000000000) => rBit v V ((j : Nat) : Int) w h (by omega)
  obtain ⟨ds, hr, hd, _, rfl, hl⟩ := h
  have hlt := val_lt (by omega) hd
  obtain ⟨ao, n, cap, rfl, hN, _, _, _, _⟩ := hr.open
  rw [hN.out] at hl hlt
  have hlt' : Hid (val 4294967296 ds < 2 ^ (32 * n)) := by unfold Hid; rw [Nat.pow_mul]; exact hlt
  clear hr hlt hd
  generalize val 4294967296 ds = V at *
  go_enter Tryz.func36, Tryz.ntmps36
  go_wp2_with fail
  go_loop [3] (fun i => ∃ k : Nat, k ≤ 32 * n ∧ i = .int .i64 k ∧ Hid (V < 2 ^ k)) (fun i => (intOf i).toNat)
  case atStart => exact ⟨32 * n, Nat.le_refl _, by go_num, hlt'⟩
  case round =>
    obtain ⟨k, hk, rfl, hV⟩ := hrel
    cases k with
    | zero =>
      have e : Hid (blen V = 0) := by
        have := hV.out
        have h0 : V = 0 := by simpa using this
        unfold Hid; rw [h0]; rfl
      clear HB
      go_wp2
      go_ret
      rw [e.out]
      exact ⟨rfl, rfl⟩
    | succ j =>
      have hB := HB j (by omega)
      rw [bitN_nat] at hB
      clear HB
      by_cases hb : V / 2 ^ j % 2 = 0
      · have hz : Hid (V < 2 ^ j) := blen_zero hV.out hb
        rw [hb] at hB
        clear hb hV hlt'
        go_wp2_with fail
        refine hB.mono ?_
        rintro e w' ⟨rfl, rfl⟩
        go_wp2
        go_round
        case rel => exact ⟨j, by omega, by go_num, hz⟩
        case measure => simp [intOf]
      · have hz : Hid (blen V = j + 1) := blen_one hV.out hb
        have h1 : V / 2 ^ j % 2 = 1 := by omega
        rw [h1] at hB
        clear hb hV hlt' h1
        go_wp2_with fail
        refine hB.mono ?_
        rintro e w' ⟨rfl, rfl⟩
        go_wp2
        go_ret
        rw [hz.out]
        exact ⟨rfl, rfl⟩

theorem eq_take_succ {a b : List Nat} {k : Nat} (ha : k < a.length) (hb : k < b.length) (h : a.take k = b.take k) (he : a.getD k 0 = b.getD k 0) : a.take (k + 1) = b.take (k + 1) := by
  rw [List.take_succ_eq_append_getElem ha, List.take_succ_eq_append_getElem hb, h]
  rw [List.getD_eq_getElem?_getD, List.getD_eq_getElem?_getD, List.getElem?_eq_getElem ha, List.getElem?_eq_getElem hb] at he
  simp only [Option.getD_some] at he
  rw [he]

set_option maxHeartbeats 400000 in
theorem rSame (u v : Value) (a b : List Nat) (w : World) (hu : Row .u64 w u a) (hv : Row .u64 w v b) :
    Calls Tryz.prog 20 #[u, v] w fun r w' => r = .returned (.bool (decide (a = b))) ∧ ∃ n, w' = w.drewN n := by
  obtain ⟨ao, n, ac, rfl, hN, h1, h2, _, hA⟩ := hu.open
  obtain ⟨bo, m, bc, rfl, hM, h1', h2', _, hB⟩ := hv.open
  clear hu hv
  by_cases hl : n = m
  · subst hl
    go_enter Tryz.func20, Tryz.ntmps20
    go_wp2_with fail
    go_loopw [5, 13] (fun _ i wr => ∃ k : Nat, k ≤ n ∧ i = .int .i64 k ∧ Hid (a.take k = b.take k) ∧ ∃ m, wr = w.drewN m) (fun _ i _ => n - (intOf i).toNat)
    case atStart => exact ⟨0, Nat.zero_le _, rfl, rfl, 0, rfl⟩
    case round =>
      obtain ⟨k, hk, rfl, ht, m, rfl⟩ := hrel
      by_cases hlt : k < n
      · obtain ⟨ga, oa, rfl, ca⟩ := hA k hlt
        obtain ⟨gb, ob, rfl, cb⟩ := hB k hlt
        have hst : Hid (a.getD k 0 = b.getD k 0 → a.take (k + 1) = b.take (k + 1)) := fun h => eq_take_succ (by have := hN.out; omega) (by have := hM.out; omega) ht.out h
        have hne : Hid (a.getD k 0 ≠ b.getD k 0 → decide (a = b) = false) := fun h => by
          simp only [decide_eq_false_iff_not]
          intro e; subst e; exact h rfl
        clear hA hB ht
        generalize a.getD k 0 = x at *
        generalize b.getD k 0 = y at *
        have hk0 : (0 : Int) ≤ (k : Int) := Int.natCast_nonneg _
        have hk1 : (k : Int) < (n : Int) := by omega
        by_cases he : x = y
        · subst he
          have hq : ((x : Int) == (x : Int)) = true := by simp
          go_wp2_with fail
          go_quiet (fail)
          go_wp2
          go_roundw
          case rel => exact ⟨k + 1, by omega, by go_num, hst.out (by first | rfl | trivial), _, rfl⟩
          case measure => simp [intOf]; omega
        · have hq : ((x : Int) == (y : Int)) = false := by simp; omega
          have hq2 : ((x : Int) != (y : Int)) = true := by simp; omega
          have hr : Hid (decide (a = b) = false) := hne.out he
          go_wp2_with fail
          go_quiet (fail)
          go_wp2
          go_ret
          rw [hr.out]
          exact ⟨rfl, _, World.drewN_drewN _ _ _⟩
      · have hr : Hid (decide (a = b) = true) := by
          have := ht.out
          have e1 := hN.out
          have e2 := hM.out
          rw [List.take_of_length_le (by omega), List.take_of_length_le (by omega)] at this
          unfold Hid; simpa using this
        clear hA hB ht
        have hk1 : ¬ (k : Int) < (n : Int) := by omega
        go_wp2
        go_ret
        rw [hr.out]
        exact ⟨rfl, _, rfl⟩
  · have hr : decide (a = b) = false := by
      simp only [decide_eq_false_iff_not]
      intro e; subst e; exact hl (hN.out.symm.trans hM.out)
    rw [hr]
    have hl' : ¬ (n : Int) = (m : Int) := by omega
    clear hA hB hr
    go_enter Tryz.func20, Tryz.ntmps20
    go_wp2
    go_ret
    exact ⟨rfl, 0, rfl⟩

end Go.Proofs.YtiljkgoafknefaaGreat

/- The plain answers of layer 3: OfBytes, Resize, Word, Bytes. -/
namespace Go.Proofs.YtiljkgoafknefaaGreat
open Go.RowKit

/-- The error's number, where a number is put into n words. -/
def resCode (V : Nat) (n : Int) : Int := if 300 < n then 2 else if n < 0 ∨ n.toNat < wordsN V then 1 else 0

/-- The words then. -/
def resList (V : Nat) (n : Int) : List Nat := if resCode V n = 0 then digs 18446744073709551616 V n.toNat else []

theorem res_long {V : Nat} {n : Int} (h : 300 < n) : resCode V n = 2 ∧ resList V n = [] := by
  have e : resCode V n = 2 := if_pos h
  exact ⟨e, by unfold resList; rw [if_neg (by rw [e]; decide)]⟩

theorem res_range {V : Nat} {n : Int} (h : ¬ 300 < n) (h2 : n < 0 ∨ n.toNat < wordsN V) : resCode V n = 1 ∧ resList V n = [] := by
  have e : resCode V n = 1 := by unfold resCode; rw [if_neg h, if_pos h2]
  exact ⟨e, by unfold resList; rw [if_neg (by rw [e]; decide)]⟩

theorem res_ok {V n : Nat} (h : n ≤ 300) (h2 : wordsN V ≤ n) : resCode V (n : Int) = 0 ∧ resList V (n : Int) = digs 18446744073709551616 V n := by
  have e : resCode V (n : Int) = 0 := by unfold resCode; rw [if_neg (by omega), if_neg (by simp; omega)]
  exact ⟨e, by unfold resList; rw [if_pos e, Int.toNat_natCast]⟩

/-- How many words a word is put into. -/
def clampN (n : Int) : Nat := (min (max n 1) 300).toNat

end Go.Proofs.YtiljkgoafknefaaGreat


/- Melted of: BigMod BigGcd BigExp BigInv. -/

/- The plain rest, and reckoning with members. -/
namespace Go.Proofs.YtiljkgoafknefaaGreat
open Go.RowKit

attribute [local go_sem ↓] Go.wp_at_zero Go.wp_at_succ

theorem rMod (u v : Value) (A M : Nat) (w : World) (hu : IsBig w u A) (hv : IsBig w v M) (hM : 0 < M) (hla : dlen A ≤ 10000000) :
    Calls Tryz.prog 27 #[u, v] w fun r w' => ∃ v', r = .returned v' ∧ IsBig w' v' (A % M) ∧ (∀ b, v'.ownBlock = some b → u.ownBlock = some b ∨ w.heap.size ≤ b) ∧ Kept Nought w w' := by
  have hD := rDivMod u v A M w hu hv hM hla
  clear hu hv hM hla
  go_enter Tryz.func27, Tryz.ntmps27
  go_wp2_with fail
  refine hD.mono ?_
  rintro e w1 ⟨v1, v2, rfl, b1, b2, o1, o2, k⟩
  go_wp2
  go_ret
  exact ⟨v2, rfl, b2, o2, k⟩

theorem rMulMod (u v m : Value) (A B M : Nat) (w : World) (hu : IsBig w u A) (hv : IsBig w v B) (hm : IsBig w m M) (hM : 0 < M) (hla : dlen A ≤ 100000000) (hlb : dlen B ≤ 100000000) (hab : dlen (A * B) ≤ 10000000) :
    Calls Tryz.prog 29 #[u, v, m] w fun r w' => ∃ v', r = .returned v' ∧ IsBig w' v' (A * B % M) ∧ (∀ b, v'.ownBlock = some b → w.heap.size ≤ b) ∧ Kept Nought w w' := by
  have hD := rMul u v A B w hu hv hla hlb
  clear hu hv hla hlb
  go_enter Tryz.func29, Tryz.ntmps29
  go_wp2_with fail
  refine hD.mono ?_
  rintro e w1 ⟨v1, rfl, b1, o1, k1⟩
  go_wp2_with fail
  refine (rMod v1 m (A * B) M w1 b1 (hm.grew k1) hM hab).mono ?_
  rintro e w2 ⟨v2, rfl, b2, o2, k2⟩
  go_wp2
  go_ret
  exact ⟨v2, rfl, b2, fun b hb => (o2 b hb).elim (fun h => o1 b h) (fun h => Nat.le_trans k1.size h), k1.trans k2⟩

/-- of two members, A - B modulo M -/
theorem rSubMod (u v m : Value) (A B M : Nat) (w : World) (hu : IsBig w u A) (hv : IsBig w v B) (hm : IsBig w m M) (hB : B ≤ A + M) (hla : dlen A ≤ 100000000) (hlb : dlen M ≤ 100000000) :
    Calls Tryz.prog 80 #[u, v, m] w fun r w' => ∃ v', r = .returned v' ∧ IsBig w' v' (if B ≤ A then A - B else A + M - B) ∧ (∀ b, v'.ownBlock = some b → w.heap.size ≤ b) ∧ Kept Nought w w' := by
  have hC := rCmp u v A B w hu hv
  by_cases hlt : A < B
  · rw [cmpN_lt hlt] at hC
    rw [if_neg (by omega)]
    clear hlt
    go_enter Tryz.func80, Tryz.ntmps80
    go_wp2_with fail
    refine hC.mono ?_
    rintro e w1 ⟨rfl, n1, rfl⟩
    have k1 : Kept Nought w (w.drewN n1) := (Kept.refl _ _).drewN n1
    go_wp2_with fail
    refine (rAdd u m A M _ (hu.grew k1) (hm.grew k1) hla hlb).mono ?_
    rintro e w2 ⟨v2, rfl, b2, o2, k2⟩
    have k12 := k1.trans k2
    go_wp2_with fail
    refine (rSub v2 v (A + M) B _ b2 (hv.grew k12) hB).mono ?_
    rintro e w3 ⟨v3, rfl, b3, o3, k3⟩
    go_wp2
    go_ret
    exact ⟨v3, rfl, b3, fun b hb => Nat.le_trans k12.size (o3 b hb), k12.trans k3⟩
  · have hcc : ¬ cmpN A B < 0 := by unfold cmpN; rw [if_neg hlt]; split <;> decide
    have hle : B ≤ A := by omega
    rw [if_pos hle]
    obtain ⟨cc, hcc2⟩ : ∃ cc, cc = cmpN A B := ⟨_, rfl⟩
    rw [← hcc2] at hC hcc
    clear hcc2 hlt
    go_enter Tryz.func80, Tryz.ntmps80
    go_wp2_with fail
    refine hC.mono ?_
    rintro e w1 ⟨rfl, n1, rfl⟩
    have k1 : Kept Nought w (w.drewN n1) := (Kept.refl _ _).drewN n1
    go_wp2_with fail
    refine (rSub u v A B _ (hu.grew k1) (hv.grew k1) hle).mono ?_
    rintro e w3 ⟨v3, rfl, b3, o3, k3⟩
    go_wp2
    go_ret
    exact ⟨v3, rfl, b3, fun b hb => Nat.le_trans k1.size (o3 b hb), k1.trans k3⟩

end Go.Proofs.YtiljkgoafknefaaGreat

/- The plain greatest divisor. -/
namespace Go.Proofs.YtiljkgoafknefaaGreat
open Go.RowKit

attribute [local go_sem ↓] Go.wp_at_zero Go.wp_at_succ

/-- The number that a cell holds, 0 where it holds none. -/
def cellN (w : World) (a : Addr) : Nat :=
  match w.cell? a with
  | some (.int _ z) => z.toNat
  | _ => 0

/-- The number that a slice is, 0 where it is none. -/
def bigOf (w : World) : Value → Nat
  | .slice (some a) n _ => val 4294967296 ((List.range n).map fun i => cellN w ⟨a.block, a.off + i, none⟩)
  | _ => 0

theorem IsBig.of {w : World} {v : Value} {V : Nat} (h : IsBig w v V) : bigOf w v = V := by
  obtain ⟨ds, h1, _, _, rfl, _⟩ := h
  obtain ⟨ao, cap, rfl, _, _, _, hc⟩ := h1
  cases ao with
  | none =>
    have : ds = [] := by
      rcases ds with _ | ⟨d, r⟩
      · rfl
      · obtain ⟨b, off, e, _⟩ := hc 0 (by simp)
        cases e
    subst this
    rfl
  | some a =>
    show val 4294967296 ((List.range ds.length).map fun i => cellN w ⟨a.block, a.off + i, none⟩) = _
    congr 1
    refine List.ext_getElem (by simp) (fun i h1 h2 => ?_)
    obtain ⟨b, off, e, hcell⟩ := hc i h2
    cases e
    rw [List.getElem_map, List.getElem_range]
    unfold cellN
    rw [hcell, List.getD_eq_getElem?_getD, List.getElem?_eq_getElem h2]
    simp

/-- A number as a slice: its length is 0 or above it, as the number is. -/
theorem IsBig.length {w : World} {v : Value} {V : Nat} (h : IsBig w v V) : ∃ ao n cap, v = .slice ao n cap ∧ Hid (n = dlen V) ∧ n ≤ 1000000000 := by
  obtain ⟨ds, h1, h2, h3, h4, h5⟩ := h
  obtain ⟨ao, n, cap, e, hN, _⟩ := h1.open
  refine ⟨ao, n, cap, e, ?_, by rw [← hN.out]; exact h5⟩
  have := len_dlen h2 h3
  rw [h4] at this
  unfold Hid
  rw [← this, hN.out]

theorem dlen_pos {A : Nat} (h : 0 < A) : 0 < dlen A := by
  rcases Nat.eq_zero_or_pos (dlen A) with h0 | h0
  · have := (dlen_le A 0).1 (by omega)
    rw [Nat.pow_zero] at this
    omega
  · exact h0

set_option maxHeartbeats 400000 in
theorem rGcd (u v : Value) (A B : Nat) (w : World) (hu : IsBig w u A) (hv : IsBig w v B) (hla : dlen A ≤ 10000000) (hlb : dlen B ≤ 10000000) :
    Calls Tryz.prog 47 #[u, v] w fun r w' => ∃ v', r = .returned v' ∧ IsBig w' v' (Nat.gcd A B) ∧ (∀ b, v'.ownBlock = some b → u.ownBlock = some b ∨ v.ownBlock = some b ∨ w.heap.size ≤ b) ∧ Kept Nought w w' := by
  go_enter Tryz.func47, Tryz.ntmps47
  go_wp2_with fail
  go_loopw [0, 1] (fun a b wr => ∃ (C D : Nat), IsBig wr a C ∧ IsBig wr b D ∧ Hid (Nat.gcd C D = Nat.gcd A B) ∧ Hid (dlen C ≤ 10000000) ∧ Hid (dlen D ≤ 10000000) ∧ Hid (∀ x, a.ownBlock = some x → u.ownBlock = some x ∨ v.ownBlock = some x ∨ w.heap.size ≤ x) ∧ Hid (∀ x, b.ownBlock = some x → u.ownBlock = some x ∨ v.ownBlock = some x ∨ w.heap.size ≤ x) ∧ Kept Nought w wr) (fun _ b wr => bigOf wr b)
  case atStart => exact ⟨A, B, hu, hv, rfl, hla, hlb, fun x h => .inl h, fun x h => .inr (.inl h), Kept.refl _ _⟩
  case round =>
    clear hu hv hla hlb
    obtain ⟨C, D, hc, hd, hg, lc, ld, oc, od, hk⟩ := hrel
    obtain ⟨ao, n, cap, rfl, hn, hn9⟩ := hd.length
    rcases Nat.eq_zero_or_pos D with h0 | h0
    · have hn0 : n = 0 := by rw [hn.out, h0]; rfl
      subst hn0
      have hg2 : Hid (C = Nat.gcd A B) := by have := hg.out; rw [h0, Nat.gcd_zero_right] at this; exact this
      clear hg h0 hn
      go_wp2
      go_ret
      exact ⟨_, rfl, by rw [← hg2.out]; exact hc, oc.out, hk⟩
    · have hn1 : 0 < n := by rw [hn.out]; exact dlen_pos h0
      have hM := rMod _ _ C D wr hc hd h0 lc.out
      have hlt := Nat.mod_lt C h0
      have hof := hd.of
      go_wp2_with fail
      refine hM.mono ?_
      rintro e w1 ⟨v1, rfl, b1, o1, k1⟩
      go_wp2
      go_roundw
      case rel => exact ⟨D, C % D, hd.grew k1, b1, by unfold Hid; rw [← hg.out, Nat.gcd_comm D, ← Nat.gcd_rec, Nat.gcd_comm], ld, Nat.le_trans (dlen_mono (Nat.mod_le _ _)) lc.out, od, fun x hx => (o1 x hx).elim (oc.out x) (fun h => .inr (.inr (Nat.le_trans hk.size h))), hk.trans k1⟩
      case measure => rw [b1.of, hof]; exact hlt

end Go.Proofs.YtiljkgoafknefaaGreat

/- The plain power. -/
namespace Go.Proofs.YtiljkgoafknefaaGreat
open Go.RowKit

attribute [local go_sem ↓] Go.wp_at_zero Go.wp_at_succ

theorem dlen_mul (A B : Nat) : dlen (A * B) ≤ dlen A + dlen B := by
  have h1 := (dlen_le A _).1 (Nat.le_refl _)
  have h2 := (dlen_le B _).1 (Nat.le_refl _)
  refine (dlen_le _ _).2 ?_
  rw [Nat.pow_add]
  exact Nat.mul_lt_mul'' h1 h2

end Go.Proofs.YtiljkgoafknefaaGreat

/- The plain inverse. -/
namespace Go.Proofs.YtiljkgoafknefaaGreat
open Go.RowKit

attribute [local go_sem ↓] Go.wp_at_zero Go.wp_at_succ

/-- A times T is R, modulo M. -/
def Cong (A M T R : Nat) : Prop := (M : Int) ∣ (A : Int) * T - R

theorem cong_start0 (A M : Nat) : Cong A M 0 M := by
  unfold Cong
  exact ⟨-1, by simp⟩

theorem cong_start1 (A M : Nat) : Cong A M 1 (A % M) := by
  unfold Cong
  refine ⟨((A / M : Nat) : Int), ?_⟩
  have h : ((M * (A / M) + A % M : Nat) : Int) = A := by rw [Nat.div_add_mod]
  rw [Int.natCast_add, Int.natCast_mul] at h
  omega

theorem cong_step {A M T0 T1 R0 R1 : Nat} (h0 : Cong A M T0 R0) (h1 : Cong A M T1 R1) (S : Nat) (hM : 0 < M)
    (hS : S = if R0 / R1 * T1 % M ≤ T0 then T0 - R0 / R1 * T1 % M else T0 + M - R0 / R1 * T1 % M) : Cong A M S (R0 % R1) := by
  unfold Cong at *
  obtain ⟨a, ha⟩ := h0
  obtain ⟨b, hb⟩ := h1
  have hq : ((R1 * (R0 / R1) + R0 % R1 : Nat) : Int) = R0 := by rw [Nat.div_add_mod]
  have hz : ((M * (R0 / R1 * T1 / M) + R0 / R1 * T1 % M : Nat) : Int) = ((R0 / R1 * T1 : Nat) : Int) := by rw [Nat.div_add_mod]
  have hzl := Nat.mod_lt (R0 / R1 * T1) hM
  generalize R0 / R1 * T1 / M = k at *
  generalize hZ : R0 / R1 * T1 % M = Z at *
  clear hZ
  generalize R0 / R1 = q at *
  generalize R0 % R1 = r at *
  push_cast at hq hz
  by_cases hc : Z ≤ T0
  · rw [if_pos hc] at hS
    have hS2 : (S : Int) = T0 - Z := by omega
    refine ⟨a - q * b + A * k, ?_⟩
    rw [hS2]
    grind
  · rw [if_neg hc] at hS
    have hS2 : (S : Int) = T0 + M - Z := by omega
    refine ⟨a - q * b + A * k + A, ?_⟩
    rw [hS2]
    grind

theorem cong_one {A M T : Nat} (h : Cong A M T 1) (hM : 1 < M) : A * T % M = 1 := by
  unfold Cong at h
  obtain ⟨k, hk⟩ := h
  have h1 : ((A * T : Nat) : Int) = M * k + 1 := by push_cast; omega
  have h2 : ((A * T % M : Nat) : Int) = 1 := by
    rw [Int.natCast_emod, h1, Int.add_comm, Int.add_mul_emod_self_left]
    exact Int.emod_eq_of_lt (by omega) (by omega)
  omega

theorem sub_member {T0 Z M : Nat} (h0 : T0 < M) (hz : Z < M) : (if Z ≤ T0 then T0 - Z else T0 + M - Z) < M := by
  split <;> omega

set_option maxHeartbeats 600000 in
theorem rInverse (u m : Value) (A M : Nat) (w : World) (hu : IsBig w u A) (hm : IsBig w m M) (hM : 1 < M) (hla : dlen A ≤ 10000000) (hlm : dlen M ≤ 1000000) :
    Calls Tryz.prog 50 #[u, m] w fun r w' => ∃ v', r = .returned (.tuple #[v', .bool (decide (Nat.gcd A M = 1))]) ∧ (Nat.gcd A M = 1 → ∃ T, T < M ∧ A * T % M = 1 ∧ IsBig w' v' T) ∧ (Nat.gcd A M ≠ 1 → v' = .slice none 0 0) ∧ (∀ b, v'.ownBlock = some b → w.heap.size ≤ b) ∧ Kept Nought w w' := by
  have hD := rMod u m A M w hu hm (by omega) hla
  have hS := fun W => rSmall 1 (by omega) W
  clear hu hla
  have hgc : Hid (Nat.gcd M (A % M) = Nat.gcd A M) := by unfold Hid; rw [Nat.gcd_comm M, ← Nat.gcd_rec, Nat.gcd_comm]
  go_enter Tryz.func50, Tryz.ntmps50
  go_wp2_with fail
  refine hD.mono ?_
  rintro e w1 ⟨v1, rfl, b1, o1, k1⟩
  clear hD
  go_wp2_with fail
  refine (hS _).mono ?_
  rintro e w2 ⟨v2, rfl, b2, o2, k2⟩
  have k12 := k1.trans k2
  go_wp2_with fail
  go_loopw [6, 7, 8, 9] (fun r0 r1 t0 t1 wr => ∃ (R0 R1 T0 T1 : Nat), IsBig wr r0 R0 ∧ IsBig wr r1 R1 ∧ IsBig wr t0 T0 ∧ IsBig wr t1 T1 ∧ Hid (Nat.gcd R0 R1 = Nat.gcd A M) ∧ Hid (R1 < R0) ∧ Hid (R0 ≤ M) ∧ Hid (T0 < M) ∧ Hid (T1 < M) ∧ Hid (Cong A M T0 R0) ∧ Hid (Cong A M T1 R1) ∧ Hid (∀ x, t0.ownBlock = some x → w.heap.size ≤ x) ∧ Hid (∀ x, t1.ownBlock = some x → w.heap.size ≤ x) ∧ Kept Nought w2 wr) (fun _ b _ _ wr => bigOf wr b)
  case atStart => exact ⟨M, A % M, 0, 1, hm.grew k12, b1.grew k2, IsBig.nil _, b2, hgc, Nat.mod_lt _ (by omega), Nat.le_refl _, by unfold Hid; omega, hM, cong_start0 A M, cong_start1 A M, fun x h => (by cases h), fun x h => Nat.le_trans k1.size (o2 x h), Kept.refl _ _⟩
  case round =>
    clear b1 o1 b2 o2 k1 k2 hgc
    obtain ⟨R0, R1, T0, T1, c0, c1, d0, d1, hg, hlt, hle, l0, l1, g0, g1, x0, x1, hk⟩ := hrel
    have KW := k12.trans hk
    obtain ⟨ao, n, cap, rfl, hn, hn9⟩ := c1.length
    rcases Nat.eq_zero_or_pos R1 with h0 | h0
    · have hn0 : n = 0 := by rw [hn.out, h0]; rfl
      subst hn0
      have hg2 : Hid (R0 = Nat.gcd A M) := by have := hg.out; rw [h0, Nat.gcd_zero_right] at this; exact this
      clear hg h0 hn g1 c1 d1 hlt hle l1 x1
      have hC := fun W v (hk : Kept Nought wr W) (hv : IsBig W v 1) => rCmp _ v R0 1 W (c0.grew hk) hv
      by_cases h1 : R0 = 1
      · have hc1 : cmpN R0 1 = 0 := by rw [h1]; rfl
        rw [hc1] at hC
        have hgg : Nat.gcd A M = 1 := by rw [← hg2.out]; exact h1
        rw [h1] at g0
        have hT : Hid (A * T0 % M = 1) := cong_one g0.out hM
        have HG : Hid (Nat.gcd A M = 1) := hgg
        clear hgg hg2 g0 hc1 h1 c0
        go_wp2_with fail
        refine (hS _).mono ?_
        rintro e w3 ⟨v3, rfl, b3, o3, k3⟩
        go_wp2_with fail
        refine (hC _ _ k3 b3).mono ?_
        rintro e w4 ⟨rfl, n4, rfl⟩
        have k4 : Kept Nought w3 (w3.drewN n4) := (Kept.refl _ _).drewN n4
        go_wp2
        go_ret2
        exact ⟨_, by rw [decide_eq_true HG.out]; rfl, fun _ => ⟨T0, l0.out, hT.out, d0.grew (k3.trans k4)⟩, fun h => absurd HG.out h, x0.out, KW.trans (k3.trans k4)⟩
      · have hc1 : cmpN R0 1 ≠ 0 := by
          unfold cmpN
          by_cases ha : R0 < 1
          · rw [if_pos ha]; decide
          · rw [if_neg ha]
            first
              | (rw [if_pos (show 1 < R0 by omega)]; decide)
              | (rw [if_neg (show ¬ R0 = 1 from h1)]; decide)
        obtain ⟨cc, hcc⟩ : ∃ cc, cc = cmpN R0 1 := ⟨_, rfl⟩
        rw [← hcc] at hC hc1
        have HG : Hid (Nat.gcd A M ≠ 1) := by unfold Hid; rw [← hg2.out]; exact h1
        clear hg2 g0 hcc h1 c0 d0 l0 x0
        go_wp2_with fail
        refine (hS _).mono ?_
        rintro e w3 ⟨v3, rfl, b3, o3, k3⟩
        go_wp2_with fail
        refine (hC _ _ k3 b3).mono ?_
        rintro e w4 ⟨rfl, n4, rfl⟩
        have k4 : Kept Nought w3 (w3.drewN n4) := (Kept.refl _ _).drewN n4
        go_wp2
        go_ret2
        exact ⟨.slice none 0 0, by rw [decide_eq_false HG.out]; rfl, fun h => absurd h HG.out, fun _ => rfl, fun b hb => (by cases hb), KW.trans (k3.trans k4)⟩
    · have hn1 : 0 < n := by rw [hn.out]; exact dlen_pos h0
      have hD := rDivMod _ _ R0 R1 wr c0 c1 h0 (Nat.le_trans (dlen_mono hle.out) (by omega))
      have hmod := Nat.mod_lt R0 h0
      have hof := c1.of
      have hQ : R0 / R1 ≤ M := Nat.le_trans (Nat.div_le_self _ _) hle.out
      have q1 : dlen (R0 / R1) ≤ 1000000 := Nat.le_trans (dlen_mono hQ) hlm
      have q2 : dlen T1 ≤ 1000000 := Nat.le_trans (dlen_mono (Nat.le_of_lt l1.out)) hlm
      have q3 : dlen T0 ≤ 1000000 := Nat.le_trans (dlen_mono (Nat.le_of_lt l0.out)) hlm
      have q4 := dlen_mul (R0 / R1) T1
      obtain ⟨S, hSd⟩ : ∃ S, S = if R0 / R1 * T1 % M ≤ T0 then T0 - R0 / R1 * T1 % M else T0 + M - R0 / R1 * T1 % M := ⟨_, rfl⟩
      have gS : Hid (Cong A M S (R0 % R1)) := cong_step g0.out g1.out S (by omega) hSd
      have hzl := Nat.mod_lt (R0 / R1 * T1) (show M > 0 by omega)
      have lS : Hid (S < M) := by unfold Hid; rw [hSd]; exact sub_member l0.out hzl
      have hg3 : Hid (Nat.gcd R1 (R0 % R1) = Nat.gcd A M) := by unfold Hid; rw [← hg.out, Nat.gcd_comm R1, ← Nat.gcd_rec, Nat.gcd_comm]
      have HSd : Hid (S = _) := hSd
      have hle1 : Hid (R1 ≤ M) := Nat.le_trans (Nat.le_of_lt hlt.out) hle.out
      clear hSd hg g0 c0
      go_wp2_with fail
      refine hD.mono ?_
      rintro e w3 ⟨vq, vr, rfl, bq, br, oq, orr, k3⟩
      have K3 := KW.trans k3
      go_wp2_with fail
      refine (rMulMod vq _ m (R0 / R1) T1 M w3 bq (d1.grew k3) (hm.grew K3) (by omega) (by omega) (by omega) (by omega)).mono ?_
      rintro e w4 ⟨v4, rfl, b4, o4, k4⟩
      have K4 := K3.trans k4
      go_wp2_with fail
      refine (rSubMod _ v4 m T0 (R0 / R1 * T1 % M) M w4 (d0.grew (k3.trans k4)) b4 (hm.grew K4) (by omega) (by omega) (by omega)).mono ?_
      rintro e w5 ⟨v5, rfl, b5, o5, k5⟩
      rw [← HSd.out] at b5
      have K5 := K4.trans k5
      go_wp2
      go_roundw
      case rel => exact ⟨R1, R0 % R1, T1, S, c1.grew ((k3.trans k4).trans k5), (br.grew k4).grew k5, d1.grew ((k3.trans k4).trans k5), b5, hg3, hmod, hle1, l1, lS, g1, gS, x1, fun x hx => Nat.le_trans K4.size (o5 x hx), ((hk.trans k3).trans k4).trans k5⟩
      case measure => rw [((br.grew k4).grew k5).of, hof]; exact hmod

end Go.Proofs.YtiljkgoafknefaaGreat


/- The plain side of layer 17 (package sconceref16): odd, Strong. -/
namespace Go.Proofs.YtiljkgoafknefaaGreat
open Go.RowKit

theorem bigLow {w : World} {v : Value} {X : Nat} (h : IsBig w v X) (hX : 0 < X) : ∃ b off n cap d, v = .slice (some ⟨b, off, none⟩) n cap ∧ 0 < n ∧ w.cell? ⟨b, off, none⟩ = some (.int .u32 ((d : Nat) : Int)) ∧ d % 2 = X % 2 ∧ d < 4294967296 := by
  obtain ⟨ds, hr, hd, _, rfl, _⟩ := h
  cases ds with
  | nil => simp [val] at hX
  | cons d ds =>
    obtain ⟨ao, n, cap, rfl, hL, _, _, _, h4⟩ := hr.open
    have hn : 0 < n := by rw [← hL.out]; simp
    obtain ⟨b, off, rfl, hc⟩ := h4 0 hn
    refine ⟨b, off, n, cap, d, rfl, hn, by simpa using hc, ?_, hd d (by simp)⟩
    simp only [val]
    omega

end Go.Proofs.YtiljkgoafknefaaGreat

