/- The plain shifts. -/
import Derived.Test.YtnjmckfkfkalgaaBigAdd
namespace Go.Proofs.Ytnjmckfkfkalgaa
open Go.RowKit

theorem shl_step {a os : List Nat} {k c x s : Nat} (hl : os.length = k) (h : val 4294967296 os + 4294967296 ^ k * c = s * val 4294967296 (a.take k)) (hx : a.getD k 0 = x) :
    val 4294967296 (os ++ [(c + x * s) % 4294967296]) + 4294967296 ^ (k + 1) * ((c + x * s) / 4294967296) = s * val 4294967296 (a.take (k + 1)) := by
  rw [val_snoc, hl, val_take_succ, hx, Nat.pow_succ, Nat.add_assoc, carry_step, Nat.mul_add, Nat.mul_add]
  rw [← h]
  have e : 4294967296 ^ k * (x * s) = s * (4294967296 ^ k * x) := by rw [← Nat.mul_assoc, Nat.mul_comm]
  omega

theorem or_shl (c x n : Nat) (hn : n < 32) (hc : c < 2 ^ n) (hx : x < 4294967296) : bits .or .u64 (c : Int) ((x : Int) * 2 ^ n) = ((c + x * 2 ^ n : Nat) : Int) := by
  have hp : (2 : Nat) ^ n ≤ 2 ^ 31 := Nat.pow_le_pow_right (by omega) (by omega)
  have hm : x * 2 ^ n ≤ 4294967295 * 2 ^ 31 := Nat.mul_le_mul (by omega) hp
  have h := u64_or_nat c (x * 2 ^ n) (by omega) (by omega)
  have hj := nat_join n (x * 2 ^ n) c (Nat.mul_mod_left _ _) hc
  rw [Nat.or_comm, hj] at h
  have e1 : (x : Int) * 2 ^ n = ((x * 2 ^ n : Nat) : Int) := by simp
  rw [e1, h]
  omega

theorem shl_carry (c x n : Nat) (hc : c < 2 ^ n) (hx : x < 4294967296) : (c + x * 2 ^ n) / 4294967296 < 2 ^ n := by
  rw [Nat.div_lt_iff_lt_mul (by omega)]
  have h : x * 2 ^ n ≤ 4294967295 * 2 ^ n := Nat.mul_le_mul_right _ (by omega)
  omega

theorem or_shl_wrap (c x n : Nat) (hn : n < 32) (hc : c < 2 ^ n) (hx : x < 4294967296) : bits .or .u64 (c : Int) (IntKind.u64.wrap ((x : Int) * 2 ^ n)) = ((c + x * 2 ^ n : Nat) : Int) := by
  have hp : (2 : Nat) ^ n ≤ 2 ^ 31 := Nat.pow_le_pow_right (by omega) (by omega)
  have hm : x * 2 ^ n ≤ 4294967295 * 2 ^ 31 := Nat.mul_le_mul (by omega) hp
  have e1 : (x : Int) * 2 ^ n = ((x * 2 ^ n : Nat) : Int) := by simp
  have e2 : IntKind.u64.wrap ((x : Int) * 2 ^ n) = (x : Int) * 2 ^ n := by
    rw [IntKind.wrap_u64, e1]
    generalize x * 2 ^ n = t at *
    omega
  rw [e2]
  exact or_shl c x n hn hc hx

theorem shl_lt (c x n : Nat) (hn : n < 32) (hc : c < 2 ^ n) (hx : x < 4294967296) : c + x * 2 ^ n < 9223372036854775808 := by
  have hp : (2 : Nat) ^ n ≤ 2 ^ 31 := Nat.pow_le_pow_right (by omega) (by omega)
  have hm : x * 2 ^ n ≤ 4294967295 * 2 ^ 31 := Nat.mul_le_mul (by omega) hp
  omega

/-- make with a length and more room. -/
theorem wpList_make_room {P : Program} (w : World) {ops : Array Oper} {rest : List Oper} {o : Oper} {a : Act} {Q : Exit → Act → World → Prop}
    (hg : o.guard = none) (l c : Operand) (t : TypeId) (hop : o.op = Op.makeSlice t l c)
    (e : TypeId) (i : TypeInfo) (k : IntKind) (h1 : P.underlying t = some (.slice e)) (h2 : P.info? e = some i) (h3 : i.zero = some (.int k 0)) (h4 : i.size = 1)
    (kl kc : IntKind) (L C : Int) (n m : Nat) (hl : a.eval l = .int kl L) (hc : a.eval c = .int kc C) (hL : L = (n : Int)) (hC : C = (m : Int)) (hnm : n ≤ m) (b2 : i.bytes * m ≤ 281474976710656) (b3 : m ≤ maxLen)
    (hK : ∀ w', OwnN k e w' w.heap.size (.slice (some ⟨w.heap.size, 0, none⟩) n m) n (List.replicate n 0) → Kept Nought w w' → wpList P ops Q rest (a.put o.dst (.slice (some ⟨w.heap.size, 0, none⟩) n m)) w') :
    wpList P ops Q (o :: rest) a w := by
  refine wpList_plain hg fun K hK' => ?_
  have b3' : (m : Int) ≤ 9223372036854775807 := by unfold maxLen at b3; omega
  have hb' : (i.bytes : Int) * (m : Int) ≤ 281474976710656 := by
    have h : ((i.bytes * m : Nat) : Int) ≤ 281474976710656 := by omega
    rwa [Int.natCast_mul] at h
  have hr := run_make (P := P) w t e i (.int k 0) h1 h2 h3 kl kc n m (by omega) (by omega) hb' b3'
  simp only [Int.toNat_natCast] at hr
  subst hL
  subst hC
  unfold Oper.wp
  simp [execOp, hop, hl, hc, hr, Result.andThen]
  refine hK' _ _ (hK _ ?_ ((Kept.refl Nought w).alloc _))
  refine ⟨by simp, .inr ⟨w.heap.size, m, _, rfl, Nat.le_refl _, Go.heap_alloc_new w _, hnm, b3, ?_, ?_⟩⟩
  · rw [size_madeCells, h4]
  · rw [h4, Nat.mul_one, Nat.mul_one, List.map_replicate]
    show (madeCells #[Value.int k 0] m).toList.take n = _
    rw [toList_madeCells_one, List.take_replicate, Nat.min_eq_left hnm]
    rfl

theorem val_pad (n : Nat) (os : List Nat) : val 4294967296 (List.replicate n 0 ++ os) = 4294967296 ^ n * val 4294967296 os := by
  rw [val_append, val_zeros 4294967296 (l := List.replicate n 0) (fun d hd => by simp at hd; exact hd.2), List.length_replicate]
  omega

set_option maxRecDepth 100000 in
set_option maxHeartbeats 800000 in
theorem rShlOwn (v : Value) (A n : Nat) (w : World) (hv : IsBig w v A) (hlen : dlen A ≤ 100000000) (hn : n ≤ 1000000000) :
    Calls Try.prog 50 #[v, .int .i64 n] w fun r w' => ∃ v', r = .returned v' ∧ OwnBig w' w.heap.size v' (2 ^ n * A) ∧ Kept Nought w w' := by
  obtain ⟨i0, hi0, hz0, hz1, hz2⟩ := info_parts Try.info70
  obtain ⟨a, ra, da, ta, rfl, la⟩ := hv
  have la' : a.length ≤ 100000000 := by rw [len_dlen da ta]; exact hlen
  have xa := fun i => da.getD (by omega) i
  obtain ⟨ao, m, ac, rfl, hM, _, _, _, h4⟩ := ra.open
  rw [hM.out] at la'
  clear ra la hlen da ta
  obtain ⟨q, hq⟩ : ∃ q, q = n / 32 := ⟨_, rfl⟩
  obtain ⟨s, hs⟩ : ∃ s, s = n % 32 := ⟨_, rfl⟩
  have hs32 : s < 32 := by omega
  have hq' : q ≤ 100000000 := by omega
  have HE : Hid (2 ^ n = 4294967296 ^ q * 2 ^ s) := by
    unfold Hid
    rw [show (4294967296 : Nat) ^ q = 2 ^ (32 * q) from by rw [Nat.pow_mul], ← Nat.pow_add]
    congr 1; omega
  have n0 : (n : Int) / 32 = (q : Int) := by omega
  have n1 : (n : Int) % 32 = (s : Int) := by omega
  have n2 : n % 32 = s := hs.symm
  have n3 : n / 32 = q := hq.symm
  clear hq hs
  have HR : Hid (4294967296 ^ q * (2 ^ s * val 4294967296 a) = 2 ^ n * val 4294967296 a) := by unfold Hid; rw [HE.out, Nat.mul_assoc]
  clear HE
  go_enter Try.func50, Try.ntmps50
  go_wp2_with (at_make; refine wpList_make_room _ rfl _ _ 51 rfl 70 i0 .u32 Try.underlying51 hi0 hz0 hz1 _ _ _ _ q (q + m + 1) rfl rfl (by omega) (by omega) (by omega) (by rw [hz2]; omega) (by unfold maxLen; omega) ?_; intro w1 ho1 k1)
  go_loopw [5, 6, 20] (fun o c i wr => ∃ (k c' : Nat) (os : List Nat), k ≤ m ∧ Hid (c' < 2 ^ s) ∧ c' < 4294967296 ∧ i = .int .i64 k ∧ c = .int .u64 (c' : Nat) ∧ Hid (os.length = k) ∧ Digs 4294967296 os ∧ OwnN .u32 70 wr w.heap.size o (q + k) (List.replicate q 0 ++ os) ∧ Kept Nought w wr ∧
      Hid (val 4294967296 os + 4294967296 ^ k * c' = 2 ^ s * val 4294967296 (a.take k))) (fun _ _ i _ => m - (intOf i).toNat)
  case atStart => exact ⟨0, 0, [], Nat.zero_le _, Nat.pow_pos (by omega), by omega, rfl, rfl, rfl, Digs.nil _, by rw [List.append_nil]; exact ho1, k1, by unfold Hid; simp [val]⟩
  case round =>
    clear ho1 k1
    obtain ⟨k, c, os, hk, hc, hc', rfl, rfl, HL, hod, ho, hkp, HV⟩ := hrel
    by_cases hlt : k < m
    · obtain ⟨b, off, rfl, hcell⟩ := (h4 k hlt).grew hkp
      have hx := xa k
      have HS : Hid (val 4294967296 (os ++ [(c + a.getD k 0 * 2 ^ s) % 4294967296]) + 4294967296 ^ (k + 1) * ((c + a.getD k 0 * 2 ^ s) / 4294967296) = 2 ^ s * val 4294967296 (a.take (k + 1))) := shl_step HL.out HV.out rfl
      have HO := or_shl_wrap c _ s hs32 hc.out hx
      have HC : Hid ((c + a.getD k 0 * 2 ^ s) / 4294967296 < 2 ^ s) := shl_carry c _ s hc.out hx
      have hT := shl_lt c _ s hs32 hc.out hx
      clear xa h4 HV
      generalize a.getD k 0 = x at *
      generalize c + x * 2 ^ s = T at *
      have g1 : (k : Int) < (m : Int) := by omega
      have e1 : Hid ((T : Int) % 4294967296 = ((T % 4294967296 : Nat) : Int)) := by unfold Hid; omega
      have e2 : Hid ((T : Int) / 4294967296 = ((T / 4294967296 : Nat) : Int)) := by unfold Hid; omega
      go_wp2_with (at_builtin; refine wpList_append_lies _ rfl _ _ 51 rfl w.heap.size 70 i0 _ 1 4 Try.underlying51 hi0 hz0 hz1 hz2 rfl (by omega) _ _ _ rfl (ho.alloc _) ⟨wr.heap.size, 0, none⟩ 1 1 [.int .u32 ((T : Int) % 4294967296)] rfl rfl (new1_cells wr _ _) (by simp [Value.oneCell']) (by omega) (by unfold maxLen; omega) (by omega) (by have := hkp.size; simp; omega) (wr.heap.size + 1) (by simp) ?_; intro gg c' w4 ho4 hg hat hgl)
      have hk5 : Kept Nought w w4 := (hkp.alloc _).grown hg (fun b hb hlt => by have := (ho.lt b hb).1; omega)
      rw [e1.out] at ho4
      rw [e2.out]
      go_roundw
      case rel => exact ⟨k + 1, T / 4294967296, os ++ [T % 4294967296], by omega, HC, by omega, by go_num, rfl, by unfold Hid; rw [List.length_append, HL.out]; rfl, hod.append (Digs.one (Nat.mod_lt _ (by omega))), by unfold OwnN; rw [← List.append_assoc, List.map_append]; exact ho4, hk5, HS⟩
      case measure => simp [intOf]; omega
    · have g1 : ¬ (k : Int) < (m : Int) := by omega
      have hv2 : Hid (val 4294967296 (List.replicate q 0 ++ (os ++ [c])) = 2 ^ n * val 4294967296 a) := by
        unfold Hid
        have := HV.out
        rw [List.take_of_length_le (by have := hM.out; omega)] at this
        rw [val_pad, val_snoc, HL.out, this]
        exact HR.out
      clear xa h4 HV HR
      go_wp2_with (at_builtin; refine wpList_append_lies _ rfl _ _ 51 rfl w.heap.size 70 i0 _ 1 4 Try.underlying51 hi0 hz0 hz1 hz2 rfl (by omega) _ _ _ rfl (ho.alloc _) ⟨wr.heap.size, 0, none⟩ 1 1 [.int .u32 (c : Int)] rfl rfl (new1_cells wr _ _) (by simp [Value.oneCell']) (by omega) (by unfold maxLen; omega) (by omega) (by have := hkp.size; simp; omega) (wr.heap.size + 1) (by simp) ?_; intro gg c' w4 ho4 hg hat hgl)
      have hk5 : Kept Nought w w4 := (hkp.alloc _).grown hg (fun b hb hlt => by have := (ho.lt b hb).1; omega)
      have hl5 : (List.replicate q 0 ++ (os ++ [c])).length = q + k + 1 := by rw [List.length_append, List.length_append, HL.out, List.length_replicate]; simp; omega
      have hd5 : Digs 4294967296 (List.replicate q 0 ++ (os ++ [c])) := Digs.append (fun d hd => by simp at hd; omega) (hod.append (Digs.one (by omega)))
      have ho5 : OwnN .u32 70 w4 w.heap.size (.slice (some ⟨gg, 0, none⟩) (q + k + 1) c') (q + k + 1) (List.replicate q 0 ++ (os ++ [c])) := by unfold OwnN; rw [← List.append_assoc, List.map_append]; exact ho4
      have ht := rTrimOwn _ _ _ _ _ ho5 hd5 (by omega)
      rw [hv2.out] at ht
      clear ho5
      refine ht.mono ?_
      rintro e w' ⟨v', rfl, hb, rfl⟩
      go_wp2
      go_ret
      exact ⟨v', rfl, hb, hk5⟩

theorem own_lt {w : World} {base : Nat} {v : Value} {V : Nat} (h : OwnBig w base v V) : ∀ b, v.ownBlock = some b → base ≤ b := by
  obtain ⟨ds, ho, _⟩ := h
  exact fun b hb => (ho.lt b hb).1

theorem rShl (v : Value) (A n : Nat) (w : World) (hv : IsBig w v A) (hlen : dlen A ≤ 100000000) (hn : n ≤ 1000000000) :
    Calls Try.prog 50 #[v, .int .i64 n] w fun r w' => ∃ v', r = .returned v' ∧ IsBig w' v' (2 ^ n * A) ∧ (∀ b, v'.ownBlock = some b → w.heap.size ≤ b) ∧ Kept Nought w w' := by
  refine (rShlOwn v A n w hv hlen hn).mono ?_
  rintro r w' ⟨v', rfl, ho, hk⟩
  exact ⟨v', rfl, ho.big, own_lt ho, hk⟩

end Go.Proofs.Ytnjmckfkfkalgaa
