/- The plain shifts. -/
import Derived.Test.YtnjmckfkfkalgabBigAdd
namespace Go.Proofs.Ytnjmckfkfkalgab
open Go.RowKit

theorem shl_step {a os : List Nat} {k c x s : Nat} (hl : os.length = k) (h : val 4294967296 os + 4294967296 ^ k * c = s * val 4294967296 (a.take k)) (hx : a.getD k 0 = x) :
    val 4294967296 (os ++ [(c + x * s) % 4294967296]) + 4294967296 ^ (k + 1) * ((c + x * s) / 4294967296) = s * val 4294967296 (a.take (k + 1)) := by
  rw [val_snoc, hl, val_take_succ, hx, Nat.pow_succ, Nat.add_assoc, carry_step, Nat.mul_add, Nat.mul_add]
  rw [← h]
  have e : 4294967296 ^ k * (x * s) = s * (4294967296 ^ k * x) := by rw [← Nat.mul_assoc, Nat.mul_comm]
  omega

theorem or_shl (c x n : Nat) (hn : n < 32) (hc : c < 2 ^ n) (hx : x < 4294967296) : bits .or .u64 (c : Int) ((x : Int) * 2 ^ n) = ((c + x * 2 ^ n : Nat) : Int) := by
  have hp : (2 : Nat) ^ n ≤ 2 ^ 31 := Nat.pow_le_pow_right (by omega) (by omega)
  have hm : x * 2 ^ n ≤ 4294967295 * 2 ^ 31 := Nat.mul_le_mul (by omega) hp
  have h := u64_or_nat c (x * 2 ^ n) (by omega) (by omega)
  have hj := nat_join n (x * 2 ^ n) c (Nat.mul_mod_left _ _) hc
  rw [Nat.or_comm, hj] at h
  have e1 : (x : Int) * 2 ^ n = ((x * 2 ^ n : Nat) : Int) := by simp
  rw [e1, h]
  omega

theorem shl_carry (c x n : Nat) (hc : c < 2 ^ n) (hx : x < 4294967296) : (c + x * 2 ^ n) / 4294967296 < 2 ^ n := by
  rw [Nat.div_lt_iff_lt_mul (by omega)]
  have h : x * 2 ^ n ≤ 4294967295 * 2 ^ n := Nat.mul_le_mul_right _ (by omega)
  omega

theorem or_shl_wrap (c x n : Nat) (hn : n < 32) (hc : c < 2 ^ n) (hx : x < 4294967296) : bits .or .u64 (c : Int) (IntKind.u64.wrap ((x : Int) * 2 ^ n)) = ((c + x * 2 ^ n : Nat) : Int) := by
  have hp : (2 : Nat) ^ n ≤ 2 ^ 31 := Nat.pow_le_pow_right (by omega) (by omega)
  have hm : x * 2 ^ n ≤ 4294967295 * 2 ^ 31 := Nat.mul_le_mul (by omega) hp
  have e1 : (x : Int) * 2 ^ n = ((x * 2 ^ n : Nat) : Int) := by simp
  have e2 : IntKind.u64.wrap ((x : Int) * 2 ^ n) = (x : Int) * 2 ^ n := by
    rw [IntKind.wrap_u64, e1]
    generalize x * 2 ^ n = t at *
    omega
  rw [e2]
  exact or_shl c x n hn hc hx

theorem shl_lt (c x n : Nat) (hn : n < 32) (hc : c < 2 ^ n) (hx : x < 4294967296) : c + x * 2 ^ n < 9223372036854775808 := by
  have hp : (2 : Nat) ^ n ≤ 2 ^ 31 := Nat.pow_le_pow_right (by omega) (by omega)
  have hm : x * 2 ^ n ≤ 4294967295 * 2 ^ 31 := Nat.mul_le_mul (by omega) hp
  omega

/-- make with a length and more room. -/
theorem wpList_make_room {P : Program} (w : World) {ops : Array Oper} {rest : List Oper} {o : Oper} {a : Act} {Q : Exit → Act → World → Prop}
    (hg : o.guard = none) (l c : Operand) (t : TypeId) (hop : o.op = Op.makeSlice t l c)
    (e : TypeId) (i : TypeInfo) (k : IntKind) (h1 : P.underlying t = some (.slice e)) (h2 : P.info? e = some i) (h3 : i.zero = some (.int k 0)) (h4 : i.size = 1)
    (kl kc : IntKind) (L C : Int) (n m : Nat) (hl : a.eval l = .int kl L) (hc : a.eval c = .int kc C) (hL : L = (n : Int)) (hC : C = (m : Int)) (hnm : n ≤ m) (b2 : i.bytes * m ≤ 281474976710656) (b3 : m ≤ maxLen)
    (hK : ∀ w', OwnN k e w' w.heap.size (.slice (some ⟨w.heap.size, 0, none⟩) n m) n (List.replicate n 0) → Kept Nought w w' → wpList P ops Q rest (a.put o.dst (.slice (some ⟨w.heap.size, 0, none⟩) n m)) w') :
    wpList P ops Q (o :: rest) a w := by
  refine wpList_plain hg fun K hK' => ?_
  have b3' : (m : Int) ≤ 9223372036854775807 := by unfold maxLen at b3; omega
  have hb' : (i.bytes : Int) * (m : Int) ≤ 281474976710656 := by
    have h : ((i.bytes * m : Nat) : Int) ≤ 281474976710656 := by omega
    rwa [Int.natCast_mul] at h
  have hr := run_make (P := P) w t e i (.int k 0) h1 h2 h3 kl kc n m (by omega) (by omega) hb' b3'
  simp only [Int.toNat_natCast] at hr
  subst hL
  subst hC
  unfold Oper.wp
  simp [execOp, hop, hl, hc, hr, Result.andThen]
  refine hK' _ _ (hK _ ?_ ((Kept.refl Nought w).alloc _))
  refine ⟨by simp, .inr ⟨w.heap.size, m, _, rfl, Nat.le_refl _, Go.heap_alloc_new w _, hnm, b3, ?_, ?_⟩⟩
  · rw [size_madeCells, h4]
  · rw [h4, Nat.mul_one, Nat.mul_one, List.map_replicate]
    show (madeCells #[Value.int k 0] m).toList.take n = _
    rw [toList_madeCells_one, List.take_replicate, Nat.min_eq_left hnm]
    rfl

theorem val_pad (n : Nat) (os : List Nat) : val 4294967296 (List.replicate n 0 ++ os) = 4294967296 ^ n * val 4294967296 os := by
  rw [val_append, val_zeros 4294967296 (l := List.replicate n 0) (fun d hd => by simp at hd; exact hd.2), List.length_replicate]
  omega

theorem own_lt {w : World} {base : Nat} {v : Value} {V : Nat} (h : OwnBig w base v V) : ∀ b, v.ownBlock = some b → base ≤ b := by
  obtain ⟨ds, ho, _⟩ := h
  exact fun b hb => (ho.lt b hb).1

end Go.Proofs.Ytnjmckfkfkalgab
