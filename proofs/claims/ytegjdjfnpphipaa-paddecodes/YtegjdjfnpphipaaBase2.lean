/- Melted of: BigAdd BigSub BigMul BigShift BigShr BigDiv BigTake BigGuess DivMath. -/
import Derived.Test.YtegjdjfnpphipaaBase1

/- The plain sum. -/
namespace Go.Proofs.Ytegjdjfnpphipaa
open Go.RowKit

theorem val_take_succ (B : Nat) (l : List Nat) (k : Nat) : val B (l.take (k + 1)) = val B (l.take k) + B ^ k * l.getD k 0 := by
  by_cases h : k < l.length
  · rw [List.take_succ_eq_append_getElem h, val_snoc, List.length_take, Nat.min_eq_left (by omega), List.getD_eq_getElem?_getD, List.getElem?_eq_getElem h]
    rfl
  · rw [List.take_of_length_le (by omega), List.take_of_length_le (by omega), List.getD_eq_getElem?_getD, List.getElem?_eq_none (by omega)]
    simp

theorem carry_step (p B t : Nat) : p * (t % B) + p * B * (t / B) = p * t := by
  have h := Nat.mod_add_div t B
  calc p * (t % B) + p * B * (t / B) = p * (t % B + B * (t / B)) := by rw [Nat.mul_add, Nat.mul_assoc]
    _ = p * t := by rw [h]

theorem new1_cells (w : World) (x : Value) (e : TypeId) : ∀ j u, [x][j]? = some u → (w.alloc (.cells #[x] e)).cell? ((⟨w.heap.size, 0, none⟩ : Addr).add j) = some u :=
  World.news_of_block (cs := #[x]) (t := e) (fr := (0, 0)) (Go.heap_alloc_new w _)

theorem add_step {a b os : List Nat} {k c x y : Nat} (hl : os.length = k) (h : val 4294967296 os + 4294967296 ^ k * c = val 4294967296 (a.take k) + val 4294967296 (b.take k)) (hx : a.getD k 0 = x) (hy : b.getD k 0 = y) :
    val 4294967296 (os ++ [(c + (x + y)) % 4294967296]) + 4294967296 ^ (k + 1) * ((c + (x + y)) / 4294967296) = val 4294967296 (a.take (k + 1)) + val 4294967296 (b.take (k + 1)) := by
  rw [val_snoc, hl, val_take_succ, val_take_succ, hx, hy, Nat.pow_succ, Nat.add_assoc, carry_step, Nat.mul_add, Nat.mul_add]
  omega

end Go.Proofs.Ytegjdjfnpphipaa

/- The plain difference. -/
namespace Go.Proofs.Ytegjdjfnpphipaa
open Go.RowKit

theorem sub_step {a b os : List Nat} {k β x y z β' : Nat} (hl : os.length = k) (h : val 4294967296 os + val 4294967296 (b.take k) = val 4294967296 (a.take k) + 4294967296 ^ k * β) (hx : a.getD k 0 = x) (hy : b.getD k 0 = y)
    (hz : z + y + β = x + 4294967296 * β') :
    val 4294967296 (os ++ [z]) + val 4294967296 (b.take (k + 1)) = val 4294967296 (a.take (k + 1)) + 4294967296 ^ (k + 1) * β' := by
  rw [val_snoc, hl, val_take_succ, val_take_succ, hx, hy, Nat.pow_succ, Nat.mul_assoc]
  have e : 4294967296 ^ k * (z + y + β) = 4294967296 ^ k * (x + 4294967296 * β') := by rw [hz]
  rw [Nat.mul_add, Nat.mul_add, Nat.mul_add] at e
  omega

theorem sub_end {a b os : List Nat} {β : Nat} (hd : Digs 4294967296 os) (hl : os.length = a.length) (h : val 4294967296 os + val 4294967296 b = val 4294967296 a + 4294967296 ^ a.length * β) (hb : β ≤ 1) (hle : val 4294967296 b ≤ val 4294967296 a) :
    val 4294967296 os = val 4294967296 a - val 4294967296 b := by
  have h1 := val_lt (by omega) hd
  rw [hl] at h1
  have h2 : β = 0 ∨ β = 1 := by omega
  rcases h2 with rfl | rfl
  · omega
  · rw [Nat.mul_one] at h
    omega

end Go.Proofs.Ytegjdjfnpphipaa

/- The plain product. -/
namespace Go.Proofs.Ytegjdjfnpphipaa
open Go.RowKit

theorem val_put {B : Nat} : ∀ {l : List Nat} {i d : Nat}, i < l.length → val B (l.set i d) + B ^ i * l.getD i 0 = val B l + B ^ i * d
  | x :: r, 0, d, _ => by simp [val]; omega
  | x :: r, i + 1, d, h => by
    have ih := val_put (B := B) (l := r) (i := i) (d := d) (by simpa using h)
    have e1 : B ^ (i + 1) * r.getD i 0 = B * (B ^ i * r.getD i 0) := by rw [Nat.pow_succ, Nat.mul_comm (B ^ i) B, Nat.mul_assoc]
    have e2 : B ^ (i + 1) * d = B * (B ^ i * d) := by rw [Nat.pow_succ, Nat.mul_comm (B ^ i) B, Nat.mul_assoc]
    simp only [List.set_cons_succ, val, List.getD_cons_succ]
    rw [e1, e2]
    have ih2 : B * (val B (r.set i d) + B ^ i * r.getD i 0) = B * (val B r + B ^ i * d) := by rw [ih]
    rw [Nat.mul_add, Nat.mul_add] at ih2
    omega

theorem digs_set {B : Nat} {l : List Nat} (h : Digs B l) (i : Nat) {d : Nat} (hd : d < B) : Digs B (l.set i d) := fun x hx => by
  rcases List.mem_or_eq_of_mem_set hx with h1 | h1
  · exact h x h1
  · omega

/-- One digit of the inner loop. -/
theorem mul_step {b zs : List Nat} {i j c x y z P : Nat} (hj : i + j < zs.length) (h : val 4294967296 zs + 4294967296 ^ (i + j) * c = P + 4294967296 ^ i * (x * val 4294967296 (b.take j))) (hz : zs.getD (i + j) 0 = z) (hy : b.getD j 0 = y) :
    val 4294967296 (zs.set (i + j) ((c + (x * y + z)) % 4294967296)) + 4294967296 ^ (i + (j + 1)) * ((c + (x * y + z)) / 4294967296) = P + 4294967296 ^ i * (x * val 4294967296 (b.take (j + 1))) := by
  have h1 := val_put (B := 4294967296) (d := (c + (x * y + z)) % 4294967296) hj
  rw [hz] at h1
  have h2 := carry_step (4294967296 ^ (i + j)) 4294967296 (c + (x * y + z))
  rw [← Nat.pow_succ] at h2
  have e : i + (j + 1) = (i + j).succ := rfl
  rw [e, val_take_succ, hy]
  rw [Nat.mul_add, Nat.mul_add] at h2
  have e3 : 4294967296 ^ i * (x * (val 4294967296 (b.take j) + 4294967296 ^ j * y)) = 4294967296 ^ i * (x * val 4294967296 (b.take j)) + 4294967296 ^ (i + j) * (x * y) := by
    rw [Nat.mul_add, Nat.mul_add, Nat.pow_add]
    congr 1
    rw [Nat.mul_left_comm x, ← Nat.mul_assoc]
  rw [e3]
  omega

/-- The end of a row. -/
theorem mul_row {a b zs : List Nat} {i c x : Nat} (hi : i + b.length < zs.length) (h : val 4294967296 zs + 4294967296 ^ (i + b.length) * c = val 4294967296 (a.take i) * val 4294967296 b + 4294967296 ^ i * (x * val 4294967296 b)) (hz : zs.getD (i + b.length) 0 = 0) (hx : a.getD i 0 = x) :
    val 4294967296 (zs.set (i + b.length) c) = val 4294967296 (a.take (i + 1)) * val 4294967296 b := by
  have h1 := val_put (B := 4294967296) (d := c) hi
  rw [hz, Nat.mul_zero, Nat.add_zero] at h1
  rw [h1, h, val_take_succ, hx, Nat.add_mul, Nat.mul_assoc]

theorem mul_top {a b zs : List Nat} {i : Nat} (ha : Digs 4294967296 a) (hb : Digs 4294967296 b) (hz : Digs 4294967296 zs) (h : val 4294967296 zs = val 4294967296 (a.take i) * val 4294967296 b) : zs.getD (i + b.length) 0 = 0 := by
  rw [← dig_val (by omega) hz, h]
  unfold dig
  have h1 : val 4294967296 (a.take i) < 4294967296 ^ i := by
    have := val_lt (by omega) (ha.take i)
    exact Nat.lt_of_lt_of_le this (Nat.pow_le_pow_right (by omega) (by rw [List.length_take]; omega))
  have h2 := val_lt (by omega) hb
  have h3 : val 4294967296 (a.take i) * val 4294967296 b < 4294967296 ^ (i + b.length) := by
    rw [Nat.pow_add]
    exact Nat.mul_lt_mul'' h1 h2
  rw [Nat.div_eq_of_lt h3]

theorem getD_set_ne {l : List Nat} {i j d : Nat} (h : i ≠ j) : (l.set i d).getD j 0 = l.getD j 0 := by
  rw [List.getD_eq_getElem?_getD, List.getD_eq_getElem?_getD, List.getElem?_set_ne h]

theorem mul_bound (c x y z : Nat) (hc : c < 4294967296) (hx : x < 4294967296) (hy : y < 4294967296) (hz : z < 4294967296) : x * y ≤ 18446744065119617025 ∧ c + (x * y + z) < 18446744073709551616 := by
  have h : x * y ≤ 4294967295 * 4294967295 := Nat.mul_le_mul (by omega) (by omega)
  omega

end Go.Proofs.Ytegjdjfnpphipaa

/- The plain shifts. -/
namespace Go.Proofs.Ytegjdjfnpphipaa
open Go.RowKit

theorem shl_step {a os : List Nat} {k c x s : Nat} (hl : os.length = k) (h : val 4294967296 os + 4294967296 ^ k * c = s * val 4294967296 (a.take k)) (hx : a.getD k 0 = x) :
    val 4294967296 (os ++ [(c + x * s) % 4294967296]) + 4294967296 ^ (k + 1) * ((c + x * s) / 4294967296) = s * val 4294967296 (a.take (k + 1)) := by
  rw [val_snoc, hl, val_take_succ, hx, Nat.pow_succ, Nat.add_assoc, carry_step, Nat.mul_add, Nat.mul_add]
  rw [← h]
  have e : 4294967296 ^ k * (x * s) = s * (4294967296 ^ k * x) := by rw [← Nat.mul_assoc, Nat.mul_comm]
  omega

theorem or_shl (c x n : Nat) (hn : n < 32) (hc : c < 2 ^ n) (hx : x < 4294967296) : bits .or .u64 (c : Int) ((x : Int) * 2 ^ n) = ((c + x * 2 ^ n : Nat) : Int) := by
  have hp : (2 : Nat) ^ n ≤ 2 ^ 31 := Nat.pow_le_pow_right (by omega) (by omega)
  have hm : x * 2 ^ n ≤ 4294967295 * 2 ^ 31 := Nat.mul_le_mul (by omega) hp
  have h := u64_or_nat c (x * 2 ^ n) (by omega) (by omega)
  have hj := nat_join n (x * 2 ^ n) c (Nat.mul_mod_left _ _) hc
  rw [Nat.or_comm, hj] at h
  have e1 : (x : Int) * 2 ^ n = ((x * 2 ^ n : Nat) : Int) := by simp
  rw [e1, h]
  omega

theorem shl_carry (c x n : Nat) (hc : c < 2 ^ n) (hx : x < 4294967296) : (c + x * 2 ^ n) / 4294967296 < 2 ^ n := by
  rw [Nat.div_lt_iff_lt_mul (by omega)]
  have h : x * 2 ^ n ≤ 4294967295 * 2 ^ n := Nat.mul_le_mul_right _ (by omega)
  omega

theorem or_shl_wrap (c x n : Nat) (hn : n < 32) (hc : c < 2 ^ n) (hx : x < 4294967296) : bits .or .u64 (c : Int) (IntKind.u64.wrap ((x : Int) * 2 ^ n)) = ((c + x * 2 ^ n : Nat) : Int) := by
  have hp : (2 : Nat) ^ n ≤ 2 ^ 31 := Nat.pow_le_pow_right (by omega) (by omega)
  have hm : x * 2 ^ n ≤ 4294967295 * 2 ^ 31 := Nat.mul_le_mul (by omega) hp
  have e1 : (x : Int) * 2 ^ n = ((x * 2 ^ n : Nat) : Int) := by simp
  have e2 : IntKind.u64.wrap ((x : Int) * 2 ^ n) = (x : Int) * 2 ^ n := by
    rw [IntKind.wrap_u64, e1]
    generalize x * 2 ^ n = t at *
    omega
  rw [e2]
  exact or_shl c x n hn hc hx

theorem shl_lt (c x n : Nat) (hn : n < 32) (hc : c < 2 ^ n) (hx : x < 4294967296) : c + x * 2 ^ n < 9223372036854775808 := by
  have hp : (2 : Nat) ^ n ≤ 2 ^ 31 := Nat.pow_le_pow_right (by omega) (by omega)
  have hm : x * 2 ^ n ≤ 4294967295 * 2 ^ 31 := Nat.mul_le_mul (by omega) hp
  omega

/-- make with a length and more room. -/
theorem wpList_make_room {P : Program} (w : World) {ops : Array Oper} {rest : List Oper} {o : Oper} {a : Act} {Q : Exit → Act → World → Prop}
    (hg : o.guard = none) (l c : Operand) (t : TypeId) (hop : o.op = Op.makeSlice t l c)
    (e : TypeId) (i : TypeInfo) (k : IntKind) (h1 : P.underlying t = some (.slice e)) (h2 : P.info? e = some i) (h3 : i.zero = some (.int k 0)) (h4 : i.size = 1)
    (kl kc : IntKind) (L C : Int) (n m : Nat) (hl : a.eval l = .int kl L) (hc : a.eval c = .int kc C) (hL : L = (n : Int)) (hC : C = (m : Int)) (hnm : n ≤ m) (b2 : i.bytes * m ≤ 281474976710656) (b3 : m ≤ maxLen)
    (hK : ∀ w', OwnN k e w' w.heap.size (.slice (some ⟨w.heap.size, 0, none⟩) n m) n (List.replicate n 0) → Kept Nought w w' → wpList P ops Q rest (a.put o.dst (.slice (some ⟨w.heap.size, 0, none⟩) n m)) w') :
    wpList P ops Q (o :: rest) a w := by
  refine wpList_plain hg fun K hK' => ?_
  have b3' : (m : Int) ≤ 9223372036854775807 := by unfold maxLen at b3; omega
  have hb' : (i.bytes : Int) * (m : Int) ≤ 281474976710656 := by
    have h : ((i.bytes * m : Nat) : Int) ≤ 281474976710656 := by omega
    rwa [Int.natCast_mul] at h
  have hr := run_make (P := P) w t e i (.int k 0) h1 h2 h3 kl kc n m (by omega) (by omega) hb' b3'
  simp only [Int.toNat_natCast] at hr
  subst hL
  subst hC
  unfold Oper.wp
  simp [execOp, hop, hl, hc, hr, Result.andThen]
  refine hK' _ _ (hK _ ?_ ((Kept.refl Nought w).alloc _))
  refine ⟨by simp, .inr ⟨w.heap.size, m, _, rfl, Nat.le_refl _, Go.heap_alloc_new w _, hnm, b3, ?_, ?_⟩⟩
  · rw [size_madeCells, h4]
  · rw [h4, Nat.mul_one, Nat.mul_one, List.map_replicate]
    show (madeCells #[Value.int k 0] m).toList.take n = _
    rw [toList_madeCells_one, List.take_replicate, Nat.min_eq_left hnm]
    rfl

theorem val_pad (n : Nat) (os : List Nat) : val 4294967296 (List.replicate n 0 ++ os) = 4294967296 ^ n * val 4294967296 os := by
  rw [val_append, val_zeros 4294967296 (l := List.replicate n 0) (fun d hd => by simp at hd; exact hd.2), List.length_replicate]
  omega

theorem own_lt {w : World} {base : Nat} {v : Value} {V : Nat} (h : OwnBig w base v V) : ∀ b, v.ownBlock = some b → base ≤ b := by
  obtain ⟨ds, ho, _⟩ := h
  exact fun b hb => (ho.lt b hb).1

end Go.Proofs.Ytegjdjfnpphipaa

/- The plain shift down. -/
namespace Go.Proofs.Ytegjdjfnpphipaa
open Go.RowKit

theorem shr_digit (V q s k : Nat) (hs : s < 32) : dig 4294967296 (V / (4294967296 ^ q * 2 ^ s)) k = (dig 4294967296 V (q + k) + 4294967296 * dig 4294967296 V (q + k + 1)) / 2 ^ s % 4294967296 := by
  unfold dig
  have e1 : V / (4294967296 ^ q * 2 ^ s) / 4294967296 ^ k = V / 4294967296 ^ (q + k) / 2 ^ s := by
    rw [Nat.div_div_eq_div_mul, Nat.div_div_eq_div_mul, Nat.pow_add]
    congr 1
    rw [Nat.mul_assoc, Nat.mul_assoc, Nat.mul_comm (2 ^ s)]
  have e2 : V / 4294967296 ^ (q + k + 1) = V / 4294967296 ^ (q + k) / 4294967296 := by rw [Nat.div_div_eq_div_mul, ← Nat.pow_succ]
  rw [e1, e2]
  generalize V / 4294967296 ^ (q + k) = z
  have hp : 0 < 2 ^ s := Nat.pow_pos (by omega)
  obtain ⟨c, hc⟩ : ∃ c, (4294967296 : Nat) = 2 ^ s * c := ⟨2 ^ (32 - s), by rw [← Nat.pow_add, show s + (32 - s) = 32 by omega]⟩
  have hz : z = (z % 4294967296 + 4294967296 * (z / 4294967296 % 4294967296)) + 2 ^ s * (4294967296 * (c * (z / 4294967296 / 4294967296))) := by
    have : 2 ^ s * (4294967296 * (c * (z / 4294967296 / 4294967296))) = 4294967296 * (4294967296 * (z / 4294967296 / 4294967296)) := by
      calc 2 ^ s * (4294967296 * (c * (z / 4294967296 / 4294967296))) = (2 ^ s * c) * (4294967296 * (z / 4294967296 / 4294967296)) := by
            rw [Nat.mul_left_comm 4294967296 c, ← Nat.mul_assoc]
        _ = 4294967296 * (4294967296 * (z / 4294967296 / 4294967296)) := by rw [← hc]
    omega
  conv => lhs; rw [hz]
  rw [Nat.add_mul_div_left _ _ hp, Nat.add_mul_mod_self_left]

theorem shr_lt {V q s m : Nat} (h : V < 4294967296 ^ m) (hq : q ≤ m) : V / (4294967296 ^ q * 2 ^ s) < 4294967296 ^ (m - q) := by
  have hp : 0 < 4294967296 ^ q * 2 ^ s := Nat.mul_pos (Nat.pow_pos (by omega)) (Nat.pow_pos (by omega))
  rw [Nat.div_lt_iff_lt_mul hp]
  have e : 4294967296 ^ m = 4294967296 ^ (m - q) * 4294967296 ^ q := by rw [← Nat.pow_add, Nat.sub_add_cancel hq]
  have h2 : 4294967296 ^ (m - q) * 4294967296 ^ q * 1 ≤ 4294967296 ^ (m - q) * 4294967296 ^ q * 2 ^ s := Nat.mul_le_mul_left _ (Nat.pow_pos (by omega))
  rw [← Nat.mul_assoc]
  omega

end Go.Proofs.Ytegjdjfnpphipaa

/- The plain quotient and rest by one digit. -/
namespace Go.Proofs.Ytegjdjfnpphipaa
open Go.RowKit

theorem or_low32 (r x : Nat) (hr : r < 4294967296) (hx : x < 4294967296) : bits .or .u64 ((r : Int) * 4294967296) (x : Int) = ((r * 4294967296 + x : Nat) : Int) := by
  have h := u64_or_nat (r * 4294967296) x (by omega) (by omega)
  rw [nat_join 32 (r * 4294967296) x (by omega) (by omega)] at h
  have e1 : (r : Int) * 4294967296 = ((r * 4294967296 : Nat) : Int) := by omega
  rw [e1, h]

theorem div_digit {r x d : Nat} (hd : 0 < d) (hr : r < d) (hx : x < 4294967296) : (r * 4294967296 + x) / d < 4294967296 := by
  rw [Nat.div_lt_iff_lt_mul hd]
  have : (r + 1) * 4294967296 ≤ d * 4294967296 := Nat.mul_le_mul_right _ (by omega)
  omega

theorem div_step {a qs : List Nat} {i r x d : Nat} (hi : i < a.length) (hx : a.getD i 0 = x) (h : d * val 4294967296 qs + r = val 4294967296 (a.drop (i + 1))) :
    d * val 4294967296 ((r * 4294967296 + x) / d :: qs) + (r * 4294967296 + x) % d = val 4294967296 (a.drop i) := by
  rw [List.drop_eq_getElem_cons hi]
  rw [List.getD_eq_getElem?_getD, List.getElem?_eq_getElem hi] at hx
  simp only [Option.getD_some] at hx
  simp only [val]
  rw [hx, ← h, Nat.mul_add]
  have e := Nat.div_add_mod (r * 4294967296 + x) d
  have e2 : d * (4294967296 * val 4294967296 qs) = 4294967296 * (d * val 4294967296 qs) := Nat.mul_left_comm ..
  rw [e2]
  omega

theorem div_set (i q : Nat) (qs : List Nat) : (List.replicate (i + 1) 0 ++ qs).set i q = List.replicate i 0 ++ (q :: qs) := by
  rw [List.replicate_succ', List.append_assoc, List.set_append_right _ _ (by simp)]
  simp

end Go.Proofs.Ytegjdjfnpphipaa

/- The plain quotient's step: take. -/
namespace Go.Proofs.Ytegjdjfnpphipaa
open Go.RowKit

theorem seg_getD {zs : List Nat} {j L i : Nat} (hi : i < L) : ((zs.drop j).take L).getD i 0 = zs.getD (j + i) 0 := by
  rw [List.getD_eq_getElem?_getD, List.getElem?_take, if_pos hi, List.getElem?_drop, ← List.getD_eq_getElem?_getD]

theorem seg_length {zs : List Nat} {j L N : Nat} (hl : zs.length = N) (h : j + L ≤ N) : ((zs.drop j).take L).length = L := by
  rw [List.length_take, List.length_drop]; omega

/-- A part of a row. -/
theorem seg_row {e : TypeId} {w : World} {base g N cap j L c : Nat} {zs : List Nat} (ho : OwnN .u32 e w base (.slice (some ⟨g, 0, none⟩) N cap) N zs) (hl : zs.length = N) (h : j + L ≤ N) (hc : L ≤ c) (hm : c ≤ maxLen) : Row .u32 w (.slice (some ⟨g, j, none⟩) L c) ((zs.drop j).take L) := by
  have hsl := seg_length hl h
  refine ⟨some ⟨g, j, none⟩, c, by rw [hsl], by omega, hm, (fun e => by cases e), fun i hi => ⟨g, j, rfl, ?_⟩⟩
  rw [hsl] at hi
  rw [World.ownsRow.cellAt ho (j + i) (by omega), List.getElem?_map, seg_getD hi, List.getD_eq_getElem?_getD, List.getElem?_eq_getElem (by omega)]
  rfl

/-- Its cells. -/
theorem seg_news {e : TypeId} {w : World} {base g N cap j L : Nat} {zs : List Nat} (ho : OwnN .u32 e w base (.slice (some ⟨g, 0, none⟩) N cap) N zs) (hl : zs.length = N) (h : j + L ≤ N) :
    ∀ i u, (((zs.drop j).take L).map fun z => Value.int .u32 (z : Nat))[i]? = some u → w.cell? ((⟨g, j, none⟩ : Addr).add i) = some u := by
  intro i u hu
  have hadd : (⟨g, j, none⟩ : Addr).add i = ⟨g, j + i, none⟩ := by unfold Addr.add; split <;> simp_all
  rw [hadd]
  have hsl := seg_length hl h
  rw [List.getElem?_map] at hu
  by_cases hi : i < L
  · rw [World.ownsRow.cellAt ho (j + i) (by omega), List.getElem?_map, ← hu, List.getElem?_take, if_pos hi, List.getElem?_drop]
  · rw [List.getElem?_eq_none (by omega)] at hu
    cases hu

theorem nums_one (k : IntKind) (zs : List Nat) : ∀ u ∈ zs.map (fun z => Value.int k (z : Nat)), u.oneCell' = true := by
  intro u hu
  obtain ⟨z, _, rfl⟩ := List.mem_map.1 hu
  rfl

theorem val_seg_lt {zs : List Nat} {j L N : Nat} (hd : Digs 4294967296 zs) (hl : zs.length = N) (h : j + L ≤ N) : val 4294967296 ((zs.drop j).take L) < 4294967296 ^ L := by
  have := val_lt (by omega) ((hd.drop j).take L)
  rwa [seg_length hl h] at this

theorem seg_set (zs : List Nat) (D j k : Nat) (hk : j + k < zs.length) :
    (zs.take j ++ (digs 4294967296 D k ++ zs.drop (j + k))).set (j + k) (dig 4294967296 D k) = zs.take j ++ (digs 4294967296 D (k + 1) ++ zs.drop (j + (k + 1))) := by
  have h1 : (zs.take j).length = j := by rw [List.length_take]; omega
  rw [List.set_append_right _ _ (by omega), h1, Nat.add_sub_cancel_left, List.set_append_right _ _ (by rw [digs_length]; omega), digs_length, Nat.sub_self, List.drop_eq_getElem_cons hk, List.set_cons_zero, digs, List.append_assoc]
  rfl

end Go.Proofs.Ytegjdjfnpphipaa

/- A digit of the plain quotient: guess. -/
namespace Go.Proofs.Ytegjdjfnpphipaa
open Go.RowKit

theorem guess_ge {us ds : List Nat} {p a0 a1 t : Nat} (hul : us.length = p + 2) (hdl : ds.length = p + 1) (hud : Digs 4294967296 us) (h0 : us.getD p 0 = a0) (h1 : us.getD (p + 1) 0 = a1) (ht : ds.getD p 0 = t) (ht0 : 0 < t) :
    val 4294967296 us / val 4294967296 ds ≤ (a1 * 4294967296 + a0) / t := by
  have e1 := val_take_drop 4294967296 us p (by omega)
  have e2 : val 4294967296 (us.drop p) = a1 * 4294967296 + a0 := by
    rw [List.drop_eq_getElem_cons (by omega), List.drop_eq_getElem_cons (by omega), List.drop_of_length_le (by omega)]
    rw [List.getD_eq_getElem?_getD, List.getElem?_eq_getElem (by omega)] at h0 h1
    simp only [Option.getD_some] at h0 h1
    simp only [val]
    rw [h0, h1]
    omega
  have hlow : val 4294967296 (us.take p) < 4294967296 ^ p := by
    have := val_lt (by omega) (hud.take p)
    rwa [List.length_take, Nat.min_eq_left (by omega)] at this
  have e3 := val_take_drop 4294967296 ds p (by omega)
  have e4 : val 4294967296 (ds.drop p) = t := by
    rw [List.drop_eq_getElem_cons (by omega), List.drop_of_length_le (by omega)]
    rw [List.getD_eq_getElem?_getD, List.getElem?_eq_getElem (by omega)] at ht
    simp only [Option.getD_some] at ht
    simp only [val]
    rw [ht]; omega
  rw [e2] at e1
  rw [e4] at e3
  have hpos : 0 < 4294967296 ^ p := Nat.pow_pos (by omega)
  have h5 : val 4294967296 us / 4294967296 ^ p = a1 * 4294967296 + a0 := by
    rw [e1, Nat.add_mul_div_left _ _ hpos, Nat.div_eq_of_lt hlow, Nat.zero_add]
  rw [← h5, Nat.div_div_eq_div_mul]
  exact Nat.div_le_div_left (by omega) (Nat.mul_pos hpos ht0)

theorem rest_digits {U V q : Nat} (h1 : U / V ≤ q) (h2 : V * q ≤ U) (hV : 0 < V) : q = U / V ∧ U - V * q = U % V := by
  have h3 : q ≤ U / V := (Nat.le_div_iff_mul_le hV).2 (by rw [Nat.mul_comm]; exact h2)
  have e : q = U / V := by omega
  refine ⟨e, ?_⟩
  have := Nat.div_add_mod U V
  rw [e]; omega

end Go.Proofs.Ytegjdjfnpphipaa

/- Long division, digit by digit: plain mathematics of digits. -/
namespace Go.Proofs.Ytegjdjfnpphipaa
open Go.RowKit

/-- A divisor that is shifted till its top bit is set keeps its length. -/
theorem norm_div {ds : List Nat} {p r t : Nat} (hd : Digs 4294967296 ds) (hl : ds.length = p + 1) (ht : ds.getD p 0 = t) (h1 : t < 2 ^ (r + 1)) (h2 : 2 ^ r ≤ t) (hr : r ≤ 31) :
    2 ^ (31 - r) * val 4294967296 ds < 4294967296 ^ (p + 1) ∧ 2 ^ 31 * 4294967296 ^ p ≤ 2 ^ (31 - r) * val 4294967296 ds ∧ dlen (2 ^ (31 - r) * val 4294967296 ds) = p + 1 := by
  have e := val_take_drop 4294967296 ds p (by omega)
  have e4 : val 4294967296 (ds.drop p) = t := by
    rw [List.drop_eq_getElem_cons (by omega), List.drop_of_length_le (by omega)]
    rw [List.getD_eq_getElem?_getD, List.getElem?_eq_getElem (by omega)] at ht
    simp only [Option.getD_some] at ht
    simp only [val]
    rw [ht]; omega
  rw [e4] at e
  have hlow : val 4294967296 (ds.take p) < 4294967296 ^ p := by
    have := val_lt (by omega) (hd.take p)
    rwa [List.length_take, Nat.min_eq_left (by omega)] at this
  have a1 : val 4294967296 ds + 1 ≤ 4294967296 ^ p * (t + 1) := by rw [Nat.mul_add, Nat.mul_one]; omega
  have a2 : 4294967296 ^ p * t ≤ val 4294967296 ds := by omega
  have b1 : 2 ^ (31 - r) * 2 ^ (r + 1) = 4294967296 := by rw [← Nat.pow_add, show 31 - r + (r + 1) = 32 by omega]
  have b2 : 2 ^ (31 - r) * 2 ^ r = 2 ^ 31 := by rw [← Nat.pow_add, show 31 - r + r = 31 by omega]
  have hpos : 0 < 2 ^ (31 - r) := Nat.pow_pos (by omega)
  have c1 : 2 ^ (31 - r) * val 4294967296 ds < 4294967296 ^ (p + 1) := by
    have x1 : 2 ^ (31 - r) * (val 4294967296 ds + 1) ≤ 2 ^ (31 - r) * (4294967296 ^ p * 2 ^ (r + 1)) := Nat.mul_le_mul_left _ (Nat.le_trans a1 (Nat.mul_le_mul_left _ (by omega)))
    rw [Nat.mul_left_comm, b1, ← Nat.pow_succ] at x1
    have x2 : 2 ^ (31 - r) * val 4294967296 ds < 2 ^ (31 - r) * (val 4294967296 ds + 1) := Nat.mul_lt_mul_of_pos_left (by omega) hpos
    exact Nat.lt_of_lt_of_le x2 x1
  have c2 : 2 ^ 31 * 4294967296 ^ p ≤ 2 ^ (31 - r) * val 4294967296 ds := by
    have x1 : 2 ^ (31 - r) * (4294967296 ^ p * 2 ^ r) ≤ 2 ^ (31 - r) * val 4294967296 ds := Nat.mul_le_mul_left _ (Nat.le_trans (Nat.mul_le_mul_left _ h2) a2)
    rw [Nat.mul_left_comm, b2, Nat.mul_comm] at x1
    exact x1
  refine ⟨c1, c2, ?_⟩
  have d1 := (dlen_le _ _).2 c1
  have d2 : ¬ dlen (2 ^ (31 - r) * val 4294967296 ds) ≤ p := fun h => by
    have := (dlen_le _ _).1 h
    have h3 : 1 * 4294967296 ^ p ≤ 2 ^ 31 * 4294967296 ^ p := Nat.mul_le_mul_right _ (by decide)
    omega
  omega

theorem dlen_shift (A s : Nat) (hs : s ≤ 31) : dlen (2 ^ s * A) ≤ dlen A + 1 ∧ dlen A ≤ dlen (2 ^ s * A) ∧ 2 ^ s * A < 2 ^ s * 4294967296 ^ dlen A := by
  have h1 := (dlen_le A (dlen A)).1 (Nat.le_refl _)
  have hp : 0 < 2 ^ s := Nat.pow_pos (by omega)
  have h3 : 2 ^ s * A < 2 ^ s * 4294967296 ^ dlen A := Nat.mul_lt_mul_of_pos_left h1 hp
  refine ⟨(dlen_le _ _).2 ?_, dlen_mono (Nat.le_mul_of_pos_left _ hp), h3⟩
  rw [Nat.pow_succ, Nat.mul_comm (4294967296 ^ dlen A)]
  have h2 : 2 ^ s * 4294967296 ^ dlen A ≤ 4294967296 * 4294967296 ^ dlen A := Nat.mul_le_mul_right _ (Nat.le_trans (Nat.pow_le_pow_right (by omega) hs) (by decide))
  omega

theorem val_drop {zs : List Nat} (hd : Digs 4294967296 zs) (k : Nat) : val 4294967296 (zs.drop k) = val 4294967296 zs / 4294967296 ^ k := by
  by_cases h : k ≤ zs.length
  · have e := val_take_drop 4294967296 zs k h
    have hlow : val 4294967296 (zs.take k) < 4294967296 ^ k := by
      have := val_lt (by omega) (hd.take k)
      rwa [List.length_take, Nat.min_eq_left h] at this
    rw [e, Nat.add_mul_div_left _ _ (Nat.pow_pos (by omega)), Nat.div_eq_of_lt hlow, Nat.zero_add]
  · rw [List.drop_of_length_le (by omega)]
    have h1 := val_lt (by omega) hd
    have h2 : (4294967296 : Nat) ^ zs.length ≤ 4294967296 ^ k := Nat.pow_le_pow_right (by omega) (by omega)
    rw [Nat.div_eq_of_lt (by omega)]
    rfl

/-- The first rest is below the divisor. -/
theorem div_start {zs : List Nat} {A V s p la : Nat} (hd : Digs 4294967296 zs) (hv : val 4294967296 zs = 2 ^ s * A) (hA : 2 ^ s * A < 2 ^ s * 4294967296 ^ la) (hs : s ≤ 31) (hp : p ≤ la) (hV : 2 ^ 31 * 4294967296 ^ p ≤ V) :
    val 4294967296 (zs.drop (la - p)) < V := by
  rw [val_drop hd, hv, Nat.div_lt_iff_lt_mul (Nat.pow_pos (by omega))]
  have e : 4294967296 ^ la = 4294967296 ^ p * 4294967296 ^ (la - p) := by rw [← Nat.pow_add, show p + (la - p) = la by omega]
  rw [e, ← Nat.mul_assoc] at hA
  have h1 : 2 ^ s * 4294967296 ^ p ≤ 2 ^ 31 * 4294967296 ^ p := Nat.mul_le_mul_right _ (Nat.pow_le_pow_right (by omega) hs)
  exact Nat.lt_of_lt_of_le hA (Nat.mul_le_mul_right _ (Nat.le_trans h1 hV))

theorem drop_cons {zs : List Nat} {j : Nat} (h : j < zs.length) : val 4294967296 (zs.drop j) = zs.getD j 0 + 4294967296 * val 4294967296 (zs.drop (j + 1)) := by
  rw [List.drop_eq_getElem_cons h, List.getD_eq_getElem?_getD, List.getElem?_eq_getElem h]
  rfl

/-- One digit of the quotient. -/
theorem div_round {zs orig qs : List Nat} {V n j N : Nat} (hd : Digs 4294967296 zs) (hl : zs.length = N) (hlo : orig.length = N) (hj : j + (n + 1) ≤ N) (hV : V < 4294967296 ^ n) (hVp : 0 < V) (hR : val 4294967296 (zs.drop (j + 1)) < V) (htake : zs.take (j + 1) = orig.take (j + 1))
    (hinv : V * val 4294967296 qs + val 4294967296 (zs.drop (j + 1)) = val 4294967296 (orig.drop (j + 1))) (U : Nat) (hU : U = val 4294967296 ((zs.drop j).take (n + 1))) :
    U < V * 4294967296 ∧
    ∀ zs', zs' = zs.take j ++ (digs 4294967296 (U % V) (n + 1) ++ zs.drop (j + (n + 1))) →
      zs'.length = N ∧ Digs 4294967296 zs' ∧ zs'.take j = orig.take j ∧ val 4294967296 (zs'.drop j) < V ∧ V * val 4294967296 (U / V :: qs) + val 4294967296 (zs'.drop j) = val 4294967296 (orig.drop j) := by
  have e1 := val_take_drop 4294967296 (zs.drop (j + 1)) n (by rw [List.length_drop]; omega)
  rw [List.drop_drop] at e1
  have hz : val 4294967296 (zs.drop (j + 1 + n)) = 0 := by
    rcases Nat.eq_zero_or_pos (val 4294967296 (zs.drop (j + 1 + n))) with h | h
    · exact h
    · have : 4294967296 ^ n * 1 ≤ 4294967296 ^ n * val 4294967296 (zs.drop (j + 1 + n)) := Nat.mul_le_mul_left _ h
      omega
  have e2 := val_take_drop 4294967296 (zs.drop j) (n + 1) (by rw [List.length_drop]; omega)
  rw [List.drop_drop, show j + (n + 1) = j + 1 + n by omega, hz, Nat.mul_zero, Nat.add_zero, ← hU] at e2
  have e3 := drop_cons (zs := zs) (j := j) (by omega)
  have hzj : zs.getD j 0 = orig.getD j 0 := by
    have h1 : (zs.take (j + 1)).getD j 0 = (orig.take (j + 1)).getD j 0 := by rw [htake]
    rw [List.getD_eq_getElem?_getD, List.getD_eq_getElem?_getD, List.getElem?_take, List.getElem?_take, if_pos (by omega), if_pos (by omega)] at h1
    rw [List.getD_eq_getElem?_getD, List.getD_eq_getElem?_getD]
    exact h1
  have hd0 := hd.getD (by omega) j
  have hU2 : U = zs.getD j 0 + 4294967296 * val 4294967296 (zs.drop (j + 1)) := e2.symm.trans e3
  refine ⟨by omega, fun zs' hzs => ?_⟩
  have hlj : (zs.take j).length = j := by rw [List.length_take]; omega
  have hdrop : zs'.drop j = digs 4294967296 (U % V) (n + 1) ++ zs.drop (j + (n + 1)) := by rw [hzs, List.drop_left' hlj]
  have hmod := Nat.mod_lt U hVp
  have hval : val 4294967296 (zs'.drop j) = U % V := by
    rw [hdrop, val_append, val_digs, show j + (n + 1) = j + 1 + n by omega, hz, Nat.mul_zero, Nat.add_zero]
    apply Nat.mod_eq_of_lt
    have h1 : (4294967296 : Nat) ^ n ≤ 4294967296 ^ (n + 1) := Nat.pow_le_pow_right (by omega) (by omega)
    omega
  refine ⟨by rw [hzs]; simp [digs_length]; omega, by rw [hzs]; exact (hd.take j).append ((digs_digs (by omega) _ _).append (hd.drop _)), ?_, by omega, ?_⟩
  · rw [hzs, List.take_left' hlj]
    have h1 : (zs.take (j + 1)).take j = (orig.take (j + 1)).take j := by rw [htake]
    rwa [List.take_take, List.take_take, Nat.min_eq_left (by omega)] at h1
  · rw [hval, drop_cons (zs := orig) (j := j) (by omega), ← hzj, ← hinv]
    simp only [val]
    have h1 := Nat.div_add_mod U V
    rw [Nat.mul_add, Nat.mul_left_comm V 4294967296]
    omega

/-- The end of the division. -/
theorem div_end {zs qs : List Nat} {A M s n N : Nat} (hl : zs.length = N) (hn : n ≤ N) (hM : 0 < M) (hV : 2 ^ s * M < 4294967296 ^ n) (hR : val 4294967296 zs < 2 ^ s * M) (hinv : 2 ^ s * M * val 4294967296 qs + val 4294967296 zs = 2 ^ s * A) :
    val 4294967296 qs = A / M ∧ val 4294967296 (zs.take n) / 2 ^ s = A % M := by
  have hp : 0 < 2 ^ s := Nat.pow_pos (by omega)
  have hVp : 0 < 2 ^ s * M := Nat.mul_pos hp hM
  have e1 : (2 ^ s * A) / (2 ^ s * M) = val 4294967296 qs := by
    rw [← hinv, Nat.mul_add_div hVp, Nat.div_eq_of_lt hR, Nat.add_zero]
  have e2 : (2 ^ s * A) % (2 ^ s * M) = val 4294967296 zs := by
    rw [← hinv, Nat.mul_add_mod, Nat.mod_eq_of_lt hR]
  have e3 := val_take_drop 4294967296 zs n (by omega)
  have hz : val 4294967296 (zs.drop n) = 0 := by
    rcases Nat.eq_zero_or_pos (val 4294967296 (zs.drop n)) with h | h
    · exact h
    · have : 4294967296 ^ n * 1 ≤ 4294967296 ^ n * val 4294967296 (zs.drop n) := Nat.mul_le_mul_left _ h
      omega
  rw [hz, Nat.mul_zero, Nat.add_zero] at e3
  refine ⟨by rw [← e1, Nat.mul_div_mul_left _ _ hp], ?_⟩
  rw [← e3, ← e2, Nat.mul_mod_mul_left, Nat.mul_div_cancel_left _ hp]

end Go.Proofs.Ytegjdjfnpphipaa
