/- Melted of: PrH BitA PrI PrJ. -/
import Derived.Test.YtaehphckkmbbnaaGreatLim2
import Derived.Test.YtaehphckkmbbnaaGreatLim3
import Derived.Test.YtaehphckkmbbnaaGreatPro1
import Derived.Test.YtaehphckkmbbnaaGreatBase1
import Derived.Test.YtaehphckkmbbnaaGreatPro2
import Derived.BigRegion
import Derived.Deep.OwnRows
import Derived.StillTailTactics

/- Package product: bringDown, divideByBits. -/
namespace Go.Proofs.YtaehphckkmbbnaaGreat
open Go.RowKit

/-- How often (0 or 1) the divisor m goes into twice a rest and a bit, as it is reckoned in n words. -/
def takenN (V M n : Nat) : Nat := if 18446744073709551616 ^ n ≤ V ∨ M ≤ V % 18446744073709551616 ^ n then 1 else 0

/-- What is left of it. -/
def leftN (V M n : Nat) : Nat := selN (takenN V M n) (subN (V % 18446744073709551616 ^ n) M n) (V % 18446744073709551616 ^ n)

theorem taken_le (V M n : Nat) : takenN V M n ≤ 1 := by unfold takenN; split <;> omega

theorem taken_bits (V M n : Nat) (hV : V < 2 * 18446744073709551616 ^ n) : bits .or .u64 ((V / 18446744073709551616 ^ n : Nat) : Int) (bits .xor .u64 ((oneN (decide (V % 18446744073709551616 ^ n < M)) : Nat) : Int) 1) = (takenN V M n : Int) := by
  have hp : 0 < 18446744073709551616 ^ n := Nat.pow_pos (by omega)
  have hq : V / 18446744073709551616 ^ n < 2 := by rw [Nat.div_lt_iff_lt_mul hp]; exact hV
  unfold takenN oneN
  generalize 18446744073709551616 ^ n = P at *
  have hc : V / P = 0 ∨ V / P = 1 := by
    generalize V / P = d at *
    omega
  have h1 : P ≤ V ↔ V / P = 1 := by
    constructor
    · intro h
      exact Nat.le_antisymm (Nat.le_of_lt_succ hq) (Nat.div_pos h hp)
    · intro h
      rcases Nat.lt_or_ge V P with h2 | h2
      · rw [Nat.div_eq_of_lt h2] at h; omega
      · exact h2
  by_cases h2 : V % P < M
  · rcases hc with h3 | h3
    · rw [h3, decide_eq_true h2, if_pos rfl, if_neg (by rw [h1, h3]; omega)]
      decide
    · rw [h3, decide_eq_true h2, if_pos rfl, if_pos (by rw [h1, h3]; exact .inl rfl)]
      decide
  · rcases hc with h3 | h3
    · rw [h3, decide_eq_false h2, if_neg (by decide), if_pos (.inr (by omega))]
      decide
    · rw [h3, decide_eq_false h2, if_neg (by decide), if_pos (.inr (by omega))]
      decide

theorem subN_lt {X Y n : Nat} (hX : X < 18446744073709551616 ^ n) : subN X Y n < 18446744073709551616 ^ n := by
  unfold subN
  rw [← B64]
  split <;> omega

set_option maxRecDepth 20000 in
set_option maxHeartbeats 2000000 in
/-- bringDown. -/
theorem pBring (o : Tr) (u v : Value) (xs ys : List Nat) (bit : Nat) (hbit : bit < 18446744073709551616) (T : Nat) (w : World) (ht : TrRoom w o 3) (hu : RowT w o u xs) (hv : RowT w o v ys) (hdx : Digs 18446744073709551616 xs) (hdy : Digs 18446744073709551616 ys) (hl : xs.length = ys.length) (hL : ys.length ≤ 100000)
    (hT : T = takenN (2 * val 18446744073709551616 xs + bit % 2) (val 18446744073709551616 ys) ys.length) :
    Calls Tryz.prog 88 #[trPtr o, u, v, .int .u64 (bit : Nat)] w fun e w' => ∃ v', e = .returned (.tuple #[v', .int .u64 (T : Nat)]) ∧
      OwnN .u64 24 w' w.heap.size v' ys.length (digs 18446744073709551616 (leftN (2 * val 18446744073709551616 xs + bit % 2) (val 18446744073709551616 ys) ys.length) ys.length) ∧ ∃ o', Did w o [(1, (ys.length : Nat), 0), (1, (ys.length : Nat), 0), (1, (ys.length : Nat), 0)] w' o' := by
  have hX : val 18446744073709551616 xs < 18446744073709551616 ^ ys.length := by rw [← hl]; exact val_lt (by omega) hdx
  obtain ⟨V, hV⟩ : ∃ V, V = 2 * val 18446744073709551616 xs + bit % 2 := ⟨_, rfl⟩
  have hVb : V < 2 * 18446744073709551616 ^ ys.length := by omega
  have hLf := lLeft o u xs bit hbit w (ht.less (by omega)) hu hdx (by omega)
  rw [← hV, hl] at hLf
  rw [← hV] at hT ⊢
  have htb := taken_bits V (val 18446744073709551616 ys) ys.length hVb
  rw [← hT] at htb
  have hTle : T ≤ 1 := by rw [hT]; exact taken_le _ _ _
  have hlf : leftN V (val 18446744073709551616 ys) ys.length = selN T (subN (V % 18446744073709551616 ^ ys.length) (val 18446744073709551616 ys) ys.length) (V % 18446744073709551616 ^ ys.length) := by rw [hT]; rfl
  have HV := toHid hv
  have HT := toHid ht
  have HDY := toHid hdy
  have HLF := toHid hlf
  obtain ⟨po, hpo⟩ : ∃ po, trPtr o = .pointer po := by
    cases o with
    | none => exact ⟨_, rfl⟩
    | some x => exact ⟨_, rfl⟩
  have HPO := toHid hpo
  rw [hpo] at hLf ⊢
  obtain ⟨c1, hc1⟩ : ∃ c1, c1 = V / 18446744073709551616 ^ ys.length := ⟨_, rfl⟩
  rw [← hc1] at hLf htb
  obtain ⟨c2, hc2⟩ : ∃ c2, c2 = oneN (decide (V % 18446744073709551616 ^ ys.length < val 18446744073709551616 ys)) := ⟨_, rfl⟩
  rw [← hc2] at htb
  have HC2 := toHid hc2
  obtain ⟨n, hn⟩ : ∃ n, n = ys.length := ⟨_, rfl⟩
  have HN := toHid hn
  rw [← hn] at hLf ⊢
  clear hu hv ht hdx hdy hl hV hX hT hVb hlf hpo hc1 hc2 hn
  go_enter Tryz.func88, Tryz.ntmps88
  go_wp2_with fail
  refine hLf.mono ?_
  rintro e w1 ⟨v1, rfl, ho1, o1, d1⟩
  have r1 : TrRoom w1 o1 2 := d1.room HT.out
  have hd1 : Digs 18446744073709551616 (digs 18446744073709551616 V n) := digs_digs (by omega) _ _
  have row1 := own_rowT ho1 (digs_length _ _ _) r1.1
  have hv1 := HV.out.did d1
  have hSb := lSub o1 _ _ _ _ w1 (r1.less (by omega)) row1 hv1 hd1 HDY.out (by rw [digs_length, HN.out]; omega) (by omega)
  rw [d1.ptr, HPO.out, val_digs, digs_length, ← HN.out, Nat.max_self] at hSb
  rw [HN.out, ← HC2.out, ← HN.out] at hSb
  clear hLf
  go_wp2_with fail
  refine hSb.mono ?_
  rintro e w2 ⟨v2, rfl, ho2, o2, d2⟩
  have r2 : TrRoom w2 o2 1 := d2.room r1
  have row2 := own_rowT ho2 (digs_length _ _ _) r2.1
  have row12 := row1.did d2
  have hSl := lSelect o2 T (by omega) _ _ _ _ w2 r2 row2 row12 (digs_digs (by omega) _ _) hd1 (by rw [digs_length, HN.out]; omega) (by rw [digs_length, HN.out]; omega)
  rw [d2.ptr, d1.ptr, HPO.out, val_digs, val_digs, digs_length, digs_length, Nat.max_self, Nat.mod_eq_of_lt (subN_lt (Nat.mod_lt _ (Nat.pow_pos (by omega))))] at hSl
  have hlf := HLF.out
  rw [← HN.out] at hlf
  rw [← hlf] at hSl
  clear hSb
  go_wp2_with fail
  refine hSl.mono ?_
  rintro e w3 ⟨v3, rfl, ho3, o3, d3⟩
  go_wp2_with fail
  go_ret2
  refine ⟨_, rfl, own_base ho3 (fun b hb => ?_), o3, (d1.trans d2).trans d3⟩
  have := (ho3.lt b hb).1
  have := d1.size
  have := d2.size
  omega

end Go.Proofs.YtaehphckkmbbnaaGreat

/- Division bit by bit: plain mathematics. -/
namespace Go.Proofs.YtaehphckkmbbnaaGreat
open Go.RowKit

/-- One bit of a quotient. -/
theorem bring_ok {R M n bit : Nat} (hM : 0 < M) (hR : R < M) (hn : M < 18446744073709551616 ^ n) (hb : bit ≤ 1) : takenN (2 * R + bit) M n = (2 * R + bit) / M ∧ leftN (2 * R + bit) M n = (2 * R + bit) % M := by
  have hV : 2 * R + bit < M * 2 := by omega
  generalize 2 * R + bit = V at *
  have hd : V / M = if M ≤ V then 1 else 0 := by
    split
    · rename_i h
      have h1 : V / M < 2 := (Nat.div_lt_iff_lt_mul hM).2 (by omega)
      have h2 : 0 < V / M := Nat.div_pos h hM
      exact Nat.le_antisymm (Nat.le_of_lt_succ h1) h2
    · exact Nat.div_eq_of_lt (by omega)
  have hm : V % M = if M ≤ V then V - M else V := by
    split
    · rename_i h
      rw [Nat.mod_eq_sub_mod h, Nat.mod_eq_of_lt (by omega)]
    · exact Nat.mod_eq_of_lt (by omega)
  have ht : takenN V M n = if M ≤ V then 1 else 0 := by
    unfold takenN
    generalize 18446744073709551616 ^ n = P at *
    by_cases h : P ≤ V
    · rw [if_pos (.inl h), if_pos (by omega)]
    · rw [Nat.mod_eq_of_lt (by omega : V < P)]
      by_cases h2 : M ≤ V
      · rw [if_pos (.inr h2), if_pos h2]
      · rw [if_neg (by omega), if_neg h2]
  refine ⟨by rw [ht, hd], ?_⟩
  unfold leftN
  rw [ht, hm]
  unfold selN subN
  rw [← B64]
  generalize 18446744073709551616 ^ n = P at *
  by_cases h2 : M ≤ V
  · rw [if_pos h2, if_pos h2, if_pos (by decide)]
    by_cases h : P ≤ V
    · have e : V % P = V - P := by rw [Nat.mod_eq_sub_mod h, Nat.mod_eq_of_lt (by omega)]
      rw [e, if_pos (by omega)]
      omega
    · rw [Nat.mod_eq_of_lt (by omega : V < P), if_neg (by omega)]
  · rw [if_neg h2, if_neg h2, if_neg (by decide), Nat.mod_eq_of_lt (by omega)]

theorem val_setB {B : Nat} : ∀ {zs : List Nat} {i : Nat} (z : Nat), i < zs.length → val B (zs.set i z) + B ^ i * zs.getD i 0 = val B zs + B ^ i * z
  | [], _, _, h => absurd h (by simp)
  | x :: r, 0, z, _ => by simp [val]; omega
  | x :: r, i + 1, z, h => by
    have ih := val_setB (B := B) (zs := r) (i := i) z (by simpa using h)
    simp only [List.set_cons_succ, val, List.getD_cons_succ]
    have e : B * (val B (r.set i z) + B ^ i * r.getD i 0) = B * (val B r + B ^ i * z) := by rw [ih]
    rw [Nat.mul_add, Nat.mul_add, ← Nat.mul_assoc, ← Nat.mul_assoc, ← Nat.pow_succ'] at e
    simp only [Nat.succ_eq_add_one] at e
    omega

theorem digs_setB {B : Nat} {zs : List Nat} (h : Digs B zs) {i z : Nat} (hz : z < B) : Digs B (zs.set i z) := fun d hd => by
  rcases List.mem_or_eq_of_mem_set hd with h1 | h1
  · exact h d h1
  · omega

/-- The quotient with one bit more. -/
theorem quot_bit {qs : List Nat} {X M p T : Nat} (hM : 0 < M) (hd : Digs 18446744073709551616 qs) (hi : p / 64 < qs.length) (hv : val 18446744073709551616 qs = X / 2 ^ (p + 1) / M * 2 ^ (p + 1)) (hT : T = (2 * (X / 2 ^ (p + 1) % M) + X / 2 ^ p % 2) / M) (hT1 : T ≤ 1) :
    val 18446744073709551616 (qs.set (p / 64) (qs.getD (p / 64) 0 ||| T * 2 ^ (p % 64))) = X / 2 ^ p / M * 2 ^ p := by
  have hq : qs.getD (p / 64) 0 = 2 ^ (p % 64 + 1) * (X / 2 ^ (p + 1) / M % 2 ^ (63 - p % 64)) := by
    rw [← dig_val (by omega) hd, hv, dig, B64, Nat.mul_div_assoc _ (Nat.pow_dvd_pow 2 (by omega)), Nat.pow_div (by omega) (by omega), show p + 1 - 64 * (p / 64) = p % 64 + 1 by omega, Nat.mul_comm, show (18446744073709551616 : Nat) = 2 ^ (p % 64 + 1) * 2 ^ (63 - p % 64) by rw [← Nat.pow_add, show p % 64 + 1 + (63 - p % 64) = 64 by omega], Nat.mul_mod_mul_left]
  have hor : qs.getD (p / 64) 0 ||| T * 2 ^ (p % 64) = qs.getD (p / 64) 0 + T * 2 ^ (p % 64) := by
    rw [hq]
    have hlt : T * 2 ^ (p % 64) < 2 ^ (p % 64 + 1) := by
      rw [Nat.pow_succ]
      have : T * 2 ^ (p % 64) ≤ 1 * 2 ^ (p % 64) := Nat.mul_le_mul_right _ hT1
      have : 0 < 2 ^ (p % 64) := Nat.pow_pos (by omega)
      omega
    exact (Nat.two_pow_add_eq_or_of_lt hlt _).symm
  have hs := val_setB (B := 18446744073709551616) (zs := qs) (i := p / 64) (qs.getD (p / 64) 0 ||| T * 2 ^ (p % 64)) hi
  rw [hor] at hs ⊢
  rw [Nat.mul_add] at hs
  have e1 : 18446744073709551616 ^ (p / 64) * (T * 2 ^ (p % 64)) = T * 2 ^ p := by
    rw [B64, Nat.mul_left_comm, ← Nat.pow_add, show 64 * (p / 64) + p % 64 = p by omega]
  rw [e1, hv] at hs
  have e2 : X / 2 ^ p = 2 * (X / 2 ^ (p + 1)) + X / 2 ^ p % 2 := by
    rw [Nat.pow_succ, ← Nat.div_div_eq_div_mul]; omega
  have e3 : X / 2 ^ p / M = 2 * (X / 2 ^ (p + 1) / M) + T := by
    rw [e2, hT]
    have h1 := Nat.div_add_mod (X / 2 ^ (p + 1)) M
    generalize X / 2 ^ (p + 1) = Z at *
    generalize X / 2 ^ p % 2 = b at *
    have h2 : 2 * Z + b = M * (2 * (Z / M)) + (2 * (Z % M) + b) := by
      have : M * (2 * (Z / M)) = 2 * (M * (Z / M)) := Nat.mul_left_comm ..
      omega
    rw [h2, Nat.mul_add_div hM]
  have e4 : X / 2 ^ p / M * 2 ^ p = X / 2 ^ (p + 1) / M * 2 ^ (p + 1) + T * 2 ^ p := by
    rw [e3]
    generalize X / 2 ^ (p + 1) / M = Z
    rw [Nat.add_mul, Nat.pow_succ, Nat.mul_comm 2 Z, Nat.mul_assoc, Nat.mul_comm 2 (2 ^ p)]
  rw [e4]
  omega

theorem rest_bit {X M p : Nat} : (2 * (X / 2 ^ (p + 1) % M) + X / 2 ^ p % 2) % M = X / 2 ^ p % M := by
  have e2 : X / 2 ^ p = 2 * (X / 2 ^ (p + 1)) + X / 2 ^ p % 2 := by
    rw [Nat.pow_succ, ← Nat.div_div_eq_div_mul]; omega
  generalize hb : X / 2 ^ p % 2 = b at *
  rw [e2, Nat.add_mod, Nat.mul_mod, Nat.mod_mod, ← Nat.mul_mod, ← Nat.add_mod]

end Go.Proofs.YtaehphckkmbbnaaGreat

/- Package product: divideByBits. -/
namespace Go.Proofs.YtaehphckkmbbnaaGreat
open Go.RowKit

theorem evs3 (k : Nat) (e : Ev) : List.replicate (3 * k) e ++ [e, e, e] = List.replicate (3 * (k + 1)) e := by
  rw [show [e, e, e] = List.replicate 3 e from rfl, List.replicate_append_replicate, Nat.mul_add]

theorem made_map (n : Nat) : madeCells #[Value.int .u64 0] n = ((List.replicate n 0).map fun z : Nat => Value.int .u64 (z : Int)).toArray := by
  have := zeros_map .u64 n
  rw [Nat.mul_one] at this
  rw [← this]
  rfl

/-- Two rows of noughts, made one behind the other. -/
theorem two_made (w : World) (A B : Nat) (CA CB : Array Value) (hA : CA = madeCells #[.int .u64 0] A) (hB : CB = madeCells #[.int .u64 0] B) (lA : A ≤ 1000000) (lB : B ≤ 1000000) :
    OwnN .u64 24 ((w.alloc (.cells CA 24)).alloc (.cells CB 24)).drew w.heap.size (.slice (some ⟨w.heap.size, 0, none⟩) A A) A (List.replicate A 0) ∧ OwnN .u64 24 ((w.alloc (.cells CA 24)).alloc (.cells CB 24)).drew w.heap.size (.slice (some ⟨w.heap.size + 1, 0, none⟩) B B) B (List.replicate B 0) ∧ Kept Nought w ((w.alloc (.cells CA 24)).alloc (.cells CB 24)).drew := by
  subst hA hB
  rw [made_map, made_map]
  refine ⟨own_of_block (heapAt_drew (heapAt_alloc (heap_alloc_new _ _))) (by simp) (by unfold maxLen; omega) (Nat.le_refl _), own_of_block (heapAt_drew ?_) (by simp) (by unfold maxLen; omega) (by omega), (((Kept.refl Nought w).alloc _).alloc _).drew⟩
  have := heap_alloc_new (w.alloc (.cells ((List.replicate A 0).map fun z : Nat => Value.int .u64 (z : Int)).toArray 24)) (.cells ((List.replicate B 0).map fun z : Nat => Value.int .u64 (z : Int)).toArray 24)
  simpa using this

theorem val_noughts (n : Nat) : val 18446744073709551616 (List.replicate n 0) = 0 := val_zeros _ (fun _ hd => (List.mem_replicate.1 hd).2)

theorem digs_noughts (n : Nat) : Digs 18446744073709551616 (List.replicate n 0) := fun _ hd => by rw [(List.mem_replicate.1 hd).2]; omega

theorem or_word {q T s : Nat} (hq : q < 18446744073709551616) (hT : T ≤ 1) (hs : s < 64) : bits .or .u64 (q : Int) (IntKind.u64.wrap ((T : Int) * 2 ^ s)) = ((q ||| T * 2 ^ s : Nat) : Int) ∧ q ||| T * 2 ^ s < 18446744073709551616 := by
  have h1 : T * 2 ^ s < 18446744073709551616 := by
    have h2 : T * 2 ^ s ≤ 1 * 2 ^ s := Nat.mul_le_mul_right _ hT
    have h3 : 2 ^ s < 2 ^ 64 := Nat.pow_lt_pow_right (by omega) hs
    omega
  refine ⟨?_, Nat.or_lt_two_pow (n := 64) hq h1⟩
  rw [show (T : Int) * 2 ^ s = ((T * 2 ^ s : Nat) : Int) by simp, IntKind.wrap_u64, show ((T * 2 ^ s : Nat) : Int) % 18446744073709551616 = ((T * 2 ^ s : Nat) : Int) by omega]
  exact u64_or_nat _ _ (by omega) (by omega)

set_option maxRecDepth 20000 in
set_option maxHeartbeats 2000000 in
/-- divideByBits. -/
theorem pBits (o : Tr) (ao bo : Option Addr) (L M cap dap : Nat) (xs ys : List Nat) (X Y : Nat) (hX : X = val 18446744073709551616 xs) (hY : Y = val 18446744073709551616 ys) (w : World) (ht : TrRoom w o (3 * (64 * L))) (hu : RowT w o (.slice ao L cap) xs) (hv : RowT w o (.slice bo M dap) ys) (hdx : Digs 18446744073709551616 xs) (hdy : Digs 18446744073709551616 ys) (hL : L ≤ 100000) (hM : M ≤ 100000) :
    Calls Tryz.prog 62 #[trPtr o, .slice ao L cap, .slice bo M dap] w fun e w' => ∃ v1 v2, e = .returned (.tuple #[v1, v2]) ∧
      ∃ q, OwnN .u64 24 w' w.heap.size v1 L (digs 18446744073709551616 q L) ∧ ∃ r, OwnN .u64 24 w' w.heap.size v2 M (digs 18446744073709551616 r M) ∧ (0 < Y → q = X / Y ∧ r = X % Y) ∧ ∃ o', Did w o (List.replicate (3 * (64 * L)) (1, (M : Nat), 0)) w' o' := by
  obtain ⟨i0, hi0, hz0, hz1, hz2⟩ := info_parts Tryz.info24
  obtain ⟨_, _, _, e1, hLx, _, _, _, _⟩ := hu.1.open
  cases e1
  obtain ⟨_, _, _, e1, hLy, _, _, _, _⟩ := hv.1.open
  cases e1
  have eL := toHid hLx.out
  have eM := toHid hLy.out
  have hYb : Hid (Y < 18446744073709551616 ^ M) := by unfold Hid; rw [hY, ← hLy.out]; exact val_lt (by omega) hdy
  have hXb : Hid (X < 2 ^ (64 * L)) := by unfold Hid; rw [hX, ← B64, ← hLx.out]; exact val_lt (by omega) hdx
  have hdigx : Hid (∀ k, dig 18446744073709551616 X k = xs.getD k 0) := fun k => by rw [hX]; exact dig_val (by omega) hdx k
  have hxb : Hid (∀ k, xs.getD k 0 < 18446744073709551616) := fun k => hdx.getD (by omega) _
  have HU := toHid hu
  have HV := toHid hv
  have HT := toHid ht
  have HDY := toHid hdy
  have HY := toHid hY
  obtain ⟨tp, htp⟩ : ∃ tp, tp = trPtr o := ⟨_, rfl⟩
  rw [← htp]
  have HTP := toHid htp
  clear hu hv ht hLx hLy hdx hdy htp hX hY
  obtain ⟨N, hN⟩ : ∃ N, N = 64 * L := ⟨_, rfl⟩
  have gN : (64 : Int) * (L : Int) = (N : Int) := by omega
  rw [← hN] at hXb HT ⊢
  have hNb : N ≤ 6400000 := by omega
  have HN := toHid hN
  clear hN
  obtain ⟨CL, hCL⟩ : ∃ C, C = madeCells #[.int .u64 0] L := ⟨_, rfl⟩
  obtain ⟨CM, hCM⟩ : ∃ C, C = madeCells #[.int .u64 0] M := ⟨_, rfl⟩
  have hmkL : ∀ W, (Instr.makeSlice 23 (.int .i64 (L : Int)) (.int .i64 (L : Int))).run Tryz.prog W = .ok (.slice (some ⟨W.heap.size, 0, none⟩) L L) (W.alloc (.cells CL 24)) := fun W => by rw [hCL]; exact run_make_row (P := Tryz.prog) _ _ i0 _ Tryz.underlying23 hi0 hz0 hz1 rfl _ _ L (by rw [hz2]; omega) (by omega) W
  have hmkM : ∀ W, (Instr.makeSlice 23 (.int .i64 (M : Int)) (.int .i64 (M : Int))).run Tryz.prog W = .ok (.slice (some ⟨W.heap.size, 0, none⟩) M M) (W.alloc (.cells CM 24)) := fun W => by rw [hCM]; exact run_make_row (P := Tryz.prog) _ _ i0 _ Tryz.underlying23 hi0 hz0 hz1 rfl _ _ M (by rw [hz2]; omega) (by omega) W
  have HCL := toHid hCL
  have HCM := toHid hCM
  clear hCL hCM
  go_enter Tryz.func62, Tryz.ntmps62
  go_wp2_with fail
  go_region
  · have hm2 := two_made w L M CL CM HCL.out HCM.out (by omega) (by omega)
    generalize ((w.alloc (.cells CL 24)).alloc (.cells CM 24)).drew = W1 at *
    obtain ⟨hoL, hoM, k1⟩ := hm2
    clear hmkL hmkM HCL HCM
    go_wp2_with fail
    go_loopw [9, 25] (fun rv i wr => ∃ (k : Nat) (o1 : Tr) (rs qs : List Nat), k ≤ N ∧ i = .int .i64 (k : Int) ∧ Hid (Did w o (List.replicate (3 * k) (1, (M : Int), 0)) wr o1) ∧ Hid (rs.length = M ∧ Digs 18446744073709551616 rs) ∧ Hid (qs.length = L ∧ Digs 18446744073709551616 qs) ∧ OwnN .u64 24 wr w.heap.size rv M rs ∧ OwnN .u64 24 wr w.heap.size (.slice (some ⟨w.heap.size, 0, none⟩) L L) L qs ∧ Hid (∀ b, rv.ownBlock = some b → b ≠ w.heap.size) ∧ Hid (0 < Y → val 18446744073709551616 rs = X / 2 ^ (N - k) % Y ∧ val 18446744073709551616 qs = X / 2 ^ (N - k) / Y * 2 ^ (N - k))) (fun _ i _ => N - (intOf i).toNat)
    case atStart =>
      refine ⟨0, o, _, _, Nat.zero_le _, rfl, Did.of_kept k1 HT.out.1, ⟨by simp, digs_noughts M⟩, ⟨by simp, digs_noughts L⟩, hoM, hoL, (fun b hb => by simp [Value.ownBlock] at hb; omega), (fun hy => ?_)⟩
      rw [val_noughts, val_noughts, Nat.sub_zero, Nat.div_eq_of_lt hXb.out, Nat.zero_mod, Nat.zero_div, Nat.zero_mul]
      exact ⟨rfl, rfl⟩
    case round =>
      clear hoL hoM k1
      obtain ⟨k, o1, rs, qs, hk, rfl, HD, HRS, HQS, hor, hoq, HNE, HVAL⟩ := hrel
      by_cases hkn : k < N
      · have hk0 : (0 : Int) ≤ (k : Int) := Int.natCast_nonneg _
        have hk1 : (k : Int) < (N : Int) := by omega
        obtain ⟨p, hp⟩ : ∃ p, p = N - 1 - k := ⟨_, rfl⟩
        have gp : (N : Int) - 1 - (k : Int) = (p : Int) := by omega
        have hpL : p / 64 < L := by have := HN.out; omega
        have gp1 : (p : Int) / 64 < (L : Int) := by omega
        have gp2 : (0 : Int) ≤ (p : Int) / 64 := by omega
        have gp3 : ((p : Int) / 64).toNat = p / 64 := by omega
        have hroom : TrRoom wr o1 3 := HD.out.room (by rw [List.length_replicate]; exact HT.out.less (by omega))
        have hu2 := HU.out.did HD.out
        have hv2 := HV.out.did HD.out
        obtain ⟨_, _, _, e2, _, _, _, _, hnum⟩ := hu2.1.open
        cases e2
        obtain ⟨b2, off2, rfl, hc2⟩ := hnum (p / 64) hpL
        have hx := hxb.out (p / 64)
        obtain ⟨x, hxx⟩ : ∃ x, x = xs.getD (p / 64) 0 := ⟨_, rfl⟩
        rw [← hxx] at hc2 hx
        obtain ⟨bt, hbt⟩ : ∃ bt, bt = x / 2 ^ (p % 64) := ⟨_, rfl⟩
        have hbtb : bt < 18446744073709551616 := by rw [hbt]; exact Nat.lt_of_le_of_lt (Nat.div_le_self _ _) hx
        have ebt : (x : Int) / 2 ^ (p % 64) = (bt : Int) := by rw [hbt]; simp
        have hbit : bt % 2 = X / 2 ^ p % 2 := by rw [hbt, hxx, ← hdigx.out, bit_dig64]
        have hrowr := own_rowT hor HRS.out.1 hroom.1
        obtain ⟨T, hT⟩ : ∃ T, T = takenN (2 * val 18446744073709551616 rs + bt % 2) Y M := ⟨_, rfl⟩
        have hTle : T ≤ 1 := by rw [hT]; exact taken_le _ _ _
        have hBr := pBring o1 _ _ rs ys bt hbtb T wr hroom hrowr hv2 HRS.out.2 HDY.out (by rw [HRS.out.1, eM.out]) (by rw [eM.out]; omega) (by rw [eM.out, ← HY.out]; exact hT)
        rw [HD.out.ptr, ← HTP.out, eM.out, ← HY.out] at hBr
        obtain ⟨LF, hLF⟩ : ∃ LF, LF = leftN (2 * val 18446744073709551616 rs + bt % 2) Y M := ⟨_, rfl⟩
        rw [← hLF] at hBr
        have HNX : Hid (0 < Y → LF = X / 2 ^ p % Y ∧ T = (2 * (X / 2 ^ (p + 1) % Y) + X / 2 ^ p % 2) / Y ∧ val 18446744073709551616 qs = X / 2 ^ (p + 1) / Y * 2 ^ (p + 1)) := fun hy => by
          obtain ⟨v1, v2⟩ := HVAL.out hy
          rw [show N - k = p + 1 by omega] at v1 v2
          obtain ⟨b1, b2⟩ := bring_ok (R := val 18446744073709551616 rs) (M := Y) (n := M) (bit := bt % 2) hy (by rw [v1]; exact Nat.mod_lt _ hy) hYb.out (by omega)
          rw [v1, hbit] at b1 b2
          rw [hLF, hT, v1, hbit]
          exact ⟨b2.trans rest_bit, b1, v2⟩
        have hq0 : Hid (∀ j, qs.getD j 0 < 18446744073709551616) := fun j => HQS.out.2.getD (by omega) _
        have hqq := hq0.out (p / 64)
        obtain ⟨or1, or2⟩ := or_word (s := p % 64) hqq hTle (by omega)
        have HP : Hid (N - (k + 1) = p) := by unfold Hid; omega
        clear hbt hT hLF hxx hnum hu2 hv2 hrowr hbit HVAL hp hq0
        go_wp2_with fail
        refine hBr.mono ?_
        rintro e w2 ⟨v2, rfl, ho2, o2, d2⟩
        have hoq2 := d2.kept.own hoq (own_apart hoq hroom.1)
        have HD2 := toHid (HD.out.trans d2)
        have hti2 := (d2.room (k := 0) hroom).1
        have hF2 : ¬ trFoot o2 w.heap.size := own_apart hoq2 hti2 _ rfl
        have hNE2 : Hid (∀ b, v2.ownBlock = some b → b ≠ w.heap.size) := fun b hb e => by
          have h1 := (ho2.lt b hb).1
          have h2 := owns_lt hoq
          omega
        have hcq : w2.cell? ⟨w.heap.size, p / 64, none⟩ = some (.int .u64 (qs.getD (p / 64) 0 : Nat)) := by
          rw [World.ownsRow.cellAt hoq2 (p / 64) (by omega), List.getElem?_map, List.getD_eq_getElem?_getD, List.getElem?_eq_getElem (by rw [HQS.out.1]; exact hpL)]
          rfl
        have hfq := World.ownsRow.frozenAt hoq2 (p / 64)
        obtain ⟨z, hz⟩ : ∃ z, z = qs.getD (p / 64) 0 ||| T * 2 ^ (p % 64) := ⟨_, rfl⟩
        have HZ := toHid hz
        rw [← hz] at or1 or2
        have hST := toHid (World.ownsRow.stored hoq2 (p / 64) (.int .u64 (z : Int))).1
        have hOR : Hid (OwnN .u64 24 w2 w.heap.size v2 M (digs 18446744073709551616 LF M)) := own_base ho2 (fun b hb => by have h1 := (ho2.lt b hb).1; have h2 := HD.out.size; omega)
        obtain ⟨pi, hpi⟩ : ∃ pi, pi = p / 64 := ⟨_, rfl⟩
        have gw : IntKind.i64.wrap ((p : Int) / 64) = (pi : Int) := by rw [IntKind.wrap_i64]; omega
        have gw1 : (pi : Int) < (L : Int) := by omega
        have HPI := toHid hpi
        obtain ⟨ps, hps⟩ : ∃ ps, ps = p % 64 := ⟨_, rfl⟩
        have gt : ((p : Int)).tmod 64 = (ps : Int) := by rw [Int.tmod_eq_emod_of_nonneg (by omega)]; omega
        have gt1 : (ps : Int) ≤ 64 := by omega
        have HPS := toHid hps
        rw [← hps] at or1
        rw [← hpi] at hcq hfq hST
        generalize hqz : qs.getD (p / 64) 0 = q at *
        have HQZ := toHid hqz
        rw [hpi, hqz, ← hpi] at hcq
        clear hBr hor hoq HD d2 ho2 hoq2 hti2 hz hroom HRS HNE hpi hps hqz gp1 gp2 gp3
        go_wp2_with fail
        go_still_tail 10, (by kernel_rfl)
        change wpList _ _ _ _ _ w2.drew
        go_wp2_with fail
        go_roundw
        case rel =>
          have k3 : Kept (fun b => b = w.heap.size) w2 (w2.setCell ⟨w.heap.size, pi, none⟩ (.int .u64 (z : Int))).drew := ((Kept.refl (fun b => b = w.heap.size) w2).setCell ⟨w.heap.size, pi, none⟩ (fun _ => rfl) _).drew
          have hST2 : OwnN .u64 24 (w2.setCell ⟨w.heap.size, pi, none⟩ (.int .u64 (z : Int))).drew w.heap.size (.slice (some ⟨w.heap.size, 0, none⟩) L L) L (qs.set pi z) := by
            unfold OwnN
            rw [List.map_set]
            exact hST.out
          refine ⟨k + 1, o2, digs 18446744073709551616 LF M, qs.set pi z, by omega, by go_num, ?_, ⟨digs_length _ _ _, digs_digs (by omega) _ _⟩, ⟨by rw [List.length_set]; exact HQS.out.1, digs_setB HQS.out.2 or2⟩, k3.own hOR.out (fun b hb => hNE2.out b hb), hST2, hNE2, (fun hy => ?_)⟩
          · unfold Hid
            rw [← evs3]
            exact HD2.out.wroteNew k3 (by omega) hF2
          · obtain ⟨v1, v2, v3⟩ := HNX.out hy
            have hqb := quot_bit (p := p) hy HQS.out.2 (by rw [HQS.out.1]; exact hpL) v3 v2 hTle
            rw [HQZ.out, ← HZ.out, ← HPI.out] at hqb
            rw [HP.out, val_digs, hqb]
            exact ⟨by rw [v1, Nat.mod_eq_of_lt (Nat.lt_trans (Nat.mod_lt _ hy) hYb.out)], rfl⟩
        case measure => simp [intOf]; omega
      · have hk1 : ¬ (k : Int) < (N : Int) := by omega
        obtain rfl : k = N := by omega
        have hq2 : digs 18446744073709551616 (val 18446744073709551616 qs) L = qs := (digs_val (by omega) HQS.out.2 HQS.out.1 (by rw [Nat.mod_eq_of_lt]; have := val_lt (by omega) HQS.out.2; rwa [HQS.out.1] at this)).symm
        have hr2 : digs 18446744073709551616 (val 18446744073709551616 rs) M = rs := (digs_val (by omega) HRS.out.2 HRS.out.1 (by rw [Nat.mod_eq_of_lt]; have := val_lt (by omega) HRS.out.2; rwa [HRS.out.1] at this)).symm
        have HQ2 := toHid hq2
        have HR2 := toHid hr2
        clear hdigx hxb hq2 hr2
        go_wp2_with fail
        go_ret2
        refine ⟨_, _, rfl, val 18446744073709551616 qs, by rw [HQ2.out]; exact hoq, val 18446744073709551616 rs, by rw [HR2.out]; exact hor, (fun hy => ?_), o1, HD.out⟩
        obtain ⟨v1, v2⟩ := HVAL.out hy
        rw [Nat.sub_self, Nat.pow_zero, Nat.div_one] at v1 v2
        exact ⟨by rw [v2, Nat.mul_one], v1⟩
  · have hm2 := two_made w M L CM CL HCM.out HCL.out (by omega) (by omega)
    generalize ((w.alloc (.cells CM 24)).alloc (.cells CL 24)).drew = W1 at *
    obtain ⟨hoM, hoL, k1⟩ := hm2
    clear hmkL hmkM HCL HCM
    go_wp2_with fail
    go_loopw [9, 25] (fun rv i wr => ∃ (k : Nat) (o1 : Tr) (rs qs : List Nat), k ≤ N ∧ i = .int .i64 (k : Int) ∧ Hid (Did w o (List.replicate (3 * k) (1, (M : Int), 0)) wr o1) ∧ Hid (rs.length = M ∧ Digs 18446744073709551616 rs) ∧ Hid (qs.length = L ∧ Digs 18446744073709551616 qs) ∧ OwnN .u64 24 wr w.heap.size rv M rs ∧ OwnN .u64 24 wr w.heap.size (.slice (some ⟨(w.heap.size + 1), 0, none⟩) L L) L qs ∧ Hid (∀ b, rv.ownBlock = some b → b ≠ (w.heap.size + 1)) ∧ Hid (0 < Y → val 18446744073709551616 rs = X / 2 ^ (N - k) % Y ∧ val 18446744073709551616 qs = X / 2 ^ (N - k) / Y * 2 ^ (N - k))) (fun _ i _ => N - (intOf i).toNat)
    case atStart =>
      refine ⟨0, o, _, _, Nat.zero_le _, rfl, Did.of_kept k1 HT.out.1, ⟨by simp, digs_noughts M⟩, ⟨by simp, digs_noughts L⟩, hoM, hoL, (fun b hb => by simp [Value.ownBlock] at hb; omega), (fun hy => ?_)⟩
      rw [val_noughts, val_noughts, Nat.sub_zero, Nat.div_eq_of_lt hXb.out, Nat.zero_mod, Nat.zero_div, Nat.zero_mul]
      exact ⟨rfl, rfl⟩
    case round =>
      clear hoL hoM k1
      obtain ⟨k, o1, rs, qs, hk, rfl, HD, HRS, HQS, hor, hoq, HNE, HVAL⟩ := hrel
      by_cases hkn : k < N
      · have hk0 : (0 : Int) ≤ (k : Int) := Int.natCast_nonneg _
        have hk1 : (k : Int) < (N : Int) := by omega
        obtain ⟨p, hp⟩ : ∃ p, p = N - 1 - k := ⟨_, rfl⟩
        have gp : (N : Int) - 1 - (k : Int) = (p : Int) := by omega
        have hpL : p / 64 < L := by have := HN.out; omega
        have gp1 : (p : Int) / 64 < (L : Int) := by omega
        have gp2 : (0 : Int) ≤ (p : Int) / 64 := by omega
        have gp3 : ((p : Int) / 64).toNat = p / 64 := by omega
        have hroom : TrRoom wr o1 3 := HD.out.room (by rw [List.length_replicate]; exact HT.out.less (by omega))
        have hu2 := HU.out.did HD.out
        have hv2 := HV.out.did HD.out
        obtain ⟨_, _, _, e2, _, _, _, _, hnum⟩ := hu2.1.open
        cases e2
        obtain ⟨b2, off2, rfl, hc2⟩ := hnum (p / 64) hpL
        have hx := hxb.out (p / 64)
        obtain ⟨x, hxx⟩ : ∃ x, x = xs.getD (p / 64) 0 := ⟨_, rfl⟩
        rw [← hxx] at hc2 hx
        obtain ⟨bt, hbt⟩ : ∃ bt, bt = x / 2 ^ (p % 64) := ⟨_, rfl⟩
        have hbtb : bt < 18446744073709551616 := by rw [hbt]; exact Nat.lt_of_le_of_lt (Nat.div_le_self _ _) hx
        have ebt : (x : Int) / 2 ^ (p % 64) = (bt : Int) := by rw [hbt]; simp
        have hbit : bt % 2 = X / 2 ^ p % 2 := by rw [hbt, hxx, ← hdigx.out, bit_dig64]
        have hrowr := own_rowT hor HRS.out.1 hroom.1
        obtain ⟨T, hT⟩ : ∃ T, T = takenN (2 * val 18446744073709551616 rs + bt % 2) Y M := ⟨_, rfl⟩
        have hTle : T ≤ 1 := by rw [hT]; exact taken_le _ _ _
        have hBr := pBring o1 _ _ rs ys bt hbtb T wr hroom hrowr hv2 HRS.out.2 HDY.out (by rw [HRS.out.1, eM.out]) (by rw [eM.out]; omega) (by rw [eM.out, ← HY.out]; exact hT)
        rw [HD.out.ptr, ← HTP.out, eM.out, ← HY.out] at hBr
        obtain ⟨LF, hLF⟩ : ∃ LF, LF = leftN (2 * val 18446744073709551616 rs + bt % 2) Y M := ⟨_, rfl⟩
        rw [← hLF] at hBr
        have HNX : Hid (0 < Y → LF = X / 2 ^ p % Y ∧ T = (2 * (X / 2 ^ (p + 1) % Y) + X / 2 ^ p % 2) / Y ∧ val 18446744073709551616 qs = X / 2 ^ (p + 1) / Y * 2 ^ (p + 1)) := fun hy => by
          obtain ⟨v1, v2⟩ := HVAL.out hy
          rw [show N - k = p + 1 by omega] at v1 v2
          obtain ⟨b1, b2⟩ := bring_ok (R := val 18446744073709551616 rs) (M := Y) (n := M) (bit := bt % 2) hy (by rw [v1]; exact Nat.mod_lt _ hy) hYb.out (by omega)
          rw [v1, hbit] at b1 b2
          rw [hLF, hT, v1, hbit]
          exact ⟨b2.trans rest_bit, b1, v2⟩
        have hq0 : Hid (∀ j, qs.getD j 0 < 18446744073709551616) := fun j => HQS.out.2.getD (by omega) _
        have hqq := hq0.out (p / 64)
        obtain ⟨or1, or2⟩ := or_word (s := p % 64) hqq hTle (by omega)
        have HP : Hid (N - (k + 1) = p) := by unfold Hid; omega
        clear hbt hT hLF hxx hnum hu2 hv2 hrowr hbit HVAL hp hq0
        go_wp2_with fail
        refine hBr.mono ?_
        rintro e w2 ⟨v2, rfl, ho2, o2, d2⟩
        have hoq2 := d2.kept.own hoq (own_apart hoq hroom.1)
        have HD2 := toHid (HD.out.trans d2)
        have hti2 := (d2.room (k := 0) hroom).1
        have hF2 : ¬ trFoot o2 (w.heap.size + 1) := own_apart hoq2 hti2 _ rfl
        have hNE2 : Hid (∀ b, v2.ownBlock = some b → b ≠ (w.heap.size + 1)) := fun b hb e => by
          have h1 := (ho2.lt b hb).1
          have h2 := owns_lt hoq
          omega
        have hcq : w2.cell? ⟨(w.heap.size + 1), p / 64, none⟩ = some (.int .u64 (qs.getD (p / 64) 0 : Nat)) := by
          rw [World.ownsRow.cellAt hoq2 (p / 64) (by omega), List.getElem?_map, List.getD_eq_getElem?_getD, List.getElem?_eq_getElem (by rw [HQS.out.1]; exact hpL)]
          rfl
        have hfq := World.ownsRow.frozenAt hoq2 (p / 64)
        obtain ⟨z, hz⟩ : ∃ z, z = qs.getD (p / 64) 0 ||| T * 2 ^ (p % 64) := ⟨_, rfl⟩
        have HZ := toHid hz
        rw [← hz] at or1 or2
        have hST := toHid (World.ownsRow.stored hoq2 (p / 64) (.int .u64 (z : Int))).1
        have hOR : Hid (OwnN .u64 24 w2 w.heap.size v2 M (digs 18446744073709551616 LF M)) := own_base ho2 (fun b hb => by have h1 := (ho2.lt b hb).1; have h2 := HD.out.size; omega)
        obtain ⟨pi, hpi⟩ : ∃ pi, pi = p / 64 := ⟨_, rfl⟩
        have gw : IntKind.i64.wrap ((p : Int) / 64) = (pi : Int) := by rw [IntKind.wrap_i64]; omega
        have gw1 : (pi : Int) < (L : Int) := by omega
        have HPI := toHid hpi
        obtain ⟨ps, hps⟩ : ∃ ps, ps = p % 64 := ⟨_, rfl⟩
        have gt : ((p : Int)).tmod 64 = (ps : Int) := by rw [Int.tmod_eq_emod_of_nonneg (by omega)]; omega
        have gt1 : (ps : Int) ≤ 64 := by omega
        have HPS := toHid hps
        rw [← hps] at or1
        rw [← hpi] at hcq hfq hST
        generalize hqz : qs.getD (p / 64) 0 = q at *
        have HQZ := toHid hqz
        rw [hpi, hqz, ← hpi] at hcq
        clear hBr hor hoq HD d2 ho2 hoq2 hti2 hz hroom HRS HNE hpi hps hqz gp1 gp2 gp3
        go_wp2_with fail
        go_still_tail 10, (by kernel_rfl)
        change wpList _ _ _ _ _ w2.drew
        go_wp2_with fail
        go_roundw
        case rel =>
          have k3 : Kept (fun b => b = (w.heap.size + 1)) w2 (w2.setCell ⟨(w.heap.size + 1), pi, none⟩ (.int .u64 (z : Int))).drew := ((Kept.refl (fun b => b = (w.heap.size + 1)) w2).setCell ⟨(w.heap.size + 1), pi, none⟩ (fun _ => rfl) _).drew
          have hST2 : OwnN .u64 24 (w2.setCell ⟨(w.heap.size + 1), pi, none⟩ (.int .u64 (z : Int))).drew w.heap.size (.slice (some ⟨(w.heap.size + 1), 0, none⟩) L L) L (qs.set pi z) := by
            unfold OwnN
            rw [List.map_set]
            exact hST.out
          refine ⟨k + 1, o2, digs 18446744073709551616 LF M, qs.set pi z, by omega, by go_num, ?_, ⟨digs_length _ _ _, digs_digs (by omega) _ _⟩, ⟨by rw [List.length_set]; exact HQS.out.1, digs_setB HQS.out.2 or2⟩, k3.own hOR.out (fun b hb => hNE2.out b hb), hST2, hNE2, (fun hy => ?_)⟩
          · unfold Hid
            rw [← evs3]
            exact HD2.out.wroteNew k3 (by omega) hF2
          · obtain ⟨v1, v2, v3⟩ := HNX.out hy
            have hqb := quot_bit (p := p) hy HQS.out.2 (by rw [HQS.out.1]; exact hpL) v3 v2 hTle
            rw [HQZ.out, ← HZ.out, ← HPI.out] at hqb
            rw [HP.out, val_digs, hqb]
            exact ⟨by rw [v1, Nat.mod_eq_of_lt (Nat.lt_trans (Nat.mod_lt _ hy) hYb.out)], rfl⟩
        case measure => simp [intOf]; omega
      · have hk1 : ¬ (k : Int) < (N : Int) := by omega
        obtain rfl : k = N := by omega
        have hq2 : digs 18446744073709551616 (val 18446744073709551616 qs) L = qs := (digs_val (by omega) HQS.out.2 HQS.out.1 (by rw [Nat.mod_eq_of_lt]; have := val_lt (by omega) HQS.out.2; rwa [HQS.out.1] at this)).symm
        have hr2 : digs 18446744073709551616 (val 18446744073709551616 rs) M = rs := (digs_val (by omega) HRS.out.2 HRS.out.1 (by rw [Nat.mod_eq_of_lt]; have := val_lt (by omega) HRS.out.2; rwa [HRS.out.1] at this)).symm
        have HQ2 := toHid hq2
        have HR2 := toHid hr2
        clear hdigx hxb hq2 hr2
        go_wp2_with fail
        go_ret2
        refine ⟨_, _, rfl, val 18446744073709551616 qs, by rw [HQ2.out]; exact hoq, val 18446744073709551616 rs, by rw [HR2.out]; exact hor, (fun hy => ?_), o1, HD.out⟩
        obtain ⟨v1, v2⟩ := HVAL.out hy
        rw [Nat.sub_self, Nat.pow_zero, Nat.div_one] at v1 v2
        exact ⟨by rw [v2, Nat.mul_one], v1⟩

end Go.Proofs.YtaehphckkmbbnaaGreat

/- Package product: what Divide attempts. -/
namespace Go.Proofs.YtaehphckkmbbnaaGreat
open Go.RowKit

def divEvs (L M : Nat) : List Ev := [(1, ((M : Nat) : Int), 0)] ++ List.replicate (3 * (64 * L)) (1, ((M : Nat) : Int), 0)

theorem divEvs_len (L M : Nat) : (divEvs L M).length = 1 + 3 * (64 * L) := by unfold divEvs; rw [List.length_append, List.length_replicate]; rfl

set_option maxRecDepth 20000 in
set_option maxHeartbeats 2000000 in
/-- What Divide attempts. -/
theorem pDivide1 (o : Tr) (ao bo : Option Addr) (L M cap dap : Nat) (xs ys : List Nat) (X Y : Nat) (hX : X = val 18446744073709551616 xs) (hY : Y = val 18446744073709551616 ys) (bT bA bB bQ bR : Nat) (w : World) (ht : TrRoom w o 60000) (hu : RowT w o (.slice ao L cap) xs) (hv : RowT w o (.slice bo M dap) ys) (hdx : Digs 18446744073709551616 xs) (hdy : Digs 18446744073709551616 ys)
    (hT : Box w bT (trPtr o) 29) (hA : Box w bA (.slice ao L cap) 23) (hB : Box w bB (.slice bo M dap) 23) (hQ : Box w bQ (.slice none 0 0) 23) (hR : Box w bR (.slice none 0 0) 23) (hne : bQ ≠ bR) :
    Calls Tryz.prog 59 #[.pointer (some ⟨bA, 0, none⟩), .pointer (some ⟨bB, 0, none⟩), .pointer (some ⟨bT, 0, none⟩), .pointer (some ⟨bQ, 0, none⟩), .pointer (some ⟨bR, 0, none⟩)] w fun e w' =>
      (¬ (L ≤ 300 ∧ M ≤ 300) ∧ e = .panicked [refusal 2] ∧ w' = w) ∨ ((L ≤ 300 ∧ M ≤ 300) ∧ Y = 0 ∧ e = .panicked [refusal 1] ∧ ∃ o', Did w o (divEvs L M) w' o') ∨
      ((L ≤ 300 ∧ M ≤ 300) ∧ Y ≠ 0 ∧ e = .returned (.tuple #[]) ∧ ∃ v1 v2 w1 o', OwnN .u64 24 w' w.heap.size v1 L (digs 18446744073709551616 (X / Y) L) ∧ OwnN .u64 24 w' w.heap.size v2 M (digs 18446744073709551616 (X % Y) M) ∧ Did w o (divEvs L M) w1 o' ∧ Kept (fun b => b = bQ ∨ b = bR) w1 w' ∧ Box w' bQ v1 23 ∧ Box w' bR v2 23) := by
  obtain ⟨_, _, _, e1, hLx, _, _, _, _⟩ := hu.1.open
  cases e1
  obtain ⟨_, _, _, e1, hLy, _, _, _, _⟩ := hv.1.open
  cases e1
  have eL := toHid hLx.out
  have eM := toHid hLy.out
  have hP := fun W => pLong ao bo L M cap dap W
  obtain ⟨po, hpo⟩ := trPtr_shape o
  have hZ := fun (l : M ≤ 300) => lZero o _ ys w (ht.less (by omega)) hv hdy (by have := eM.out; omega)
  rw [← hY, eM.out] at hZ
  rw [hpo] at hZ hT
  have cT := hT.cell
  have cA := hA.cell
  have cB := hB.cell
  have HT := toHid ht
  have HU := toHid hu
  have HV := toHid hv
  have HBA := toHid hA
  have HBB := toHid hB
  have HBT := toHid hT
  have HBQ := toHid hQ
  have HBR := toHid hR
  have HDX := toHid hdx
  have HDY := toHid hdy
  have HX := toHid hX
  have HY := toHid hY
  have HPO := toHid hpo
  clear hu hv hdx hdy hLx hLy hpo hT hA hB hQ hR ht hX hY
  go_enter Tryz.func59, Tryz.ntmps59
  go_wp2_with fail
  refine (hP _).mono ?_
  rintro e w1 ⟨⟨l1, l2, rfl⟩ | ⟨l1, rfl⟩, rfl⟩
  · go_wp2_with fail
    refine (hZ l2).mono ?_
    rintro e w2 ⟨rfl, o2, d2⟩
    have ht1 := HT.out.1
    have cA2 := (HBA.out.did d2 ht1 (by decide) (by decide)).cell
    have cB2 := (HBB.out.did d2 ht1 (by decide) (by decide)).cell
    have cT2 := (HBT.out.did d2 ht1 (by decide) (by decide)).cell
    have hxQ := HBQ.out.did d2 ht1 (by decide) (by decide)
    have hxR := HBR.out.did d2 ht1 (by decide) (by decide)
    have r2 : TrRoom w2 o2 59999 := d2.room (HT.out.less (by simp))
    have hD := pBits o2 ao bo L M cap dap xs ys X Y HX.out HY.out w2 (r2.less (by omega)) (HU.out.did d2) (HV.out.did d2) HDX.out HDY.out (by omega) (by omega)
    rw [d2.ptr, HPO.out] at hD
    obtain ⟨nz, hnz⟩ : ∃ nz, nz = oneN (decide (Y = 0)) := ⟨_, rfl⟩
    rw [← hnz]
    have HNZ := toHid hnz
    clear hZ hP cA cB cT hnz
    go_wp2_with fail
    refine hD.mono ?_
    rintro e w3 ⟨v1, v2, rfl, q, ho1, r, ho2, hval, o3, d3⟩
    have hxQ3 := hxQ.did d3 r2.1 (by decide) (by decide)
    have hxR3 := hxR.did d3 r2.1 (by decide) (by decide)
    have HD := toHid (d2.trans d3)
    clear hD
    by_cases h0 : Y = 0
    · have en : nz = 1 := by rw [HNZ.out, decide_eq_true h0]; rfl
      have gn : ((nz : Int) == 1) = true := by rw [en]; rfl
      have hYes := pRefuseYes 1 w3
      go_wp2_with fail
      refine hYes.mono ?_
      rintro e w4 ⟨rfl, rfl⟩
      exact ⟨rfl, .inr (.inl ⟨⟨l1, l2⟩, h0, rfl, o3, HD.out⟩)⟩
    · have en : nz = 0 := by rw [HNZ.out, decide_eq_false h0]; rfl
      have gn : ((nz : Int) == 1) = false := by rw [en]; rfl
      have hNo := pRefuseNo 1 w3
      obtain ⟨xo, xc, rfl⟩ := own_slice ho1
      obtain ⟨yo, yc, rfl⟩ := own_slice ho2
      have cQ := hxQ3.cell
      have fQ := hxQ3.free
      have cR := hxR3.cell
      have fR := hxR3.free
      obtain ⟨eq1, eq2⟩ := hval (by omega)
      rw [eq1] at ho1
      rw [eq2] at ho2
      have hlt1 := hxQ.lt
      have hlt2 := hxR.lt
      have hsz := d2.size
      have kb : Kept (fun b => b = bQ ∨ b = bR) w3 (w3.setCell ⟨bQ, 0, none⟩ (.slice xo L xc)) := (kept_box w3 bQ (.slice xo L xc)).mono (fun _ _ e => .inl e)
      have kb2 := kb.next (kept_box _ bR (.slice yo M yc)) (fun _ _ e => .inr e)
      have HO1 := toHid (own_base (base' := w1.heap.size) (kb2.own ho1 (fun b hb e => by have := (ho1.lt b hb).1; omega)) (fun b hb => by have := (ho1.lt b hb).1; omega))
      have HO2 := toHid (own_base (base' := w1.heap.size) (kb2.own ho2 (fun b hb e => by have := (ho2.lt b hb).1; omega)) (fun b hb => by have := (ho2.lt b hb).1; omega))
      have HX1 := toHid ((hxQ3.set (.slice xo L xc)).other ⟨bR, 0, none⟩ hne (.slice yo M yc))
      have HX2 := toHid ((hxR3.other ⟨bQ, 0, none⟩ (fun e => hne e.symm) (.slice xo L xc)).set (.slice yo M yc))
      have HKB := toHid kb2
      clear ho1 ho2 hval hxQ3 hxR3 kb kb2 d2 d3 eq1 eq2 hxQ hxR cA2 cB2 cT2
      go_wp2_with fail
      refine hNo.mono ?_
      rintro e w4 ⟨rfl, rfl⟩
      clear hNo
      go_wp2_with fail
      go_end0
      exact .inr (.inr ⟨⟨l1, l2⟩, h0, rfl, _, _, w4, o3, HO1.out, HO2.out, HD.out, HKB.out, HX1.out, HX2.out⟩)
  · exact ⟨rfl, .inl ⟨l1, rfl, rfl⟩⟩

end Go.Proofs.YtaehphckkmbbnaaGreat
