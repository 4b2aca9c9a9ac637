/- Put together of: Sgn2 Sgn3 Hsh1 Hsh2 Hsh3 Has1 Has2. -/
import Derived.Test.YthnkganmccgaeaaDoorPk8
import Derived.Test.YthnkganmccgaeaaDoorPk10
import Derived.Test.YthnkganmccgaeaaDoorPk14
import Derived.Test.YthnkganmccgaeaaDoorPk19
import Derived.Test.YthnkganmccgaeaaDoorPk20
import Derived.Lib.MakeNoZero
import Derived.BigRegion
import Derived.Lib.LaidU8

/- bytes.Repeat of one byte, bytes.Equal. -/
namespace Go.Proofs.YthnkganmccgaeaaDoor
open Go.RowKit

set_option maxHeartbeats 1000000 in
/-- bits.Mul64 of one and a small number. -/
theorem sgMul64 (n : Nat) (hn : n < 4294967296) (w : World) :
    Calls Tryd.prog 46 #[.int .u64 1, .int .u64 (n : Nat)] w fun e w' => e = .returned (.tuple #[.int .u64 0, .int .u64 (n : Nat)]) ∧ w' = w := by
  have h1 : bits .and .u64 1 4294967295 = 1 := mask32N 1 (by omega)
  have h2 : bits .and .u64 (n : Int) 4294967295 = (n : Int) := by
    rw [mask32N n (by omega), Nat.mod_eq_of_lt hn]
  have h3 : (n : Int) / 4294967296 = 0 := by omega
  go_enter Tryd.func46, Tryd.ntmps46
  go_wp2_with fail
  go_ret2
  exact ⟨by first | rfl | simp, rfl⟩

set_option maxHeartbeats 400000 in
/-- bits.Mul, of one and a number. -/
theorem sgMul (n : Nat) (hn : n < 4294967296) (w : World) :
    Calls Tryd.prog 34 #[.int .u64 1, .int .u64 (n : Nat)] w fun e w' => e = .returned (.tuple #[.int .u64 0, .int .u64 (n : Nat)]) ∧ w' = w := by
  have h := sgMul64 n hn w
  go_enter Tryd.func34, Tryd.ntmps34
  go_wp2_with fail
  refine h.mono ?_
  rintro e w' ⟨rfl, rfl⟩
  go_wp2
  go_ret2
  exact ⟨rfl, rfl⟩

/-- A block of C cells whose first k hold the byte M. -/
def FillB (w : World) (g M k C : Nat) : Prop := ∃ ts : List Value, w.heap[g]? = some (.cells (((List.replicate k M).map fun z : Nat => Value.int .u8 (z : Int)) ++ ts).toArray 5 (0, 0)) ∧ k + ts.length = C

theorem fillB_step {M k c : Nat} (ts : List Value) (f : Nat → Value) : splice ((List.replicate k M).map f ++ ts) k ((List.replicate c M).map f) = (List.replicate (k + c) M).map f ++ ts.drop c := by
  unfold splice
  simp only [List.map_replicate, List.length_replicate]
  rw [List.take_left' (by simp), List.drop_append, List.drop_eq_nil_of_le (by simp), List.nil_append, List.length_replicate, show k + c - k = c by omega, ← List.append_assoc, List.replicate_append_replicate]

/-- A part that is filled is copied behind itself. -/
theorem FillB.copy {w : World} {g M k C : Nat} (h : FillB w g M k C) (n c m : Nat) (hn : n ≤ C) (hk : k ≤ n) (hc : c = min m (n - k)) (hm : m ≤ k) (ty : TypeId) :
    ∃ w', (Builtin.copy_ #[22, 22] ty #[.slice (some ⟨g, k, none⟩) (n - k) (n - k), .slice (some ⟨g, 0, none⟩) m n]).run Tryd.prog w = .ok (goInt c) w' ∧ FillB w' g M (k + c) C ∧ Kept (fun b => b = g) w w' := by
  obtain ⟨i0, hi0, hz0, hz1, hz2⟩ := info_parts Tryd.info8s
  obtain ⟨ts, hb, hl⟩ := h
  have hlen : ((List.replicate c M).map fun z : Nat => Value.int .u8 (z : Int)).length = c := by rw [List.length_map, List.length_replicate]
  obtain ⟨w3, hrun, hb3, k3⟩ := run_copy_part (P := Tryd.prog) (w := w) 22 22 ty 5 g k (n - k) (n - k) (some ⟨g, k, none⟩) (some ⟨g, 0, none⟩) m n (((List.replicate k M).map fun z : Nat => Value.int .u8 (z : Int)) ++ ts) 5 ((List.replicate c M).map fun z : Nat => Value.int .u8 (z : Int)) Tryd.underlying22 (by rw [hi0]; simp [hz1]) hb (by rw [hlen, hc]) (fun _ => ⟨rfl, _, rfl, fun j u hj => by
      have hjc : j < c := by
        have := (List.getElem?_eq_some_iff.1 hj).1
        rwa [hlen] at this
      rw [List.getElem?_map, List.getElem?_replicate, if_pos hjc] at hj
      rw [show (⟨g, 0, none⟩ : Addr).add j = ⟨g, j, none⟩ by unfold Addr.add; split <;> simp_all, cell_of_row w g j _ _ _ hb, List.getElem?_toArray, List.getElem?_append_left (by rw [List.length_map, List.length_replicate]; omega), List.getElem?_map, List.getElem?_replicate, if_pos (by omega)]
      exact hj⟩) (by rw [hlen, List.length_append, List.length_map, List.length_replicate]; omega) (ones8 .u8 _)
  rw [hlen] at hrun
  rw [fillB_step] at hb3
  exact ⟨w3, hrun, ⟨_, hb3, by rw [List.length_drop]; omega⟩, k3⟩

/-- A block that is filled, as a row. -/
theorem FillB.row {w : World} {g M n C : Nat} (h : FillB w g M n C) (hn : n ≤ maxLen) : Row .u8 w (.slice (some ⟨g, 0, none⟩) n n) (List.replicate n M) := by
  obtain ⟨ts, h1, h2⟩ := h
  refine ⟨some ⟨g, 0, none⟩, n, by rw [List.length_replicate], by rw [List.length_replicate]; exact Nat.le_refl _, hn, (fun e => by cases e), fun i hi => ⟨g, 0, rfl, ?_⟩⟩
  have hi' : i < n := by simpa using hi
  rw [cell_of_row w g _ _ _ _ h1]
  simp [List.getElem?_append_left, hi']

set_option maxRecDepth 20000 in
set_option maxHeartbeats 2000000 in
/-- bytes.Repeat of one byte. -/
theorem sgRepeat (b M n : Nat) (w : World) (hx : w.cell? ⟨b, 0, none⟩ = some (.int .u8 (M : Nat))) (hn0 : 0 < n) (hn : n ≤ 2000) :
    Calls Tryd.prog 23 #[.slice (some ⟨b, 0, none⟩) 1 1, .int .i64 (n : Nat)] w fun e w' => ∃ g : Nat, e = .returned (.slice (some ⟨g, 0, none⟩) n n) ∧ Row .u8 w' (.slice (some ⟨g, 0, none⟩) n n) (List.replicate n M) ∧ Kept Nought w w' := by
  obtain ⟨i0, hi0, hz0, hz1, hz2⟩ := info_parts Tryd.info8s
  have hB := sgMul n (by omega) w
  obtain ⟨cs, hrunM, hle, hmx⟩ := Lib.run_makeNoZero (P := Tryd.prog) w #[3] 22 5 Tryd.underlying22 n (by omega)
  obtain ⟨W0, hW0⟩ : ∃ W0, W0 = w.drew.drew.alloc (.cells cs 5) := ⟨_, rfl⟩
  have hcall : (callFunc 35 #[.int .i64 (n : Int)]).run Tryd.prog w = .ok (.value (.slice (some ⟨w.heap.size, 0, none⟩) n cs.size)) W0 := by
    rw [run_callFunc_extern Tryd.func35 (by kernel_rfl) (by kernel_rfl) (by kernel_rfl) (e := Extern.BytealgMakeNoZero.makeNoZero #[3] #[22]) (by kernel_rfl), hrunM, hW0]
    rfl
  have k0 : Kept Nought w W0 := by rw [hW0]; exact (((Kept.refl Nought w).drew).drew).alloc _
  have hb0 : W0.heap[w.heap.size]? = some (.cells cs.toList.toArray 5 (0, 0)) := by
    rw [hW0]
    exact heap_alloc_new w.drew.drew _
  obtain ⟨C, hC⟩ : ∃ C, C = cs.size := ⟨_, rfl⟩
  have hCl : cs.toList.length = C := by rw [hC]; simp
  rw [← hC] at hcall hle
  obtain ⟨w2, hrun, hb2, k2⟩ := run_copy_part (P := Tryd.prog) (w := W0) 22 22 3 5 w.heap.size 0 n n (some ⟨w.heap.size, 0, none⟩) (some ⟨b, 0, none⟩) 1 1 _ 5 ([M].map fun z : Nat => Value.int .u8 (z : Int)) Tryd.underlying22 (by rw [hi0]; simp [hz1]) hb0 (by show 1 = min 1 n; omega) (fun _ => ⟨rfl, _, rfl, fun j u hj => by
      cases j with
      | zero =>
        rw [List.map_cons, List.getElem?_cons_zero] at hj
        cases hj
        exact k0.cellN hx
      | succ j => simp at hj⟩) (by rw [hCl]; simp; omega) (ones8 .u8 [M])
  have hF2 : FillB w2 w.heap.size M 1 C := ⟨cs.toList.drop 1, by rw [hb2]; rfl, by rw [List.length_drop, hCl]; omega⟩
  have HF2 := toHid hF2
  have HK2 := toHid (kept_new k0 k2 (Nat.le_refl _))
  obtain ⟨g, hg⟩ : ∃ g, g = w.heap.size := ⟨_, rfl⟩
  have hgs : w.heap.size ≤ g := by omega
  rw [← hg] at hrun hcall HF2
  have g0 : ¬ (n : Int) < 0 := by omega
  have g1 : IntKind.u64.wrap (n : Int) = (n : Int) := by rw [IntKind.wrap_u64]; omega
  have g2 : IntKind.i64.wrap (n : Int) = (n : Int) := by rw [IntKind.wrap_i64]; omega
  have g3 : ¬ (9223372036854775807 : Int) < (n : Int) := by omega
  have g4 : ¬ (8192 : Int) < (n : Int) := by omega
  have g5 : (n : Int) ≤ (C : Int) := by omega
  clear hx hrunM hW0 k0 hb0 hC hCl hb2 k2 hF2 hmx hg
  go_enter Tryd.func23, Tryd.ntmps23
  go_wp2_with fail
  refine hB.mono ?_
  rintro e w' ⟨rfl, rfl⟩
  clear hB
  go_wp2_with fail
  go_loopw [10] (fun kv wr => ∃ k : Nat, 0 < k ∧ k ≤ n ∧ kv = .int .i64 (k : Int) ∧ Hid (FillB wr g M k C) ∧ Hid (Kept Nought w' wr)) (fun kv _ => n - (intOf kv).toNat)
  case atStart => exact ⟨1, by omega, by omega, rfl, HF2.out, HK2.out⟩
  case round =>
    obtain ⟨k, hk0, hkn, rfl, HB, HK⟩ := hrel
    clear HF2 HK2 hcall hrun
    by_cases hk : k < n
    · have e1 : (k : Int) < (n : Int) := by omega
      have e2 : (0 : Int) ≤ (k : Int) := by omega
      have e3 : (k : Int) ≤ (n : Int) := by omega
      have e4 : min (k : Int) (n : Int) = (k : Int) := by omega
      have e5 : ¬ (n : Int) < (k : Int) := by omega
      obtain ⟨c, hc⟩ : ∃ c, c = min k (n - k) := ⟨_, rfl⟩
      have hB1 : FillB wr.drew g M k C := HB.out
      obtain ⟨w3, hrun, hB3, k3⟩ := hB1.copy n c k hle hkn hc (Nat.le_refl _) 3
      have HB3 := toHid hB3
      have HK3 : Hid (Kept Nought w' w3) := kept_new HK.out.drew k3 hgs
      have hc1 : Hid (0 < c ∧ k + c ≤ n) := ⟨by omega, by omega⟩
      have e6 : IntKind.i64.wrap ((k : Int) + (c : Int)) = (k : Int) + (c : Int) := by rw [IntKind.wrap_i64]; omega
      clear hB1 hB3 k3 hc HB HK
      go_wp2_with fail
      go_region
      go_wp2_with fail
      go_roundw
      case rel => exact ⟨k + c, by omega, hc1.out.2, by simp, HB3.out, HK3.out⟩
      case measure => have := hc1.out; simp [intOf]; omega
    · have e1 : ¬ (k : Int) < (n : Int) := by omega
      obtain rfl : k = n := by omega
      go_wp2_with fail
      go_ret
      exact ⟨g, rfl, HB.out.row (by unfold maxLen; omega), HK.out⟩

set_option maxRecDepth 20000 in
set_option maxHeartbeats 1000000 in
/-- bytes.Equal. -/
theorem sgEqual (u v : Value) (xs bs : List Nat) (w : World) (ha : Row .u8 w u xs) (hb : Row .u8 w v bs) (da : Digs 256 xs) (db : Digs 256 bs) :
    Calls Tryd.prog 18 #[u, v] w fun e w' => e = .returned (.bool (decide (xs = bs))) ∧ w' = w := by
  obtain ⟨ao, na, ca, rfl, _⟩ := ha.open
  obtain ⟨bo, nb, cb, rfl, _⟩ := hb.open
  have k1 := row_bstr ha 9 Tryd.underlying9
  have k2 := row_bstr hb 9 Tryd.underlying9
  have hd : decide (xs = bs) = ((bstr xs).toList == (bstr bs).toList) := by
    rw [Lib.toList_data, Lib.toList_data, bstr_data, bstr_data]
    by_cases h : xs = bs
    · rw [h]
      simp
    · rw [decide_eq_false h]
      symm
      exact beq_eq_false_iff_ne.2 fun e => h (bytes_inj da db e)
  rw [hd]
  generalize bstr xs = s at *
  generalize bstr bs = t at *
  clear ha hb hd
  go_enter Tryd.func18, Tryd.ntmps18
  go_wp2
  go_ret
  exact ⟨rfl, rfl⟩

end Go.Proofs.YthnkganmccgaeaaDoor


/- Package sign: block. -/
namespace Go.Proofs.YthnkganmccgaeaaDoor
open Go.RowKit

/-- Concat of the four rows that block lays. -/
theorem sgFour (w1 : World) (uo mo : Option Addr) (pn uc M mc : Nat) (ps ms : List Nat) (hU : Row .u8 w1 (.slice uo pn uc) ps) (hR : Row .u8 w1 (.slice mo M mc) ms) (hb : pn + M ≤ 100000) :
    Calls Tryd.prog 22 #[.slice (some ⟨w1.heap.size + 1 + 1, 0, none⟩) 4 4] (((w1.alloc (.cells #[.int .u8 0, .int .u8 1] 5)).alloc (.cells #[.int .u8 0] 5)).alloc (.cells #[.slice (some ⟨w1.heap.size, 0, none⟩) 2 2, .slice uo pn uc, .slice (some ⟨w1.heap.size + 1, 0, none⟩) 1 1, .slice mo M mc] 22)) fun e w' => ∃ v', e = .returned v' ∧ OwnB w' w1.heap.size v' ([0, 1] ++ ps ++ [0] ++ ms) ∧ Kept Nought w1 w' := by
  obtain ⟨w2, hw2⟩ : ∃ w2, w2 = w1.alloc (.cells #[.int .u8 0, .int .u8 1] 5) := ⟨_, rfl⟩
  obtain ⟨w3, hw3⟩ : ∃ w3, w3 = w2.alloc (.cells #[.int .u8 0] 5) := ⟨_, rfl⟩
  have hs2 : w2.heap.size = w1.heap.size + 1 := by rw [hw2, World.size_alloc]
  have hs3 : w3.heap.size = w1.heap.size + 1 + 1 := by rw [hw3, World.size_alloc, hs2]
  obtain ⟨w4, hw4⟩ : ∃ w4, w4 = w3.alloc (.cells #[.slice (some ⟨w1.heap.size, 0, none⟩) 2 2, .slice uo pn uc, .slice (some ⟨w2.heap.size, 0, none⟩) 1 1, .slice mo M mc] 22) := ⟨_, rfl⟩
  have k12 : Kept Nought w1 w2 := by rw [hw2]; exact (Kept.refl _ _).alloc _
  have k23 : Kept Nought w2 w3 := by rw [hw3]; exact (Kept.refl _ _).alloc _
  have k34 : Kept Nought w3 w4 := by rw [hw4]; exact (Kept.refl _ _).alloc _
  rw [← hs3, ← hs2, ← hw2, ← hw3, ← hw4]
  have o2 : Row .u8 w4 (.slice (some ⟨w1.heap.size, 0, none⟩) 2 2) [0, 1] := by
    refine Row.grew ?_ (k23.trans k34)
    rw [hw2]
    exact (own_lit8 w1 [0, 1] _ rfl 2 rfl (by omega) (by omega)).row
  have o3 : Row .u8 w4 (.slice (some ⟨w2.heap.size, 0, none⟩) 1 1) [0] := by
    refine Row.grew ?_ k34
    rw [hw3]
    exact (own_lit8 w2 [0] _ rfl 1 rfl (by omega) (by omega)).row
  have hU4 := hU.grew ((k12.trans k23).trans k34)
  have hR4 := hR.grew ((k12.trans k23).trans k34)
  have hb4 : w4.heap[w3.heap.size]? = some (.cells #[.slice (some ⟨w1.heap.size, 0, none⟩) 2 2, .slice uo pn uc, .slice (some ⟨w2.heap.size, 0, none⟩) 1 1, .slice mo M mc] 22 (0, 0)) := by
    rw [hw4]
    exact heap_alloc_new _ _
  obtain ⟨A, hA⟩ : ∃ A : Nat → Option Addr, ∀ i, A i = if i = 0 then some ⟨w1.heap.size, 0, none⟩ else if i = 1 then uo else if i = 2 then some ⟨w2.heap.size, 0, none⟩ else mo := ⟨_, fun _ => rfl⟩
  obtain ⟨L, hL⟩ : ∃ A : Nat → Nat, ∀ i, A i = if i = 0 then 2 else if i = 1 then pn else if i = 2 then 1 else M := ⟨_, fun _ => rfl⟩
  obtain ⟨C, hC⟩ : ∃ A : Nat → Nat, ∀ i, A i = if i = 0 then 2 else if i = 1 then uc else if i = 2 then 1 else mc := ⟨_, fun _ => rfl⟩
  obtain ⟨Z, hZ⟩ : ∃ A : Nat → List Nat, ∀ i, A i = if i = 0 then [0, 1] else if i = 1 then ps else if i = 2 then [0] else ms := ⟨_, fun _ => rfl⟩
  have hsum : sumT L 4 = 3 + pn + M := by
    simp only [sumT, hL]
    simp
    omega
  have hcat : catT Z 4 = [0, 1] ++ ps ++ [0] ++ ms := by
    simp only [catT, hZ]
    simp
  rw [← hcat]
  have k14 := (k12.trans k23).trans k34
  clear hw2 hw3 hw4 k12 k23 k34 hU hR
  refine Calls.mono (sConcatN w3.heap.size 0 4 A L C Z w4 (by omega) (fun i hi => ?_) (fun i hi => ?_) (by rw [hsum]; omega) (by rw [hsum]; omega)) ?_
  · have h4 : i = 0 ∨ i = 1 ∨ i = 2 ∨ i = 3 := by omega
    rcases h4 with rfl | rfl | rfl | rfl <;> rw [hA, hL, hC]
    · exact (cell_of_row _ _ 0 _ _ _ hb4).trans rfl
    · exact (cell_of_row _ _ 1 _ _ _ hb4).trans rfl
    · exact (cell_of_row _ _ 2 _ _ _ hb4).trans rfl
    · exact (cell_of_row _ _ 3 _ _ _ hb4).trans rfl
  · have h4 : i = 0 ∨ i = 1 ∨ i = 2 ∨ i = 3 := by omega
    rcases h4 with rfl | rfl | rfl | rfl <;> rw [hA, hL, hC, hZ]
    · exact o2
    · exact hU4
    · exact o3
    · exact hR4
  · rintro e w' ⟨v', rfl, ho, k⟩
    exact ⟨v', rfl, ho.base k14.size, k14.trans k⟩

set_option maxRecDepth 20000 in
set_option maxHeartbeats 2000000 in
/-- block, of two parts. -/
theorem sgBlock (k : Int) (lb n P1 P2 : Nat) (a1 a2 : Option Addr) (c1 c2 : Nat) (ps qs : List Nat) (w : World) (hc0 : w.cell? ⟨lb, 0, none⟩ = some (.slice a1 P1 c1)) (hc1 : w.cell? ⟨lb, 1, none⟩ = some (.slice a2 P2 c2)) (hp : Row .u8 w (.slice a1 P1 c1) ps) (hq : Row .u8 w (.slice a2 P2 c2) qs) (h0 : 0 < P1 + P2) (hl : P1 + P2 ≤ 10000) (hk : k = (n : Int) + 3 + (P1 : Int) + (P2 : Int)) (hn0 : 0 < n) (hn : n ≤ 2000) :
    Calls Tryd.prog 15 #[.int .i64 k, .slice (some ⟨lb, 0, none⟩) 2 2] w fun e w' => ∃ v', e = .returned v' ∧ OwnB w' w.heap.size v' ([0, 1] ++ List.replicate n 255 ++ [0] ++ (ps ++ qs)) ∧ Kept Nought w w' := by
  have J1 := sConcat lb P1 P2 a1 a2 c1 c2 ps qs w hc0 hc1 hp hq h0 (by omega)
  have HL1 : Hid ((ps ++ qs).length = P1 + P2) := by
    obtain ⟨_, _, _, e1, x1, _⟩ := hp.open
    cases e1
    obtain ⟨_, _, _, e1, x2, _⟩ := hq.open
    cases e1
    have := x1.out
    have := x2.out
    unfold Hid
    rw [List.length_append]
    omega
  clear hc0 hc1 hp hq
  generalize ps ++ qs = ts at *
  obtain ⟨out, hout⟩ : ∃ out, out = [0, 1] ++ List.replicate n 255 ++ [0] ++ ts := ⟨_, rfl⟩
  rw [← hout]
  have HOut := toHid hout
  have HKK := toHid hk
  have hkb : k ≤ 20000 := by omega
  have hkc : 0 ≤ k := by omega
  clear hk hout
  go_enter Tryd.func15, Tryd.ntmps15
  go_wp2_with fail
  refine J1.mono ?_
  rintro e w1 ⟨v1, rfl, o1, k1⟩
  have HK1 := toHid k1
  have HR1 := toHid o1.row
  obtain ⟨uo, un, uc, rfl, hun, -, -, -, -⟩ := o1.row.open
  have hun2 : un = P1 + P2 := by rw [← hun.out, HL1.out]
  have g1 : k - 2 - 1 - (un : Int) = (n : Int) := by have := HKK.out; omega
  have hb1 : (w1.alloc (.cells #[.int .u8 255] 5)).heap[w1.heap.size]? = some (.cells #[.int .u8 255] 5 (0, 0)) := heap_alloc_new w1 _
  have hc1 : (w1.alloc (.cells #[.int .u8 255] 5)).cell? ⟨w1.heap.size, 0, none⟩ = some (.int .u8 ((255 : Nat) : Int)) := (cell_of_row _ _ 0 _ _ _ hb1).trans rfl
  have JR := sgRepeat w1.heap.size 255 n (w1.alloc (.cells #[.int .u8 255] 5)) hc1 hn0 hn
  have hka : Kept Nought w1 (w1.alloc (.cells #[.int .u8 255] 5)) := (Kept.refl Nought w1).alloc _
  have HKA := toHid hka
  have hunb : un ≤ 10000 := by omega
  clear J1 o1 k1 hka hun hun2 hb1 hc1
  go_wp2_with fail
  refine JR.mono ?_
  rintro e w2 ⟨g, rfl, r2, k2⟩
  have HK2 := toHid (HK1.out.trans (HKA.out.trans k2))
  have JF := sgFour w2 (some ⟨g, 0, none⟩) uo n n un uc (List.replicate n 255) ts r2 ((HR1.out.grew HKA.out).grew k2) (by omega)
  clear JR r2 k2 HKA HR1
  rw [← HOut.out] at JF
  go_wp2_with fail
  refine JF.mono ?_
  rintro e w3 ⟨v3, rfl, o3, k3⟩
  have HO3 := toHid (o3.base HK2.out.size)
  have HK3 := toHid (HK2.out.trans k3)
  clear JF o3 k3
  go_wp2_with fail
  go_ret
  exact ⟨v3, rfl, HO3.out, HK3.out⟩

end Go.Proofs.YthnkganmccgaeaaDoor


/- The plain side of layers 13 and 14 (package sconceref13): bytes as texts, Same, Size, Name, Prefix, Sum. -/
namespace Go.Proofs.YthnkganmccgaeaaDoor
open Go.RowKit

/-- How many bytes a hash has. -/
def hszN (h : Int) : Nat := if h = 1 then 32 else if h = 2 then 48 else if h = 3 then 64 else 0

theorem hsz_cases (h : Int) : (h = 1 ∧ hszN h = 32) ∨ (h = 2 ∧ hszN h = 48) ∨ (h = 3 ∧ hszN h = 64) ∨ (h ≠ 1 ∧ h ≠ 2 ∧ h ≠ 3 ∧ hszN h = 0) := by
  unfold hszN
  by_cases h1 : h = 1
  · exact .inl ⟨h1, by rw [if_pos h1]⟩
  · by_cases h2 : h = 2
    · exact .inr (.inl ⟨h2, by rw [if_neg h1, if_pos h2]⟩)
    · by_cases h3 : h = 3
      · exact .inr (.inr (.inl ⟨h3, by rw [if_neg h1, if_neg h2, if_pos h3]⟩))
      · exact .inr (.inr (.inr ⟨h1, h2, h3, by rw [if_neg h1, if_neg h2, if_neg h3]⟩))

set_option maxRecDepth 20000 in
set_option maxHeartbeats 1000000 in
/-- Size. -/
theorem r13Size (h : Int) (w : World) :
    Calls Tryd.prog 26 #[.int .i64 h] w fun e w' => e = .returned (.int .i64 (hszN h : Nat)) ∧ Kept Nought w w' := by
  rcases hsz_cases h with ⟨rfl, e⟩ | ⟨rfl, e⟩ | ⟨rfl, e⟩ | ⟨h1, h2, h3, e⟩
  all_goals
    rw [e]
    clear e
    go_enter Tryd.func26, Tryd.ntmps26
    go_wp2_with fail
    go_ret
    exact ⟨rfl, by first | exact Kept.refl _ _ | exact (Kept.refl _ _).drew⟩

/-- The bytes of a hash; none of what is none. -/
def hshN (h : Int) (bs : List Nat) : List Nat := if h = 1 then sumN bs else if h = 2 then sumM true bs else if h = 3 then sumM false bs else []

/-- Its error. -/
def hshE (h : Int) : Nat := if h = 1 ∨ h = 2 ∨ h = 3 then 0 else 130

theorem r11SumR (v : Value) (bs : List Nat) (w : World) (hb : Row .u8 w v bs) (hbd : Digs 256 bs) (hl : bs.length ≤ 1000000) :
    Calls Tryd.prog 24 #[v] w fun e w' => ∃ v', e = .returned v' ∧ OwnB w' w.heap.size v' (sumN bs) ∧ Kept Nought w w' := by
  obtain ⟨ao, n, cap, rfl, hL, hc, _, hn, hnum⟩ := hb.open
  cases ao with
  | none =>
    obtain rfl := hn rfl
    obtain rfl : n = 0 := by omega
    obtain rfl : bs = [] := List.length_eq_zero_iff.1 hL.out
    exact r11Sum0 w
  | some ad => exact r11Sum ad n cap bs w hb hbd (by have := hL.out; omega)

theorem r12SumR (short : Bool) (v : Value) (bs : List Nat) (w : World) (hb : Row .u8 w v bs) (hbd : Digs 256 bs) (hl : bs.length ≤ 1000000) :
    Calls Tryd.prog 25 #[v, .bool short] w fun e w' => ∃ v', e = .returned v' ∧ OwnB w' w.heap.size v' (sumM short bs) ∧ Kept Nought w w' := by
  obtain ⟨ao, n, cap, rfl, hL, hc, _, hn, hnum⟩ := hb.open
  cases ao with
  | none =>
    obtain rfl := hn rfl
    obtain rfl : n = 0 := by omega
    obtain rfl : bs = [] := List.length_eq_zero_iff.1 hL.out
    exact r12Sum0 short w
  | some ad => exact r12Sum short ad n cap bs w hb hbd (by have := hL.out; omega)

set_option maxRecDepth 20000 in
set_option maxHeartbeats 1000000 in
/-- Sum. -/
theorem r13Sum (h : Int) (v : Value) (bs : List Nat) (w : World) (hb : Row .u8 w v bs) (hbd : Digs 256 bs) (hl : bs.length ≤ 1000000) :
    Calls Tryd.prog 16 #[.int .i64 h, v] w fun e w' => ∃ v', e = .returned (.tuple #[v', .int .i64 (hshE h : Nat)]) ∧ OwnB w' w.heap.size v' (hshN h bs) ∧ Kept Nought w w' := by
  by_cases h1 : h = 1
  · subst h1
    have J := fun W (k : Kept Nought w W) => r11SumR v bs W (hb.grew k) hbd hl
    clear hb
    go_enter Tryd.func16, Tryd.ntmps16
    go_wp2_with fail
    refine (J _ (by first | exact Kept.refl _ _ | exact (Kept.refl _ _).drew)).mono ?_
    rintro e w1 ⟨v1, rfl, hr1, k1⟩
    clear J
    go_wp2_with fail
    exact bodyPost_ret (v := .tuple #[v1, .int .i64 0]) (by simp [results, Tryd.results16, go_sem]) rfl ⟨v1, rfl, hr1, k1⟩
  · by_cases h2 : h = 2
    · subst h2
      have J := fun W (k : Kept Nought w W) => r12SumR true v bs W (hb.grew k) hbd hl
      clear hb
      go_enter Tryd.func16, Tryd.ntmps16
      go_wp2_with fail
      refine (J _ (by first | exact Kept.refl _ _ | exact (Kept.refl _ _).drew)).mono ?_
      rintro e w1 ⟨v1, rfl, hr1, k1⟩
      clear J
      go_wp2_with fail
      exact bodyPost_ret (v := .tuple #[v1, .int .i64 0]) (by simp [results, Tryd.results16, go_sem]) rfl ⟨v1, rfl, hr1, k1⟩
    · by_cases h3 : h = 3
      · subst h3
        have J := fun W (k : Kept Nought w W) => r12SumR false v bs W (hb.grew k) hbd hl
        clear hb
        go_enter Tryd.func16, Tryd.ntmps16
        go_wp2_with fail
        refine (J _ (by first | exact Kept.refl _ _ | exact (Kept.refl _ _).drew)).mono ?_
        rintro e w1 ⟨v1, rfl, hr1, k1⟩
        clear J
        go_wp2_with fail
        exact bodyPost_ret (v := .tuple #[v1, .int .i64 0]) (by simp [results, Tryd.results16, go_sem]) rfl ⟨v1, rfl, hr1, k1⟩
      · have e1 : hshE h = 130 := by unfold hshE; rw [if_neg]; rintro (h | h | h) <;> contradiction
        have e2 : hshN h bs = [] := by unfold hshN; rw [if_neg h1, if_neg h2, if_neg h3]
        rw [e1, e2]
        clear e1 e2 hb
        go_enter Tryd.func16, Tryd.ntmps16
        go_wp2_with fail
        exact bodyPost_ret (v := .tuple #[.slice none 0 0, .int .i64 130]) (by simp [results, Tryd.results16, go_sem]) rfl ⟨.slice none 0 0, rfl, OwnB.nil _ _, by first | exact Kept.refl _ _ | exact (Kept.refl _ _).drew⟩

end Go.Proofs.YthnkganmccgaeaaDoor


/- The plain side of layers 13 and 14: how long hashes are; append of bytes that come in; Prefix, Xor. -/
namespace Go.Proofs.YthnkganmccgaeaaDoor
open Go.RowKit

theorem outN_len (s : List Nat) : ∀ k, (outN s k).length = 4 * k
  | 0 => rfl
  | k + 1 => by unfold outN b4N; rw [List.length_append, outN_len s k]; simp; omega

theorem outN_digs (s : List Nat) : ∀ k, Digs 256 (outN s k)
  | 0 => Digs.nil _
  | k + 1 => by
    unfold outN b4N
    refine (outN_digs s k).app fun d hd => ?_
    simp only [List.mem_cons, List.not_mem_nil, or_false] at hd
    omega

theorem outM_digs (s : List Nat) : ∀ k, Digs 256 (outM s k)
  | 0 => Digs.nil _
  | k + 1 => by
    unfold outM b8M
    refine (outM_digs s k).app fun d hd => ?_
    obtain ⟨i, _, rfl⟩ := List.mem_map.1 hd
    exact Nat.mod_lt _ (by omega)

theorem hshN_length (h : Int) (bs : List Nat) : (hshN h bs).length = hszN h := by
  unfold hshN hszN
  split
  · exact outN_len _ 8
  · split
    · show ((sum64M true bs).take 48).length = 48
      unfold sum64M
      rw [List.length_take, outM_length]
      rfl
    · split
      · exact outM_length _ 8
      · rfl

theorem hshN_digs (h : Int) (bs : List Nat) : Digs 256 (hshN h bs) := by
  unfold hshN
  split
  · exact outN_digs _ 8
  · split
    · exact fun d hd => outM_digs _ 8 d (List.mem_of_mem_take hd)
    · split
      · exact outM_digs _ 8
      · exact Digs.nil _

end Go.Proofs.YthnkganmccgaeaaDoor


/- The plain side of layers 13 and 14: Prefix, Mask. -/
namespace Go.Proofs.YthnkganmccgaeaaDoor
open Go.RowKit

/-- What stands ahead of a hash in a signature. -/
def preN (h : Int) : List Nat := if hszN h = 0 then [] else [48, 17 + hszN h, 48, 13, 6, 9, 96, 134, 72, 1, 101, 3, 4, 2, h.toNat, 5, 0, 4, hszN h]

theorem preN_digs (h : Int) : Digs 256 (preN h) := by
  unfold preN
  rcases hsz_cases h with ⟨rfl, e⟩ | ⟨rfl, e⟩ | ⟨rfl, e⟩ | ⟨h1, h2, h3, e⟩
  case inr.inr.inr =>
    rw [e]
    exact Digs.nil _
  all_goals
    rw [e]
    unfold Digs
    decide

set_option maxRecDepth 20000 in
set_option maxHeartbeats 1000000 in
/-- Prefix. -/
theorem r13Prefix (h : Int) (w : World) :
    Calls Tryd.prog 17 #[.int .i64 h] w fun e w' => ∃ v', e = .returned v' ∧ OwnB w' w.heap.size v' (preN h) ∧ Kept Nought w w' := by
  have J := fun W => r13Size h W
  rcases hsz_cases h with ⟨rfl, e⟩ | ⟨rfl, e⟩ | ⟨rfl, e⟩ | ⟨h1, h2, h3, e⟩
  case inr.inr.inr =>
    have hp : preN h = [] := by unfold preN; rw [e]; rfl
    rw [e] at J
    rw [hp]
    clear e hp
    go_enter Tryd.func17, Tryd.ntmps17
    go_wp2_with fail
    refine (J _).mono ?_
    rintro e w1 ⟨rfl, k1⟩
    clear J
    go_wp2_with fail
    go_ret
    exact ⟨_, rfl, OwnB.nil _ _, k1⟩
  all_goals
    rw [e] at J
    clear e
    go_enter Tryd.func17, Tryd.ntmps17
    go_wp2_with fail
    refine (J _).mono ?_
    rintro e w1 ⟨rfl, k1⟩
    clear J
    go_wp2_with fail
    go_ret
    exact ⟨_, rfl, OwnB.of (n := 19) (own_of_block (k := .u8) (zs := preN _) (heap_alloc_new w1 _) rfl (by unfold maxLen; decide) k1.size), k1.alloc _⟩

/-- A mask's error. -/
def mskE (h n : Int) : Nat := if hszN h = 0 then 130 else if n < 0 then 1 else if n > 10000 then 2 else 0

theorem hsz_le (h : Int) : hszN h ≤ 64 := by
  rcases hsz_cases h with ⟨_, e⟩ | ⟨_, e⟩ | ⟨_, e⟩ | ⟨_, _, _, e⟩ <;> omega

end Go.Proofs.YthnkganmccgaeaaDoor


/- Layer 13 (hash): the names' table, Size, Name, Of, Prefix; the laws' first test. -/
namespace Go.Proofs.YthnkganmccgaeaaDoor
open Go.RowKit

set_option maxRecDepth 20000 in
set_option maxHeartbeats 1000000 in
/-- Size. -/
theorem z13Size (h : Int) (w : World) :
    Calls Tryd.prog 13 #[.int .i64 h] w fun e w' => e = .returned (.int .i64 (hszN h : Nat)) ∧ Kept Nought w w' := by
  rcases hsz_cases h with ⟨rfl, e⟩ | ⟨rfl, e⟩ | ⟨rfl, e⟩ | ⟨h1, h2, h3, e⟩
  all_goals
    rw [e]
    clear e
    go_enter Tryd.func13, Tryd.ntmps13
    go_wp2_with fail
    go_ret
    exact ⟨rfl, by first | exact Kept.refl _ _ | exact (Kept.refl _ _).drew⟩

set_option maxRecDepth 20000 in
set_option maxHeartbeats 1000000 in
/-- Prefix. -/
theorem z13Prefix (h : Int) (w : World) :
    Calls Tryd.prog 12 #[.int .i64 h] w fun e w' => ∃ v', e = .returned v' ∧ OwnB w' w.heap.size v' (preN h) ∧ Kept Nought w w' := by
  have J := fun W => z13Size h W
  rcases hsz_cases h with ⟨rfl, e⟩ | ⟨rfl, e⟩ | ⟨rfl, e⟩ | ⟨h1, h2, h3, e⟩
  case inr.inr.inr =>
    have hp : preN h = [] := by unfold preN; rw [e]; rfl
    rw [e] at J
    rw [hp]
    clear e hp
    go_enter Tryd.func12, Tryd.ntmps12
    go_wp2_with fail
    refine (J _).mono ?_
    rintro e w1 ⟨rfl, k1⟩
    clear J
    go_wp2_with fail
    go_ret
    exact ⟨_, rfl, OwnB.nil _ _, k1⟩
  all_goals
    rw [e] at J
    clear e
    go_enter Tryd.func12, Tryd.ntmps12
    go_wp2_with fail
    refine (J _).mono ?_
    rintro e w1 ⟨rfl, k1⟩
    clear J
    go_wp2_with fail
    go_ret
    exact ⟨_, rfl, OwnB.of (n := 19) (own_of_block (k := .u8) (zs := preN _) (heap_alloc_new w1 _) rfl (by unfold maxLen; decide) k1.size), k1.alloc _⟩

end Go.Proofs.YthnkganmccgaeaaDoor


/- Layer 13 (hash): Sum; its tables. -/
namespace Go.Proofs.YthnkganmccgaeaaDoor
open Go.RowKit

/-- The tables of both hashes. -/
structure TabH (w : World) : Prop where
  t11 : Tab11 w
  t12 : Tab12 w

theorem TabH.grew {w w' : World} (h : TabH w) (k : Kept Nought w w') : TabH w' := ⟨h.t11.grew k, h.t12.grew k⟩

set_option maxRecDepth 20000 in
set_option maxHeartbeats 1000000 in
/-- Sum. -/
theorem z13Sum (h : Int) (v : Value) (bs : List Nat) (w : World) (hT : TabH w) (hb : Row .u8 w v bs) (hbd : Digs 256 bs) (hl : bs.length ≤ 1000000) :
    Calls Tryd.prog 14 #[.int .i64 h, v] w fun e w' => ∃ v', e = .returned (.tuple #[v', .int .i64 (hshE h : Nat)]) ∧ Row .u8 w' v' (hshN h bs) ∧ (∀ b, v'.ownBlock = some b → w.heap.size ≤ b) ∧ Kept Nought w w' := by
  by_cases h1 : h = 1
  · subst h1
    have J := fun W (k : Kept Nought w W) => hSum v bs W (hT.t11.grew k) (hb.grew k) hbd hl
    clear hb hT
    go_enter Tryd.func14, Tryd.ntmps14
    go_wp2_with fail
    refine (J _ (by first | exact Kept.refl _ _ | exact (Kept.refl _ _).drew)).mono ?_
    rintro e w1 ⟨v1, rfl, hr1, hf1, k1⟩
    clear J
    go_wp2_with fail
    exact bodyPost_ret (v := .tuple #[v1, .int .i64 0]) (by simp [results, Tryd.results14, go_sem]) rfl ⟨v1, rfl, hr1, hf1, k1⟩
  · by_cases h2 : h = 2
    · subst h2
      have J := fun W (k : Kept Nought w W) => mSum384 v bs W (hT.t12.grew k) (hb.grew k) hbd hl
      clear hb hT
      go_enter Tryd.func14, Tryd.ntmps14
      go_wp2_with fail
      refine (J _ (by first | exact Kept.refl _ _ | exact (Kept.refl _ _).drew)).mono ?_
      rintro e w1 ⟨v1, rfl, hr1, k1⟩
      clear J
      go_wp2_with fail
      exact bodyPost_ret (v := .tuple #[v1, .int .i64 0]) (by simp [results, Tryd.results14, go_sem]) rfl ⟨v1, rfl, hr1.row, fun b hb => (hr1.lt b hb).1, k1⟩
    · by_cases h3 : h = 3
      · subst h3
        have J := fun W (k : Kept Nought w W) => mSum v bs W (hT.t12.grew k) (hb.grew k) hbd hl
        clear hb hT
        go_enter Tryd.func14, Tryd.ntmps14
        go_wp2_with fail
        refine (J _ (by first | exact Kept.refl _ _ | exact (Kept.refl _ _).drew)).mono ?_
        rintro e w1 ⟨v1, rfl, hr1, k1⟩
        clear J
        go_wp2_with fail
        exact bodyPost_ret (v := .tuple #[v1, .int .i64 0]) (by simp [results, Tryd.results14, go_sem]) rfl ⟨v1, rfl, hr1.row, fun b hb => (hr1.lt b hb).1, k1⟩
      · have e1 : hshE h = 130 := by unfold hshE; rw [if_neg]; rintro (h | h | h) <;> contradiction
        have e2 : hshN h bs = [] := by unfold hshN; rw [if_neg h1, if_neg h2, if_neg h3]
        rw [e1, e2]
        clear e1 e2 hb hT
        go_enter Tryd.func14, Tryd.ntmps14
        go_wp2_with fail
        exact bodyPost_ret (v := .tuple #[.slice none 0 0, .int .i64 130]) (by simp [results, Tryd.results14, go_sem]) rfl ⟨.slice none 0 0, rfl, (OwnB.nil _ w.heap.size).row, (fun b hb => by cases hb), by first | exact Kept.refl _ _ | exact (Kept.refl _ _).drew⟩

end Go.Proofs.YthnkganmccgaeaaDoor

