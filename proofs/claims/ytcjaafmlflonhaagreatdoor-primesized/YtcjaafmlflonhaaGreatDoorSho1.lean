/- Package short: the bits of a number, the highest ahead, as a range over a function hands them out (bitsOf). -/
import Derived.Test.YtcjaafmlflonhaaGreatDoorSeq1
import Derived.Test.YtcjaafmlflonhaaGreatDoorNatB
namespace Go.Proofs.YtcjaafmlflonhaaGreatDoor
open Go.RowKit Go.Shelf

attribute [local go_sem] Oper.semAt_some

theorem bits_le {ys : List Nat} {L : Nat} (hd : Digs 18446744073709551616 ys) (hL : ys.length = L) : blen (val 18446744073709551616 ys) ≤ 64 * L := by
  rw [blen_le]
  have := val_lt (B := 18446744073709551616) (by omega) hd
  rw [hL, show (18446744073709551616 : Nat) = 2 ^ 64 from rfl, ← Nat.pow_mul] at this
  exact this

/-- What bits come to. -/
def bndN (l : List Nat) : Nat := l.foldl (fun a d => 2 * a + d) 0

theorem bndN_snoc (l : List Nat) (d : Nat) : bndN (l ++ [d]) = 2 * bndN l + d := by simp [bndN]

theorem bnd_upto {E N : Nat} (hE : E < 2 ^ N) : ∀ j, j ≤ N → bndN ((List.range j).map fun i => E / 2 ^ (N - 1 - i) % 2) = E / 2 ^ (N - j)
  | 0, _ => by
    rw [List.range_zero, List.map_nil, Nat.sub_zero, Nat.div_eq_of_lt hE]
    rfl
  | j + 1, hj => by
    rw [List.range_succ, List.map_append, List.map_cons, List.map_nil, bndN_snoc, bnd_upto hE j (by omega)]
    have e : N - j = (N - 1 - j) + 1 := by omega
    rw [e, Nat.pow_succ, ← Nat.div_div_eq_div_mul, show N - (j + 1) = N - 1 - j by omega]
    omega

theorem bnd_all {E N : Nat} (hE : blen E = N) : bndN ((List.range N).map fun i => E / 2 ^ (N - 1 - i) % 2) = E := by
  have h := bnd_upto ((blen_le E N).1 (Nat.le_of_eq hE)) N (Nat.le_refl _)
  rw [Nat.sub_self, Nat.pow_zero, Nat.div_one] at h
  exact h

set_option maxRecDepth 100000 in
set_option maxHeartbeats 2000000 in
/-- bitsOf's closure. -/
theorem sho1 (n : Nat) (hn : 1 ≤ n) (l Bs L N : Nat) (g : Nat → Nat) (v : Value) (ys : List Nat) (hd : Digs 18446744073709551616 ys) (hL : Hid (ys.length = L)) (hN : Hid (blen (val 18446744073709551616 ys) = N)) (hb : L ≤ 1000000) (hg : Hid (∀ j, val 18446744073709551616 ys / 2 ^ (N - 1 - j) % 2 = g j)) (S : Nat → Prop) (hS : S Bs) (hSv : ∀ b, v.ownBlock = some b → 0 < L → S b)
    (J Jx : List (Fin N) → World → Prop)
    (hY : ∀ pre (x : Fin N) W, J pre W → pre.length < N → YieldAt Fence.wide (n - 1) Tryz.prog l #[.int .u64 (g x.val : Nat)] W fun e W' =>
      (e = .returned (.bool true) ∧ J (pre ++ [x]) W' ∧ KeepB S W W') ∨ (e = .returned (.bool false) ∧ Jx (pre ++ [x]) W'))
    (W : World) (hBs : W.cell? ⟨Bs, 0, none⟩ = some v) (hr : Row .u64 W v ys) (h0 : J [] W) :
    CallsIn Fence.wide n Tryz.prog 182 #[.func (.yield l) #[] #[], .pointer (some ⟨Bs, 0, none⟩)] W fun e W' => (∃ v, e = .returned v) ∧
      ((∃ zs, zs.map Fin.val = List.range N ∧ J zs W') ∨ (∃ pre, True ∧ Jx pre W')) := by
  obtain ⟨ao, m, cap, rfl, hlen, c1, c2, c3, hnum⟩ := hr.open
  obtain rfl : m = L := by rw [← hlen.out]; exact hL.out
  have HNb : Hid (N ≤ 64000000) := by have := bits_le hd hL.out; have := hN.out; unfold Hid; omega
  have hBits := nBits _ ys W hr hd (by have := hL.out; omega)
  rw [hN.out] at hBits
  have HBIT : Hid (∀ (i j : Nat) (W' : World), KeepB S W W' → i = N - 1 - j → i ≤ 64000000 → Calls Tryz.prog 106 #[.slice ao m cap, .int .i64 (i : Int)] W' fun r w' => r = .returned (.int .u64 (g j : Nat)) ∧ w' = W') := fun i j W' k hi hb => by
    have := nBit _ ys (i : Int) W' (k.row (fun b hb hp => hSv b hb (by have := hL.out; omega)) hr) hd (by omega)
    rw [bitN_nat, hi, hg.out] at this
    rw [hi]
    exact this
  clear hnum hr hL hlen hd hN hg
  refine callsIn_of_wp Tryz.func182 rfl trivial ?_ rfl
  simp only [Tryz.ntmps182, List.size_toArray, List.length_cons, List.length_nil, Nat.reduceAdd, Nat.reduceSub, Array.replicate_succ, Array.replicate_zero, List.push_toArray, List.append_toArray, List.nil_append, List.cons_append]
  gi_wp2_with fail
  refine ⟨trivial, ?_⟩
  refine (callsIn_wide.2 hBits).mono ?_
  rintro e w' ⟨rfl, rfl⟩
  have gN : IntKind.i64.wrap ((N : Int) - 1) = (N : Int) - 1 := by rw [IntKind.wrap_i64]; have := HNb.out; omega
  clear hBits
  gi_wp2_with fail
  gi_loopw [3] (fun i wr => ∃ (k : Nat) (I : Int), k ≤ N ∧ i = .int .i64 I ∧ Hid (I = (N : Int) - 1 - (k : Int)) ∧ (∃ pre : List (Fin N), Hid (pre.map Fin.val = List.range k) ∧ J pre wr) ∧ KeepB S w' wr)
    (fun i _ => (intOf i + 1).toNat)
  case atStart => exact ⟨0, _, Nat.zero_le _, rfl, by unfold Hid; omega, ⟨[], by simp [Hid], h0⟩, KeepB.refl _ _⟩
  case round =>
    obtain ⟨k, I, hk, rfl, HI, ⟨pre, hpre, hJs⟩, hkp⟩ := hrel
    by_cases hkm : k < N
    · obtain ⟨i, hi⟩ : ∃ i : Nat, i = N - 1 - k := ⟨_, rfl⟩
      obtain rfl : I = (i : Int) := by have := HI.out; omega
      have gi0 : (0 : Int) ≤ (i : Int) := by omega
      have gi1 : IntKind.i64.wrap ((i : Int) - 1) = (i : Int) - 1 := by rw [IntKind.wrap_i64]; have := HNb.out; omega
      have hbox := (hkp.cell (p := ⟨Bs, 0, none⟩) hS).trans hBs
      have hBit := HBIT.out i k wr hkp hi (by have := HNb.out; omega)
      have hlen2 : pre.length < N := by
        have := congrArg List.length hpre.out
        rw [List.length_map, List.length_range] at this
        omega
      obtain ⟨fn, tmps, assign, body, hy, hR⟩ := hY pre ⟨k, hkm⟩ wr hJs hlen2
      dsimp only at hy
      have HI2 := toHid hi
      clear hi
      gi_wp2_with fail
      refine ⟨trivial, ?_⟩
      refine (callsIn_wide.2 hBit).mono ?_
      rintro e w2 ⟨rfl, rfl⟩
      clear hBit
      gi_wp2_with fail
      refine hR.mono ?_
      rintro e W3 (⟨rfl, hJ3, hk3⟩ | ⟨rfl, hJx3⟩)
      · gi_wp2_with fail
        go_roundw
        case rel => exact ⟨k + 1, (i : Int) - 1, hkm, by first | rfl | (rw [gi1]), by have := HI.out; unfold Hid; omega, ⟨pre ++ [⟨k, hkm⟩], by unfold Hid; rw [List.map_append, hpre.out, List.range_succ]; rfl, hJ3⟩, hkp.trans hk3⟩
        case measure => simp [intOf]
      · gi_wp2_with fail
        refine bodyPost_ret (results_none rfl _ _ _) rfl ?_
        exact ⟨⟨_, rfl⟩, .inr ⟨_, trivial, hJx3⟩⟩
    · obtain rfl : k = N := by omega
      obtain rfl : I = -1 := by have := HI.out; omega
      gi_wp2_with fail
      go_end0
      exact ⟨⟨_, rfl⟩, .inl ⟨pre, hpre.out, hJs⟩⟩

/-- bitsOf: the slice is boxed; the function value holds the box. -/
theorem shoBox (ao : Option Addr) (len cap : Nat) (w : World) :
    Calls Tryz.prog 166 #[.slice ao len cap] w fun e w' => e = .returned (.func (.func 182) #[] #[.pointer (some ⟨w.heap.size, 0, none⟩)]) ∧ w' = w.alloc (.cells #[.slice ao len cap] 31) := by
  go_enter Tryz.func166, Tryz.ntmps166
  go_wp2
  go_ret
  exact ⟨rfl, rfl⟩

/-- bitsOf's value, as a range over it wants it. -/
theorem shoStops (n : Nat) (hn : 1 ≤ n) (Bs L N : Nat) (g : Nat → Nat) (v : Value) (ys : List Nat) (hd : Digs 18446744073709551616 ys) (hL : ys.length = L) (hN : blen (val 18446744073709551616 ys) = N) (hb : L ≤ 1000000) (hg : ∀ j, val 18446744073709551616 ys / 2 ^ (N - 1 - j) % 2 = g j) (S : Nat → Prop) (hS : S Bs) (hSv : ∀ b, v.ownBlock = some b → 0 < L → S b)
    (w : World) (hSw : ∀ k, S k → k < w.heap.size) (hBs : w.cell? ⟨Bs, 0, none⟩ = some v) (hr : Row .u64 w v ys) :
    SeqStopsK Fence.wide n Tryz.prog 182 #[.pointer (some ⟨Bs, 0, none⟩)] (fun x : Fin N => #[Value.int .u64 (g x.val : Nat)]) (KeepB S) (fun zs => zs.map Fin.val = List.range N) (fun _ => True) N w := fun l J Jx W hW _ _ hY h0 => by
  have hk : KeepB S w W := fun k hk => hW.block k (hSw k hk)
  exact sho1 n hn l Bs L N g v ys hd hL hN hb hg S hS hSv J Jx hY W ((hk.cell (p := ⟨Bs, 0, none⟩) hS).trans hBs) (hk.row (fun b hb hp => hSv b hb (by omega)) hr) h0

end Go.Proofs.YtcjaafmlflonhaaGreatDoor
