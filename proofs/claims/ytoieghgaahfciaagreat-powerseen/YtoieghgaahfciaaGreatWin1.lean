/- Package power: the windows of a number, the highest ahead, as a range over a function hands them out (windows). -/
import Derived.Test.YtoieghgaahfciaaGreatSeq1
import Derived.Test.YtoieghgaahfciaaGreatPowN
namespace Go.Proofs.YtoieghgaahfciaaGreat
open Go.RowKit Go.Shelf

attribute [local go_sem] Oper.semAt_some

theorem or_apart (q x y : Nat) (h1 : x % 2 ^ q = 0) (h2 : y < 2 ^ q) (h3 : x + y < 18446744073709551616) : bits .or .u64 (x : Int) (y : Int) = ((x + y : Nat) : Int) := by
  have hx : x < 18446744073709551616 := by omega
  have hy : y < 18446744073709551616 := by omega
  rw [u64_or_nat _ _ hx hy]
  congr 1
  obtain ⟨k, rfl⟩ : ∃ k, x = 2 ^ q * k := ⟨x / 2 ^ q, (Nat.mul_div_cancel' (Nat.dvd_of_mod_eq_zero h1)).symm⟩
  exact (Nat.two_pow_add_eq_or_of_lt h2 k).symm

set_option maxHeartbeats 400000 in
/-- bits.RotateLeft64, by four. -/
theorem bRot (y : Nat) (hy : y < 18446744073709551616) (w : World) :
    Calls Tryz.prog 77 #[.int .u64 (y : Nat), .int .i64 4] w fun e w' => e = .returned (.int .u64 (rot4 y : Nat)) ∧ w' = w := by
  have ho := or_apart 4 (y * 16 % 18446744073709551616) (y / 1152921504606846976) (by omega) (by omega) (by omega)
  have hr : ((rot4 y : Nat) : Int) = ((y * 16 % 18446744073709551616 + y / 1152921504606846976 : Nat) : Int) := rfl
  rw [← hr] at ho
  rw [show ((y * 16 % 18446744073709551616 : Nat) : Int) = IntKind.u64.wrap ((y : Int) * 16) by rw [IntKind.wrap_u64]; simp, show ((y / 1152921504606846976 : Nat) : Int) = (y : Int) / 1152921504606846976 by simp] at ho
  clear hr
  have hand : bits .and .u64 4 63 = 4 := by decide +kernel
  generalize rot4 y = z at *
  go_enter Tryz.func77, Tryz.ntmps77
  go_wp2_with fail
  go_ret
  exact ⟨rfl, rfl⟩

theorem and15 (y : Nat) (hy : y < 18446744073709551616) : bits .and .u64 (y : Int) 15 = ((y % 16 : Nat) : Int) := by
  have h := u64_and_nat y 15 hy (by omega)
  rw [show (15 : Int) = ((15 : Nat) : Int) from rfl, h]
  congr 1
  exact Nat.and_two_pow_sub_one_eq_mod y 4

set_option maxRecDepth 100000 in
set_option maxHeartbeats 2000000 in
/-- windows's closure. -/
theorem win1 (n : Nat) (hn : 1 ≤ n) (l Bs L N : Nat) (g : Nat → Nat) (v : Value) (ys : List Nat) (hd : Digs 18446744073709551616 ys) (hL : Hid (ys.length = L)) (hN : Hid (16 * L = N)) (hb : L ≤ 1000000) (hg : Hid (∀ j, winN ys L j = g j)) (S : Nat → Prop) (hS : S Bs) (hSv : ∀ b, v.ownBlock = some b → 0 < L → S b)
    (J Jx : List (Fin N) → World → Prop)
    (hY : ∀ pre (x : Fin N) W, J pre W → pre.length < N → YieldAt Fence.wide (n - 1) Tryz.prog l #[.int .u64 (g x.val : Nat)] W fun e W' =>
      (e = .returned (.bool true) ∧ J (pre ++ [x]) W' ∧ KeepB S W W') ∨ (e = .returned (.bool false) ∧ Jx (pre ++ [x]) W'))
    (W : World) (hBs : W.cell? ⟨Bs, 0, none⟩ = some v) (hr : Row .u64 W v ys) (h0 : J [] W) :
    CallsIn Fence.wide n Tryz.prog 76 #[.func (.yield l) #[] #[], .pointer (some ⟨Bs, 0, none⟩)] W fun e W' => (∃ v, e = .returned v) ∧
      ((∃ zs, zs.map Fin.val = List.range N ∧ J zs W') ∨ (∃ pre, True ∧ Jx pre W')) := by
  obtain ⟨ao, m, cap, rfl, hlen, c1, c2, c3, hnum⟩ := hr.open
  obtain rfl : m = L := by rw [← hlen.out]; exact hL.out
  have HNUM : Hid (∀ i, i < m → NumAt .u64 W ao ys i) := hnum
  have HROT : Hid (∀ (y : Nat) (w : World), y < 18446744073709551616 → Calls Tryz.prog 77 #[.int .u64 (y : Nat), .int .i64 4] w fun e w' => e = .returned (.int .u64 (rot4 y : Nat)) ∧ w' = w) := fun y w hy => bRot y hy w
  have HD : Hid (∀ i, ys.getD i 0 < 18446744073709551616) := fun i => hd.getD (by omega) i
  clear hnum hr hL hlen hd
  refine callsIn_of_wp Tryz.func76 rfl trivial ?_ rfl
  simp only [Tryz.ntmps76, List.size_toArray, List.length_cons, List.length_nil, Nat.reduceAdd, Nat.reduceSub, Array.replicate_succ, Array.replicate_zero, List.push_toArray, List.append_toArray, List.nil_append, List.cons_append]
  gi_wp2
  gi_loopw [7] (fun i wr => ∃ k : Nat, k ≤ m ∧ i = .int .i64 (k : Int) ∧ (∃ pre : List (Fin N), Hid (pre.map Fin.val = List.range (16 * k)) ∧ J pre wr) ∧ KeepB S W wr)
    (fun i _ => m - (intOf i).toNat)
  case atStart => exact ⟨0, Nat.zero_le _, rfl, ⟨[], by simp [Hid], h0⟩, KeepB.refl _ _⟩
  case round =>
    obtain ⟨k, hk, rfl, ⟨pre, hpre, hJs⟩, hkp⟩ := hrel
    by_cases hkm : k < m
    · have gk : (k : Int) < (m : Int) := by omega
      obtain ⟨i, hi⟩ : ∃ i : Nat, i = m - 1 - k := ⟨_, rfl⟩
      have gi : (m : Int) - 1 - (k : Int) = (i : Int) := by omega
      have gi0 : (0 : Int) ≤ (i : Int) := by omega
      have gi1 : (i : Int) < (m : Int) := by omega
      have HI : Hid (i = m - 1 - k) := hi
      clear hi
      obtain ⟨b, off, rfl, hc⟩ := HNUM.out i (by have := HI.out; omega)
      have hc' : wr.cell? ⟨b, off + i, none⟩ = some (.int .u64 (ys.getD i 0 : Nat)) := (hkp.cell (p := ⟨b, off + i, none⟩) (hSv b rfl (by omega))).trans hc
      have hbox := (hkp.cell (p := ⟨Bs, 0, none⟩) hS).trans hBs
      have HY : Hid (ys.getD i 0 < 18446744073709551616) := HD.out i
      have HG : Hid (∀ q, q < 16 → rotN (ys.getD i 0) (q + 1) % 16 = g (16 * k + q)) := fun q hq => by
        rw [← hg.out]
        unfold winN
        rw [show (16 * k + q) / 16 = k by omega, show (16 * k + q) % 16 = q by omega, HI.out]
      generalize ys.getD i 0 = y at *
      clear hc HNUM
      gi_wp2
      gi_loopw [4, 18] (fun wv q wr2 => ∃ r : Nat, r ≤ 16 ∧ q = .int .i64 (r : Int) ∧ wv = .int .u64 ((rotN y r : Nat) : Int) ∧ (∃ pre : List (Fin N), Hid (pre.map Fin.val = List.range (16 * k + r)) ∧ J pre wr2) ∧ KeepB S W wr2)
        (fun _ q _ => 16 - (intOf q).toNat)
      case atStart => exact ⟨0, Nat.zero_le _, rfl, rfl, ⟨pre, hpre, hJs⟩, hkp⟩
      case round =>
        obtain ⟨r, hr, rfl, rfl, ⟨pre2, hpre2, hJ2⟩, hkp2⟩ := hrel
        by_cases hr16 : r < 16
        · have gr : (r : Int) < 16 := by omega
          have hx : 16 * k + r < N := by have := hN.out; omega
          have hlen2 : pre2.length < N := by
            have := congrArg List.length hpre2.out
            rw [List.length_map, List.length_range] at this
            omega
          have hR0 := HROT.out (rotN y r) wr (rotN_lt HY.out r)
          have hz := and15 (rot4 (rotN y r)) (rot4_lt (rotN_lt HY.out r))
          have e1 : rot4 (rotN y r) % 16 = g (16 * k + r) := HG.out r hr16
          rw [e1] at hz
          obtain ⟨fn, tmps, assign, body, hy, hR⟩ := hY pre2 ⟨16 * k + r, hx⟩ wr hJ2 hlen2
          dsimp only at hy
          have HZ : Hid (rot4 (rotN y r) = rotN y (r + 1)) := rfl
          clear e1
          generalize rot4 (rotN y r) = z at *
          gi_wp2_with fail
          refine ⟨trivial, ?_⟩
          refine (callsIn_wide.2 hR0).mono ?_
          rintro e w' ⟨rfl, rfl⟩
          gi_wp2
          refine hR.mono ?_
          rintro e W3 (⟨rfl, hJ3, hk3⟩ | ⟨rfl, hJx3⟩)
          · gi_wp2
            go_roundw
            case rel => exact ⟨r + 1, hr16, by go_num, by rw [HZ.out], ⟨pre2 ++ [⟨16 * k + r, hx⟩], by unfold Hid; rw [List.map_append, hpre2.out, ← Nat.add_assoc, List.range_succ]; rfl, hJ3⟩, hkp2.trans hk3⟩
            case measure => simp [intOf]; omega
          · gi_wp2
            refine bodyPost_ret (results_none rfl _ _ _) rfl ?_
            exact ⟨⟨_, rfl⟩, .inr ⟨_, trivial, hJx3⟩⟩
        · obtain rfl : r = 16 := by omega
          gi_wp2
          go_roundw
          case rel => exact ⟨k + 1, hkm, by go_num, ⟨pre2, by unfold Hid; rw [hpre2.out]; congr 1, hJ2⟩, hkp2⟩
          case measure => simp [intOf]; omega
    · obtain rfl : k = m := by omega
      gi_wp2
      go_end0
      exact ⟨⟨_, rfl⟩, .inl ⟨pre, by rw [hpre.out, hN.out], hJs⟩⟩

/-- windows: the slice is boxed; the function value holds the box. -/
theorem winBox (ao : Option Addr) (len cap : Nat) (w : World) :
    Calls Tryz.prog 55 #[.slice ao len cap] w fun e w' => e = .returned (.func (.func 76) #[] #[.pointer (some ⟨w.heap.size, 0, none⟩)]) ∧ w' = w.alloc (.cells #[.slice ao len cap] 23) := by
  go_enter Tryz.func55, Tryz.ntmps55
  go_wp2
  go_ret
  exact ⟨rfl, rfl⟩

/-- windows's value, as a range over it wants it. -/
theorem winStops (n : Nat) (hn : 1 ≤ n) (Bs L N : Nat) (g : Nat → Nat) (v : Value) (ys : List Nat) (hd : Digs 18446744073709551616 ys) (hL : ys.length = L) (hN : 16 * L = N) (hb : L ≤ 1000000) (hg : ∀ j, winN ys L j = g j) (S : Nat → Prop) (hS : S Bs) (hSv : ∀ b, v.ownBlock = some b → 0 < L → S b)
    (w : World) (hSw : ∀ k, S k → k < w.heap.size) (hBs : w.cell? ⟨Bs, 0, none⟩ = some v) (hr : Row .u64 w v ys) :
    SeqStopsK Fence.wide n Tryz.prog 76 #[.pointer (some ⟨Bs, 0, none⟩)] (fun x : Fin N => #[Value.int .u64 (g x.val : Nat)]) (KeepB S) (fun zs => zs.map Fin.val = List.range N) (fun _ => True) N w := fun l J Jx W hW _ _ hY h0 => by
  have hk : KeepB S w W := fun k hk => hW.block k (hSw k hk)
  exact win1 n hn l Bs L N g v ys hd hL hN hb hg S hS hSv J Jx hY W ((hk.cell (p := ⟨Bs, 0, none⟩) hS).trans hBs) (hk.row (fun b hb hp => hSv b hb (by omega)) hr) h0

end Go.Proofs.YtoieghgaahfciaaGreat
