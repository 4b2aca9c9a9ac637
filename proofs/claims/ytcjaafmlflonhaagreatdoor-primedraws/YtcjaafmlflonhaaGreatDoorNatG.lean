/- The words of bytes, the lowest ahead, as a range over a function hands them out (wordsOfBytes). -/
import Derived.Test.YtcjaafmlflonhaaGreatDoorNatF
namespace Go.Proofs.YtcjaafmlflonhaaGreatDoor
open Go.RowKit Go.Shelf

attribute [local go_sem] Oper.semAt_some

/-- Word i of bytes. -/
theorem word_of_bytes {bs : List Nat} (hd : Digs 256 bs) (i : Nat) (h : 8 * i < bs.length) :
    bev ((bs.drop (bs.length - 8 * (i + 1))).take (bs.length - 8 * i - (bs.length - 8 * (i + 1)))) = dig 18446744073709551616 (bev bs) i := by
  obtain ⟨s, hs⟩ : ∃ s, s = bs.length - 8 * (i + 1) := ⟨_, rfl⟩
  obtain ⟨e, he⟩ : ∃ e, e = bs.length - 8 * i := ⟨_, rfl⟩
  rw [← hs, ← he]
  have hse : s < e := by omega
  have hel : e ≤ bs.length := by omega
  have hsplit : bs = (bs.take s ++ (bs.drop s).take (e - s)) ++ bs.drop e := by
    rw [List.append_assoc]
    have h2 : (bs.drop s).take (e - s) ++ bs.drop e = bs.drop s := by
      have := List.take_append_drop (e - s) (bs.drop s)
      rw [List.drop_drop, show s + (e - s) = e by omega] at this
      exact this
    rw [h2, List.take_append_drop]
  have hval : bev bs = (bev (bs.take s) * 256 ^ (e - s) + bev ((bs.drop s).take (e - s))) * 256 ^ (8 * i) + bev (bs.drop e) := by
    conv => lhs; rw [hsplit]
    rw [bev_append, bev_append, List.length_take, List.length_drop, List.length_drop, Nat.min_eq_left (by omega), show bs.length - e = 8 * i by omega]
  have h1 : bev (bs.drop e) < 256 ^ (8 * i) := by
    have := bev_lt (hd.drop e)
    rwa [List.length_drop, show bs.length - e = 8 * i by omega] at this
  have h2 : bev ((bs.drop s).take (e - s)) < 256 ^ (e - s) := by
    have := bev_lt ((hd.drop s).take (e - s))
    rwa [List.length_take, List.length_drop, Nat.min_eq_left (by omega)] at this
  have h3 : e - s = 8 ∨ s = 0 := by omega
  have hle : e - s ≤ 8 := by omega
  generalize bev ((bs.drop s).take (e - s)) = M at *
  have hp : (18446744073709551616 : Nat) ^ i = 256 ^ (8 * i) := by rw [Nat.pow_mul]
  unfold dig
  rw [hp, hval, Nat.mul_comm _ (256 ^ (8 * i)), Nat.mul_add_div (Nat.pow_pos (by omega)), Nat.div_eq_of_lt h1, Nat.add_zero]
  rcases h3 with h8 | h0
  · rw [h8] at h2 ⊢
    rw [show (256 : Nat) ^ 8 = 18446744073709551616 from rfl] at h2 ⊢
    omega
  · subst h0
    have h4 : M < 18446744073709551616 := Nat.lt_of_lt_of_le h2 (Nat.le_trans (Nat.pow_le_pow_right (by omega) hle) (Nat.le_refl (256 ^ 8)))
    rw [List.take_zero, show bev [] = 0 from rfl, Nat.zero_mul, Nat.zero_add, Nat.mod_eq_of_lt h4]

/-- A part of a slice. -/
theorem Row.part {k : IntKind} {w : World} {b off n cap s e : Nat} {zs : List Nat} (h : Row k w (.slice (some ⟨b, off, none⟩) n cap) zs) (h1 : s < e) (h2 : e ≤ n) : Row k w (.slice (some ⟨b, off + s, none⟩) (e - s) (cap - s)) ((zs.drop s).take (e - s)) := by
  obtain ⟨ao, cap', e', c1, c2, _, h4⟩ := h
  cases e'
  have hl : ((zs.drop s).take (e - s)).length = e - s := by rw [List.length_take, List.length_drop]; omega
  refine ⟨_, _, by rw [hl], by omega, by omega, (fun e => by cases e), fun i hi => ?_⟩
  rw [hl] at hi
  obtain ⟨b', off', e', hcell⟩ := h4 (s + i) (by omega)
  cases e'
  refine ⟨b, off + s, rfl, ?_⟩
  rw [Nat.add_assoc, hcell, List.getD_eq_getElem?_getD, List.getD_eq_getElem?_getD, List.getElem?_take, if_pos hi, List.getElem?_drop]

set_option maxRecDepth 100000 in
set_option maxHeartbeats 2000000 in
/-- wordsOfBytes's closure. -/
theorem wob1 (n : Nat) (hn : 1 ≤ n) (l Bs L : Nat) (g : Nat → Nat) (v : Value) (bs : List Nat) (hd : Digs 256 bs) (hL : Hid ((bs.length + 7) / 8 = L)) (hg : Hid (∀ j, dig 18446744073709551616 (bev bs) j = g j)) (S : Nat → Prop) (hS : S Bs) (hSv : ∀ b, v.ownBlock = some b → 0 < L → S b)
    (J Jx : List (Fin L) → World → Prop)
    (hY : ∀ pre (x : Fin L) W, J pre W → pre.length < L → YieldAt Fence.wide (n - 1) Tryz.prog l #[.int .i64 (x.val : Nat), .int .u64 (g x.val : Nat)] W fun e W' =>
      (e = .returned (.bool true) ∧ J (pre ++ [x]) W' ∧ KeepB S W W') ∨ (e = .returned (.bool false) ∧ Jx (pre ++ [x]) W'))
    (W : World) (hBs : W.cell? ⟨Bs, 0, none⟩ = some v) (hr : Row .u8 W v bs) (h0 : J [] W) :
    CallsIn Fence.wide n Tryz.prog 102 #[.func (.yield l) #[] #[], .pointer (some ⟨Bs, 0, none⟩)] W fun e W' => (∃ v, e = .returned v) ∧
      ((∃ ys, ys.map Fin.val = List.range L ∧ J ys W') ∨ (∃ pre, True ∧ Jx pre W')) := by
  obtain ⟨ao, m, cap, rfl, hN, c1, c2, c3, hnum⟩ := hr.open
  have HL : Hid ((m + 7) / 8 = L) := by rw [← hN.out]; exact hL
  have HROW : Hid (Row .u8 W (.slice ao m cap) bs) := hr
  have HNUM : Hid (∀ i, i < m → NumAt .u8 W ao bs i) := hnum
  clear hnum hr hL
  refine callsIn_of_wp Tryz.func102 rfl trivial ?_ rfl
  simp only [Tryz.ntmps102, List.size_toArray, List.length_cons, List.length_nil, Nat.reduceAdd, Nat.reduceSub, Array.replicate_succ, Array.replicate_zero, List.push_toArray, List.append_toArray, List.nil_append, List.cons_append]
  gi_wp2
  gi_loopw [3, 4] (fun e i wr => ∃ k r : Nat, Hid (k ≤ L ∧ r = m - 8 * k) ∧ r ≤ m ∧ e = .int .i64 (r : Int) ∧ i = .int .i64 (k : Int) ∧ (∃ pre : List (Fin L), Hid (pre.map Fin.val = List.range k) ∧ J pre wr) ∧ KeepB S W wr)
    (fun e _ _ => (intOf e).toNat)
  case atStart => exact ⟨0, m, ⟨Nat.zero_le _, by omega⟩, Nat.le_refl _, rfl, rfl, ⟨[], by simp [Hid], h0⟩, KeepB.refl _ _⟩
  case round =>
    obtain ⟨k, r, hkr, hrm, rfl, rfl, ⟨pre, hpre, hJs⟩, hkp⟩ := hrel
    cases r with
    | zero =>
      have HK : Hid (k = L) := by have h1 := hkr.out; have h2 := HL.out; show k = L; omega
      gi_wp2
      go_end0
      exact ⟨⟨_, rfl⟩, .inl ⟨pre, by rw [hpre.out, HK.out], hJs⟩⟩
    | succ q =>
      have hkL : k < L := by have h1 := hkr.out; have h2 := HL.out; omega
      have hq : 8 * k + (q + 1) = m := by have h1 := hkr.out; omega
      have hk62 : k < 4611686018427387904 := by omega
      obtain ⟨s, hs⟩ : ∃ s : Nat, s = m - 8 * (k + 1) := ⟨_, rfl⟩
      have hs1 : max ((q : Int) + 1 - 8) 0 = (s : Int) := by omega
      have hs2 : s < q + 1 := by omega
      have hs3 : q + 1 - s ≤ 8 := by omega
      have HS : Hid (s = m - 8 * (k + 1)) := hs
      clear hs
      obtain ⟨b, off, rfl, _⟩ := HNUM.out 0 (by omega)
      have hrow := HROW.out.part hs2 hrm
      have hG := nGet (some ⟨b, off + s, none⟩) (q + 1 - s) (cap - s) _ wr (hkp.row (fun b' hb hp => by cases hb; exact hSv b rfl (by omega)) hrow) ((hd.drop s).take _) hs3
      have hw : bev ((bs.drop s).take (q + 1 - s)) = g k := by
        rw [← hg.out, ← word_of_bytes hd k (by have := hN.out; omega), hN.out, ← HS.out, show m - 8 * k = q + 1 by omega]
      rw [hw] at hG
      have hbox := (hkp.cell (p := ⟨Bs, 0, none⟩) hS).trans hBs
      have hlen : pre.length < L := by
        have := congrArg List.length hpre.out
        rw [List.length_map, List.length_range] at this
        omega
      obtain ⟨fn, tmps, assign, body, hy, hR⟩ := hY pre ⟨k, hkL⟩ wr hJs hlen
      dsimp only at hy
      clear hw hrow HNUM hq
      gi_wp2_with fail
      refine ⟨trivial, ?_⟩
      refine (callsIn_wide.2 hG).mono ?_
      rintro e w' ⟨rfl, rfl⟩
      gi_wp2
      refine hR.mono ?_
      rintro e W3 (⟨rfl, hJ3, hk3⟩ | ⟨rfl, hJx3⟩)
      · gi_wp2
        go_roundw
        case rel => exact ⟨k + 1, s, ⟨hkL, HS.out⟩, by have := HS.out; omega, rfl, by go_num, ⟨pre ++ [⟨k, hkL⟩], by unfold Hid; rw [List.map_append, hpre.out, List.range_succ]; rfl, hJ3⟩, hkp.trans hk3⟩
        case measure => simp [intOf]; omega
      · gi_wp2
        refine bodyPost_ret (results_none rfl _ _ _) rfl ?_
        exact ⟨⟨_, rfl⟩, .inr ⟨_, trivial, hJx3⟩⟩

/-- wordsOfBytes: the slice is boxed; the function value holds the box. -/
theorem wobBox (ao : Option Addr) (len cap : Nat) (w : World) :
    Calls Tryz.prog 67 #[.slice ao len cap] w fun e w' => e = .returned (.func (.func 102) #[] #[.pointer (some ⟨w.heap.size, 0, none⟩)]) ∧ w' = w.alloc (.cells #[.slice ao len cap] 22) := by
  go_enter Tryz.func67, Tryz.ntmps67
  go_wp2
  go_ret
  exact ⟨rfl, rfl⟩

/-- wordsOfBytes's value, as a range over it wants it. -/
theorem wobStops (n : Nat) (hn : 1 ≤ n) (Bs L : Nat) (g : Nat → Nat) (v : Value) (bs : List Nat) (hd : Digs 256 bs) (hL : (bs.length + 7) / 8 = L) (hg : ∀ j, dig 18446744073709551616 (bev bs) j = g j) (S : Nat → Prop) (hS : S Bs) (hSv : ∀ b, v.ownBlock = some b → 0 < L → S b)
    (w : World) (hSw : ∀ k, S k → k < w.heap.size) (hBs : w.cell? ⟨Bs, 0, none⟩ = some v) (hr : Row .u8 w v bs) :
    SeqStopsK Fence.wide n Tryz.prog 102 #[.pointer (some ⟨Bs, 0, none⟩)] (fun x : Fin L => #[Value.int .i64 (x.val : Nat), Value.int .u64 (g x.val : Nat)]) (KeepB S) (fun ys => ys.map Fin.val = List.range L) (fun _ => True) L w := fun l J Jx W hW _ _ hY h0 => by
  have hk : KeepB S w W := fun k hk => hW.block k (hSw k hk)
  exact wob1 n hn l Bs L g v bs hd hL hg S hS hSv J Jx hY W ((hk.cell (p := ⟨Bs, 0, none⟩) hS).trans hBs) (hk.row (fun b hb hp => hSv b hb (by omega)) hr) h0

end Go.Proofs.YtcjaafmlflonhaaGreatDoor
