/- Put together of: NatF NatG NatH. -/
import Derived.Test.YtldbfcifoijliaaGreatDoorPk11

/- Bytes as words: word.Get on at most eight bytes; noughts ahead cut off (bytes.TrimLeft); the words of bytes, the lowest ahead, as a range over a function hands them out (wordsOfBytes). -/
namespace Go.Proofs.YtldbfcifoijliaaGreatDoor
open Go.RowKit Go.Shelf

attribute [local go_sem] Oper.semAt_some

theorem or_byteN (x y : Nat) (hx : x < 72057594037927936) (hy : y < 256) : bits .or .u64 ((x : Int) * 256) (y : Int) = ((x * 256 + y : Nat) : Int) := by
  have h := u64_or_nat (x * 256) y (by omega) (by omega)
  rw [nat_join 8 (x * 256) y (by omega) (by omega)] at h
  rw [show (x : Int) * 256 = ((x * 256 : Nat) : Int) by omega, h]

theorem bev_fold (m : List Nat) : ∀ a, m.foldl (fun a b => a * 256 + b) a = a * 256 ^ m.length + bev m := by
  unfold bev
  induction m with
  | nil => intro a; simp
  | cons x m ih =>
    intro a
    rw [List.foldl_cons, ih, List.foldl_cons, ih (0 * 256 + x), List.length_cons, Nat.pow_succ]
    simp only [Nat.zero_mul, Nat.zero_add, Nat.add_mul, Nat.mul_assoc, Nat.add_assoc, Nat.mul_comm 256]

theorem bev_append (l m : List Nat) : bev (l ++ m) = bev l * 256 ^ m.length + bev m := by
  show (l ++ m).foldl _ 0 = _
  rw [List.foldl_append, bev_fold]
  rfl

theorem bev_lt {l : List Nat} (h : Digs 256 l) : bev l < 256 ^ l.length := by
  induction l with
  | nil => simp [bev]
  | cons x m ih =>
    have e := bev_append [x] m
    rw [List.singleton_append] at e
    have hx := h.head
    have hm := ih h.tail
    rw [e, List.length_cons, Nat.pow_succ]
    have : (x + 1) * 256 ^ m.length ≤ 256 * 256 ^ m.length := Nat.mul_le_mul_right _ hx
    rw [Nat.add_mul, Nat.one_mul] at this
    have e2 : bev [x] = x := by simp [bev]
    rw [e2, Nat.mul_comm (256 ^ m.length)]
    omega

set_option maxHeartbeats 400000 in
/-- word.Get, on at most eight bytes. -/
theorem nGet (ao : Option Addr) (len cap : Nat) (bs : List Nat) (w : World) (h : Row .u8 w (.slice ao len cap) bs) (hd : Digs 256 bs) (hl : len ≤ 8) :
    Calls Tryz.prog 76 #[.slice ao len cap] w fun e w' => e = .returned (.int .u64 (bev bs : Nat)) ∧ w' = w := by
  obtain ⟨ao', len', cap', e, hL, _, _, _, hnum⟩ := h.open
  cases e
  have HR : Hid (∀ i, i < len → NumAt .u8 w ao bs i) := hnum
  clear hnum h
  have hn' : min (len : Int) 8 = (len : Int) := by omega
  have hall : bs.take len = bs := by rw [List.take_of_length_le]; have := hL.out; omega
  have HA : Hid (bev (bs.take len) = bev bs) := congrArg bev hall
  clear hall
  go_enter Tryz.func76, Tryz.ntmps76
  go_wp2_with fail
  go_loop [3, 8] (fun x i => ∃ k : Nat, k ≤ len ∧ i = .int .i64 (k : Int) ∧ ∃ t : Nat, Hid (t = bev (bs.take k)) ∧ x = .int .u64 (t : Int)) (fun _ i => ((len : Int) - intOf i).toNat)
  case atStart => exact ⟨0, by omega, rfl, 0, by simp [Hid, bev], rfl⟩
  case round =>
    obtain ⟨k, hk, rfl, t, ht, rfl⟩ := hrel
    by_cases hp : k < len
    · obtain ⟨b, off, rfl, hc⟩ := HR.out k hp
      have hz : bs.getD k 0 < 256 := hd.getD (by omega) k
      have htb : t < 72057594037927936 := by
        rw [ht.out]
        have h1 := bev_lt (hd.take k)
        have h2 : (256 : Nat) ^ (bs.take k).length ≤ 256 ^ 7 := Nat.pow_le_pow_right (by omega) (by rw [List.length_take]; omega)
        omega
      have hs : Hid (bev (bs.take (k + 1)) = t * 256 + bs.getD k 0) := by
        unfold Hid
        rw [ht.out]
        exact bev_take_succ (by have := hL.out; omega)
      generalize bs.getD k 0 = z at *
      have hor := or_byteN t z htb hz
      go_wp2_with fail
      go_round
      case rel => exact ⟨k + 1, by omega, by go_num, t * 256 + z, hs.out.symm, rfl⟩
      case measure => simp [intOf]; omega
    · obtain rfl : k = len := by omega
      go_wp2_with fail
      go_ret
      have hfin := ht.out.trans HA.out
      exact ⟨by rw [hfin]; rfl, rfl⟩

/-- The slice behind its first element. -/
theorem Row.tail {k : IntKind} {w : World} {b off m cap : Nat} {z : Nat} {zs : List Nat} (h : Row k w (.slice (some ⟨b, off, none⟩) (m + 1) cap) (z :: zs)) (hc : 1 < cap) : Row k w (.slice (some ⟨b, off + 1, none⟩) m (cap - 1)) zs := by
  obtain ⟨ao, cap', e, h1, h2, _, h4⟩ := h
  cases e
  refine ⟨_, _, rfl, by simp at h1; omega, by omega, (fun e => by cases e), fun i hi => ?_⟩
  obtain ⟨b', off', e, hcell⟩ := h4 (i + 1) (by simp; omega)
  cases e
  exact ⟨b, off + 1, rfl, by rw [show off + 1 + i = off + (i + 1) by omega, hcell]; rfl⟩

theorem Row.none0 (k : IntKind) (w : World) (ao : Option Addr) (cap : Nat) (hc : cap ≤ maxLen) (hn : ao = none → cap = 0) : Row k w (.slice ao 0 cap) [] := ⟨ao, cap, rfl, Nat.zero_le _, hc, hn, fun i hi => absurd hi (by simp)⟩

set_option maxHeartbeats 800000 in
/-- bytes.trimLeftByte, noughts. -/
theorem nTrim0 (v : Value) (bs : List Nat) (w : World) (h : Row .u8 w v bs) :
    Calls Tryz.prog 71 #[v, .int .u8 0] w fun r w' => ∃ v', r = .returned v' ∧ ∃ k, Row .u8 w v' (bs.drop k) ∧ k ≤ bs.length ∧ (∀ i, i < k → bs.getD i 0 = 0) ∧ (k = bs.length ∨ bs.getD k 0 ≠ 0) ∧ (v'.ownBlock = v.ownBlock ∨ v'.ownBlock = none) ∧ w' = w := by
  obtain ⟨ob, hob⟩ : ∃ ob, ob = v.ownBlock := ⟨_, rfl⟩
  rw [← hob]
  have HOB : Hid (v.ownBlock = ob) := hob.symm
  clear hob
  obtain ⟨ao, n, cap, rfl, hL, h1, h2, h3, _⟩ := h.open
  have hr := h
  clear h
  go_enter Tryz.func71, Tryz.ntmps71
  go_wp2_with fail
  go_loop [0] (fun a => ∃ k, Hid (k ≤ bs.length ∧ Row .u8 w a (bs.drop k) ∧ (∀ i, i < k → bs.getD i 0 = 0) ∧ a.ownBlock = ob)) (fun a => lenV a)
  case atStart => exact ⟨0, Nat.zero_le _, by simpa using hr, fun i hi => by omega, HOB.out⟩
  case round =>
    obtain ⟨k, hk⟩ := hrel
    obtain ⟨hk1, hrow, hz, hown⟩ := hk.out
    obtain ⟨ao', m, cap', rfl, hM, g1, g2, g3, g4⟩ := hrow.open
    have HM : Hid (m = bs.length - k) := by have := hM.out; rw [List.length_drop] at this; exact this.symm
    cases m with
    | zero =>
      have hke : Hid (k = bs.length) := by have := HM.out; show k = bs.length; omega
      clear g4 hrow hr hown hz h1 h2 h3 hL hM hk1
      go_wp2
      go_ret
      obtain ⟨hk1, hrow, hz, hown⟩ := hk.out
      exact ⟨_, rfl, k, by rw [List.drop_eq_nil_of_le (by have := hke.out; omega)]; exact Row.nil _ _, hk1, hz, .inl hke.out, .inr rfl, rfl⟩
    | succ j =>
      obtain ⟨b, off, rfl, hc⟩ := g4 0 (by omega)
      rw [Nat.add_zero] at hc
      have hd0 : (bs.drop k).getD 0 0 = bs.getD k 0 := by rw [List.getD_eq_getElem?_getD, List.getElem?_drop, List.getD_eq_getElem?_getD]; rfl
      rw [hd0] at hc
      have hklt : k < bs.length := by have := HM.out; omega
      have hcons : bs.drop k = bs.getD k 0 :: bs.drop (k + 1) := by rw [List.drop_eq_getElem_cons hklt, List.getD_eq_getElem?_getD, List.getElem?_eq_getElem hklt]; rfl
      obtain ⟨z, hzz⟩ : ∃ z, z = bs.getD k 0 := ⟨_, rfl⟩
      rw [← hzz] at hc hcons
      rw [hcons] at hrow
      have HZ : Hid (z = bs.getD k 0) := hzz
      have HROW : Hid (Row .u8 w (.slice (some ⟨b, off, none⟩) (j + 1) cap') (z :: bs.drop (k + 1))) := hrow
      have HKL : Hid (k < bs.length) := hklt
      clear hzz g4 hrow hr hown hz h1 h2 h3 hL hM hk1 hd0 hcons hklt
      by_cases h0 : z = 0
      · subst h0
        have hstep : ∀ i, i < k + 1 → bs.getD i 0 = 0 := fun i hi => by
          by_cases e : i = k
          · subst e; exact HZ.out.symm
          · exact hk.out.2.2.1 i (by omega)
        have HST : Hid (∀ i, i < k + 1 → bs.getD i 0 = 0) := hstep
        clear hstep
        by_cases hcap : cap' = 1
        · obtain rfl : j = 0 := by omega
          subst hcap
          have hnil : Hid (bs.drop (k + 1) = []) := by
            show bs.drop (k + 1) = []
            rw [List.drop_eq_nil_of_le]
            have := HM.out
            omega
          go_wp2
          go_round
          case rel => exact ⟨k + 1, HKL.out, by rw [hnil.out]; exact Row.none0 _ _ _ _ (by unfold maxLen; omega) (fun e => by cases e), HST.out, hk.out.2.2.2⟩
          case measure => simp [lenV]
        · have hc1 : 1 < cap' := by omega
          have hc2 : (1 : Int) ≤ (cap' : Int) := by omega
          have hc3 : ¬ (1 : Nat) = cap' := by omega
          have hc4 : ¬ (1 : Int) = (cap' : Int) := by omega
          go_wp2
          go_round
          case rel => exact ⟨k + 1, HKL.out, HROW.out.tail hc1, HST.out, hk.out.2.2.2⟩
          case measure => simp [lenV]
      · have hz0 : ((z : Int) == 0) = false := by simp; omega
        have hz1 : ¬ ((z : Int) = 0) := by omega
        have HNE : Hid (bs.getD k 0 ≠ 0) := by rw [← HZ.out]; exact h0
        go_wp2
        go_ret
        obtain ⟨hk1, hrow, hz, hown⟩ := hk.out
        exact ⟨_, rfl, k, hrow, hk1, hz, .inr HNE.out, .inl hown, rfl⟩

set_option maxRecDepth 20000 in
set_option maxHeartbeats 800000 in
/-- bytes.TrimLeft, noughts. -/
theorem nTrim (v : Value) (bs : List Nat) (w : World) (h : Row .u8 w v bs) :
    Calls Tryz.prog 54 #[v, .string { data := #[0] }] w fun r w' => ∃ v', r = .returned v' ∧ ∃ k, Row .u8 w v' (bs.drop k) ∧ k ≤ bs.length ∧ (∀ i, i < k → bs.getD i 0 = 0) ∧ (k = bs.length ∨ bs.getD k 0 ≠ 0) ∧ (v'.ownBlock = v.ownBlock ∨ v'.ownBlock = none) ∧ w' = w := by
  have hT := nTrim0 v bs w h
  obtain ⟨ao, n, cap, rfl, hL, h1, h2, h3, _⟩ := h.open
  cases n with
  | zero =>
    have hnil : bs = [] := List.eq_nil_of_length_eq_zero hL.out
    subst hnil
    clear hT hL h
    go_enter Tryz.func54, Tryz.ntmps54
    go_wp2_with fail
    go_ret
    exact ⟨_, rfl, 0, Row.nil _ _, Nat.le_refl _, fun i hi => by omega, .inl rfl, .inr rfl, rfl⟩
  | succ j =>
    clear h
    go_enter Tryz.func54, Tryz.ntmps54
    go_wp2_with fail
    refine hT.mono ?_
    rintro e w' ⟨v', rfl, hrest⟩
    go_wp2_with fail
    go_ret
    exact ⟨v', rfl, hrest⟩

end Go.Proofs.YtldbfcifoijliaaGreatDoor


/- The words of bytes, the lowest ahead, as a range over a function hands them out (wordsOfBytes). -/
namespace Go.Proofs.YtldbfcifoijliaaGreatDoor
open Go.RowKit Go.Shelf

attribute [local go_sem] Oper.semAt_some

/-- Word i of bytes. -/
theorem word_of_bytes {bs : List Nat} (hd : Digs 256 bs) (i : Nat) (h : 8 * i < bs.length) :
    bev ((bs.drop (bs.length - 8 * (i + 1))).take (bs.length - 8 * i - (bs.length - 8 * (i + 1)))) = dig 18446744073709551616 (bev bs) i := by
  obtain ⟨s, hs⟩ : ∃ s, s = bs.length - 8 * (i + 1) := ⟨_, rfl⟩
  obtain ⟨e, he⟩ : ∃ e, e = bs.length - 8 * i := ⟨_, rfl⟩
  rw [← hs, ← he]
  have hse : s < e := by omega
  have hel : e ≤ bs.length := by omega
  have hsplit : bs = (bs.take s ++ (bs.drop s).take (e - s)) ++ bs.drop e := by
    rw [List.append_assoc]
    have h2 : (bs.drop s).take (e - s) ++ bs.drop e = bs.drop s := by
      have := List.take_append_drop (e - s) (bs.drop s)
      rw [List.drop_drop, show s + (e - s) = e by omega] at this
      exact this
    rw [h2, List.take_append_drop]
  have hval : bev bs = (bev (bs.take s) * 256 ^ (e - s) + bev ((bs.drop s).take (e - s))) * 256 ^ (8 * i) + bev (bs.drop e) := by
    conv => lhs; rw [hsplit]
    rw [bev_append, bev_append, List.length_take, List.length_drop, List.length_drop, Nat.min_eq_left (by omega), show bs.length - e = 8 * i by omega]
  have h1 : bev (bs.drop e) < 256 ^ (8 * i) := by
    have := bev_lt (hd.drop e)
    rwa [List.length_drop, show bs.length - e = 8 * i by omega] at this
  have h2 : bev ((bs.drop s).take (e - s)) < 256 ^ (e - s) := by
    have := bev_lt ((hd.drop s).take (e - s))
    rwa [List.length_take, List.length_drop, Nat.min_eq_left (by omega)] at this
  have h3 : e - s = 8 ∨ s = 0 := by omega
  have hle : e - s ≤ 8 := by omega
  generalize bev ((bs.drop s).take (e - s)) = M at *
  have hp : (18446744073709551616 : Nat) ^ i = 256 ^ (8 * i) := by rw [Nat.pow_mul]
  unfold dig
  rw [hp, hval, Nat.mul_comm _ (256 ^ (8 * i)), Nat.mul_add_div (Nat.pow_pos (by omega)), Nat.div_eq_of_lt h1, Nat.add_zero]
  rcases h3 with h8 | h0
  · rw [h8] at h2 ⊢
    rw [show (256 : Nat) ^ 8 = 18446744073709551616 from rfl] at h2 ⊢
    omega
  · subst h0
    have h4 : M < 18446744073709551616 := Nat.lt_of_lt_of_le h2 (Nat.le_trans (Nat.pow_le_pow_right (by omega) hle) (Nat.le_refl (256 ^ 8)))
    rw [List.take_zero, show bev [] = 0 from rfl, Nat.zero_mul, Nat.zero_add, Nat.mod_eq_of_lt h4]

/-- A part of a slice. -/
theorem Row.part {k : IntKind} {w : World} {b off n cap s e : Nat} {zs : List Nat} (h : Row k w (.slice (some ⟨b, off, none⟩) n cap) zs) (h1 : s < e) (h2 : e ≤ n) : Row k w (.slice (some ⟨b, off + s, none⟩) (e - s) (cap - s)) ((zs.drop s).take (e - s)) := by
  obtain ⟨ao, cap', e', c1, c2, _, h4⟩ := h
  cases e'
  have hl : ((zs.drop s).take (e - s)).length = e - s := by rw [List.length_take, List.length_drop]; omega
  refine ⟨_, _, by rw [hl], by omega, by omega, (fun e => by cases e), fun i hi => ?_⟩
  rw [hl] at hi
  obtain ⟨b', off', e', hcell⟩ := h4 (s + i) (by omega)
  cases e'
  refine ⟨b, off + s, rfl, ?_⟩
  rw [Nat.add_assoc, hcell, List.getD_eq_getElem?_getD, List.getD_eq_getElem?_getD, List.getElem?_take, if_pos hi, List.getElem?_drop]

set_option maxRecDepth 100000 in
set_option maxHeartbeats 2000000 in
/-- wordsOfBytes's closure. -/
theorem wob1 (n : Nat) (hn : 1 ≤ n) (l Bs L : Nat) (g : Nat → Nat) (v : Value) (bs : List Nat) (hd : Digs 256 bs) (hL : Hid ((bs.length + 7) / 8 = L)) (hg : Hid (∀ j, dig 18446744073709551616 (bev bs) j = g j)) (S : Nat → Prop) (hS : S Bs) (hSv : ∀ b, v.ownBlock = some b → 0 < L → S b)
    (J Jx : List (Fin L) → World → Prop)
    (hY : ∀ pre (x : Fin L) W, J pre W → pre.length < L → YieldAt Fence.wide (n - 1) Tryz.prog l #[.int .i64 (x.val : Nat), .int .u64 (g x.val : Nat)] W fun e W' =>
      (e = .returned (.bool true) ∧ J (pre ++ [x]) W' ∧ KeepB S W W') ∨ (e = .returned (.bool false) ∧ Jx (pre ++ [x]) W'))
    (W : World) (hBs : W.cell? ⟨Bs, 0, none⟩ = some v) (hr : Row .u8 W v bs) (h0 : J [] W) :
    CallsIn Fence.wide n Tryz.prog 75 #[.func (.yield l) #[] #[], .pointer (some ⟨Bs, 0, none⟩)] W fun e W' => (∃ v, e = .returned v) ∧
      ((∃ ys, ys.map Fin.val = List.range L ∧ J ys W') ∨ (∃ pre, True ∧ Jx pre W')) := by
  obtain ⟨ao, m, cap, rfl, hN, c1, c2, c3, hnum⟩ := hr.open
  have HL : Hid ((m + 7) / 8 = L) := by rw [← hN.out]; exact hL
  have HROW : Hid (Row .u8 W (.slice ao m cap) bs) := hr
  have HNUM : Hid (∀ i, i < m → NumAt .u8 W ao bs i) := hnum
  clear hnum hr hL
  refine callsIn_of_wp Tryz.func75 rfl trivial ?_ rfl
  simp only [Tryz.ntmps75, List.size_toArray, List.length_cons, List.length_nil, Nat.reduceAdd, Nat.reduceSub, Array.replicate_succ, Array.replicate_zero, List.push_toArray, List.append_toArray, List.nil_append, List.cons_append]
  gi_wp2
  gi_loopw [3, 4] (fun e i wr => ∃ k r : Nat, Hid (k ≤ L ∧ r = m - 8 * k) ∧ r ≤ m ∧ e = .int .i64 (r : Int) ∧ i = .int .i64 (k : Int) ∧ (∃ pre : List (Fin L), Hid (pre.map Fin.val = List.range k) ∧ J pre wr) ∧ KeepB S W wr)
    (fun e _ _ => (intOf e).toNat)
  case atStart => exact ⟨0, m, ⟨Nat.zero_le _, by omega⟩, Nat.le_refl _, rfl, rfl, ⟨[], by simp [Hid], h0⟩, KeepB.refl _ _⟩
  case round =>
    obtain ⟨k, r, hkr, hrm, rfl, rfl, ⟨pre, hpre, hJs⟩, hkp⟩ := hrel
    cases r with
    | zero =>
      have HK : Hid (k = L) := by have h1 := hkr.out; have h2 := HL.out; show k = L; omega
      gi_wp2
      go_end0
      exact ⟨⟨_, rfl⟩, .inl ⟨pre, by rw [hpre.out, HK.out], hJs⟩⟩
    | succ q =>
      have hkL : k < L := by have h1 := hkr.out; have h2 := HL.out; omega
      have hq : 8 * k + (q + 1) = m := by have h1 := hkr.out; omega
      have hk62 : k < 4611686018427387904 := by omega
      obtain ⟨s, hs⟩ : ∃ s : Nat, s = m - 8 * (k + 1) := ⟨_, rfl⟩
      have hs1 : max ((q : Int) + 1 - 8) 0 = (s : Int) := by omega
      have hs2 : s < q + 1 := by omega
      have hs3 : q + 1 - s ≤ 8 := by omega
      have HS : Hid (s = m - 8 * (k + 1)) := hs
      clear hs
      obtain ⟨b, off, rfl, _⟩ := HNUM.out 0 (by omega)
      have hrow := HROW.out.part hs2 hrm
      have hG := nGet (some ⟨b, off + s, none⟩) (q + 1 - s) (cap - s) _ wr (hkp.row (fun b' hb hp => by cases hb; exact hSv b rfl (by omega)) hrow) ((hd.drop s).take _) hs3
      have hw : bev ((bs.drop s).take (q + 1 - s)) = g k := by
        rw [← hg.out, ← word_of_bytes hd k (by have := hN.out; omega), hN.out, ← HS.out, show m - 8 * k = q + 1 by omega]
      rw [hw] at hG
      have hbox := (hkp.cell (p := ⟨Bs, 0, none⟩) hS).trans hBs
      have hlen : pre.length < L := by
        have := congrArg List.length hpre.out
        rw [List.length_map, List.length_range] at this
        omega
      obtain ⟨fn, tmps, assign, body, hy, hR⟩ := hY pre ⟨k, hkL⟩ wr hJs hlen
      dsimp only at hy
      clear hw hrow HNUM hq
      gi_wp2_with fail
      refine ⟨trivial, ?_⟩
      refine (callsIn_wide.2 hG).mono ?_
      rintro e w' ⟨rfl, rfl⟩
      gi_wp2
      refine hR.mono ?_
      rintro e W3 (⟨rfl, hJ3, hk3⟩ | ⟨rfl, hJx3⟩)
      · gi_wp2
        go_roundw
        case rel => exact ⟨k + 1, s, ⟨hkL, HS.out⟩, by have := HS.out; omega, rfl, by go_num, ⟨pre ++ [⟨k, hkL⟩], by unfold Hid; rw [List.map_append, hpre.out, List.range_succ]; rfl, hJ3⟩, hkp.trans hk3⟩
        case measure => simp [intOf]; omega
      · gi_wp2
        refine bodyPost_ret (results_none rfl _ _ _) rfl ?_
        exact ⟨⟨_, rfl⟩, .inr ⟨_, trivial, hJx3⟩⟩

/-- wordsOfBytes: the slice is boxed; the function value holds the box. -/
theorem wobBox (ao : Option Addr) (len cap : Nat) (w : World) :
    Calls Tryz.prog 55 #[.slice ao len cap] w fun e w' => e = .returned (.func (.func 75) #[] #[.pointer (some ⟨w.heap.size, 0, none⟩)]) ∧ w' = w.alloc (.cells #[.slice ao len cap] 25) := by
  go_enter Tryz.func55, Tryz.ntmps55
  go_wp2
  go_ret
  exact ⟨rfl, rfl⟩

/-- wordsOfBytes's value, as a range over it wants it. -/
theorem wobStops (n : Nat) (hn : 1 ≤ n) (Bs L : Nat) (g : Nat → Nat) (v : Value) (bs : List Nat) (hd : Digs 256 bs) (hL : (bs.length + 7) / 8 = L) (hg : ∀ j, dig 18446744073709551616 (bev bs) j = g j) (S : Nat → Prop) (hS : S Bs) (hSv : ∀ b, v.ownBlock = some b → 0 < L → S b)
    (w : World) (hSw : ∀ k, S k → k < w.heap.size) (hBs : w.cell? ⟨Bs, 0, none⟩ = some v) (hr : Row .u8 w v bs) :
    SeqStopsK Fence.wide n Tryz.prog 75 #[.pointer (some ⟨Bs, 0, none⟩)] (fun x : Fin L => #[Value.int .i64 (x.val : Nat), Value.int .u64 (g x.val : Nat)]) (KeepB S) (fun ys => ys.map Fin.val = List.range L) (fun _ => True) L w := fun l J Jx W hW _ _ hY h0 => by
  have hk : KeepB S w W := fun k hk => hW.block k (hSw k hk)
  exact wob1 n hn l Bs L g v bs hd hL hg S hS hSv J Jx hY W ((hk.cell (p := ⟨Bs, 0, none⟩) hS).trans hBs) (hk.row (fun b hb hp => hSv b hb (by omega)) hr) h0

end Go.Proofs.YtldbfcifoijliaaGreatDoor


/- Package nat: Of: any bytes as a number of a length, or refused. -/
namespace Go.Proofs.YtldbfcifoijliaaGreatDoor
open Go.RowKit Go.Shelf

attribute [local go_sem] Oper.semAt_some

theorem bev_drop {bs : List Nat} {k : Nat} (hk : k ≤ bs.length) (hz : ∀ i, i < k → bs.getD i 0 = 0) : bev (bs.drop k) = bev bs := by
  have h : bev (bs.take k) = 0 := by
    have hall : ∀ d ∈ bs.take k, d = 0 := by
      intro d hd
      obtain ⟨i, hi, rfl⟩ := List.mem_iff_getElem.1 hd
      have hik : i < k := by rw [List.length_take] at hi; omega
      have := hz i hik
      rw [List.getD_eq_getElem?_getD, List.getElem?_eq_getElem (by omega)] at this
      simpa using this
    have : ∀ l : List Nat, (∀ d ∈ l, d = 0) → bev l = 0 := by
      intro l
      induction l with
      | nil => intro _; rfl
      | cons x m ih =>
        intro h
        have e := bev_append [x] m
        rw [List.singleton_append] at e
        rw [e, ih (fun d hd => h d (by simp [hd])), show bev [x] = x by simp [bev], h x (by simp), Nat.zero_mul]
    exact this _ hall
  have e := bev_append (bs.take k) (bs.drop k)
  rw [List.take_append_drop, h, Nat.zero_mul, Nat.zero_add] at e
  exact e.symm

/-- Bytes with none that is 0 ahead: how many words they need. -/
theorem words_bytes {bs : List Nat} (hd : Digs 256 bs) (hne : bs.length = 0 ∨ bs.getD 0 0 ≠ 0) (m : Nat) : wordsN (bev bs) ≤ m ↔ bs.length ≤ 8 * m := by
  rw [wordsN_le]
  have hp : (18446744073709551616 : Nat) ^ m = 256 ^ (8 * m) := by rw [Nat.pow_mul]
  rw [hp]
  constructor
  · intro h
    rcases hne with h0 | h0
    · omega
    · cases bs with
      | nil => simp
      | cons x t =>
        have hx : x ≠ 0 := by simpa using h0
        have e := bev_append [x] t
        rw [List.singleton_append, show bev [x] = x by simp [bev]] at e
        have h1 : 1 * 256 ^ t.length ≤ x * 256 ^ t.length := Nat.mul_le_mul_right _ (by omega)
        have h2 : (256 : Nat) ^ t.length < 256 ^ (8 * m) := by omega
        have := (Nat.pow_lt_pow_iff_right (by omega : 1 < 256)).1 h2
        simp only [List.length_cons]
        omega
  · intro h
    exact Nat.lt_of_lt_of_le (bev_lt hd) (Nat.pow_le_pow_right (by omega) h)

/-- Which words have been put: those that came. -/
def Put (g : Nat → Nat) (L n : Nat) (pre : List (Fin L)) (zs : List Nat) : Prop := zs.length = n ∧ ∀ j, zs.getD j 0 = if j ∈ pre.map Fin.val then g j else 0

theorem Put.step {g : Nat → Nat} {L n : Nat} {pre : List (Fin L)} {zs : List Nat} (h : Put g L n pre zs) (x : Fin L) (hx : x.val < n) : Put g L n (pre ++ [x]) (zs.set x.val (g x.val)) := by
  refine ⟨by rw [List.length_set]; exact h.1, fun j => ?_⟩
  rw [List.getD_eq_getElem?_getD, List.getElem?_set, List.map_append]
  by_cases e : x.val = j
  · subst e
    simp [h.1, hx]
  · rw [if_neg e, ← List.getD_eq_getElem?_getD, h.2 j]
    have : ¬ j = x.val := fun h => e h.symm
    simp [this]

theorem Put.all {g : Nat → Nat} {L n V : Nat} {pre : List (Fin L)} {zs : List Nat} (h : Put g L n pre zs) (hp : pre.map Fin.val = List.range L) (hg : ∀ j, dig 18446744073709551616 V j = g j) (hV : wordsN V ≤ L) : zs = digs 18446744073709551616 V n := by
  apply List.ext_getElem
  · rw [h.1, digs_length]
  · intro i h1 h2
    have e := h.2 i
    rw [hp, List.getD_eq_getElem?_getD, List.getElem?_eq_getElem h1, Option.getD_some] at e
    have e2 := digs_getD 18446744073709551616 V n i (by rw [← h.1]; exact h1)
    rw [List.getD_eq_getElem?_getD, List.getElem?_eq_getElem h2, Option.getD_some] at e2
    rw [e, e2]
    by_cases hi : i < L
    · rw [if_pos (by simpa using hi), hg]
    · rw [if_neg (by simpa using hi)]
      unfold dig
      rw [Nat.div_eq_of_lt ((wordsN_le V i).1 (by omega)), Nat.zero_mod]

end Go.Proofs.YtldbfcifoijliaaGreatDoor

