/- Bytes as words: word.Get on at most eight bytes; noughts ahead cut off (bytes.TrimLeft); the words of bytes, the lowest ahead, as a range over a function hands them out (wordsOfBytes). -/
import Derived.Test.YtcjaafmlflonhaaGreatDoorNatE
namespace Go.Proofs.YtcjaafmlflonhaaGreatDoor
open Go.RowKit Go.Shelf

attribute [local go_sem] Oper.semAt_some

theorem or_byteN (x y : Nat) (hx : x < 72057594037927936) (hy : y < 256) : bits .or .u64 ((x : Int) * 256) (y : Int) = ((x * 256 + y : Nat) : Int) := by
  have h := u64_or_nat (x * 256) y (by omega) (by omega)
  rw [nat_join 8 (x * 256) y (by omega) (by omega)] at h
  rw [show (x : Int) * 256 = ((x * 256 : Nat) : Int) by omega, h]

theorem bev_fold (m : List Nat) : ∀ a, m.foldl (fun a b => a * 256 + b) a = a * 256 ^ m.length + bev m := by
  unfold bev
  induction m with
  | nil => intro a; simp
  | cons x m ih =>
    intro a
    rw [List.foldl_cons, ih, List.foldl_cons, ih (0 * 256 + x), List.length_cons, Nat.pow_succ]
    simp only [Nat.zero_mul, Nat.zero_add, Nat.add_mul, Nat.mul_assoc, Nat.add_assoc, Nat.mul_comm 256]

theorem bev_append (l m : List Nat) : bev (l ++ m) = bev l * 256 ^ m.length + bev m := by
  show (l ++ m).foldl _ 0 = _
  rw [List.foldl_append, bev_fold]
  rfl

theorem bev_lt {l : List Nat} (h : Digs 256 l) : bev l < 256 ^ l.length := by
  induction l with
  | nil => simp [bev]
  | cons x m ih =>
    have e := bev_append [x] m
    rw [List.singleton_append] at e
    have hx := h.head
    have hm := ih h.tail
    rw [e, List.length_cons, Nat.pow_succ]
    have : (x + 1) * 256 ^ m.length ≤ 256 * 256 ^ m.length := Nat.mul_le_mul_right _ hx
    rw [Nat.add_mul, Nat.one_mul] at this
    have e2 : bev [x] = x := by simp [bev]
    rw [e2, Nat.mul_comm (256 ^ m.length)]
    omega

set_option maxHeartbeats 400000 in
/-- word.Get, on at most eight bytes. -/
theorem nGet (ao : Option Addr) (len cap : Nat) (bs : List Nat) (w : World) (h : Row .u8 w (.slice ao len cap) bs) (hd : Digs 256 bs) (hl : len ≤ 8) :
    Calls Tryz.prog 103 #[.slice ao len cap] w fun e w' => e = .returned (.int .u64 (bev bs : Nat)) ∧ w' = w := by
  obtain ⟨ao', len', cap', e, hL, _, _, _, hnum⟩ := h.open
  cases e
  have HR : Hid (∀ i, i < len → NumAt .u8 w ao bs i) := hnum
  clear hnum h
  have hn' : min (len : Int) 8 = (len : Int) := by omega
  have hall : bs.take len = bs := by rw [List.take_of_length_le]; have := hL.out; omega
  have HA : Hid (bev (bs.take len) = bev bs) := congrArg bev hall
  clear hall
  go_enter Tryz.func103, Tryz.ntmps103
  go_wp2_with fail
  go_loop [3, 8] (fun x i => ∃ k : Nat, k ≤ len ∧ i = .int .i64 (k : Int) ∧ ∃ t : Nat, Hid (t = bev (bs.take k)) ∧ x = .int .u64 (t : Int)) (fun _ i => ((len : Int) - intOf i).toNat)
  case atStart => exact ⟨0, by omega, rfl, 0, by simp [Hid, bev], rfl⟩
  case round =>
    obtain ⟨k, hk, rfl, t, ht, rfl⟩ := hrel
    by_cases hp : k < len
    · obtain ⟨b, off, rfl, hc⟩ := HR.out k hp
      have hz : bs.getD k 0 < 256 := hd.getD (by omega) k
      have htb : t < 72057594037927936 := by
        rw [ht.out]
        have h1 := bev_lt (hd.take k)
        have h2 : (256 : Nat) ^ (bs.take k).length ≤ 256 ^ 7 := Nat.pow_le_pow_right (by omega) (by rw [List.length_take]; omega)
        omega
      have hs : Hid (bev (bs.take (k + 1)) = t * 256 + bs.getD k 0) := by
        unfold Hid
        rw [ht.out]
        exact bev_take_succ (by have := hL.out; omega)
      generalize bs.getD k 0 = z at *
      have hor := or_byteN t z htb hz
      go_wp2_with fail
      go_round
      case rel => exact ⟨k + 1, by omega, by go_num, t * 256 + z, hs.out.symm, rfl⟩
      case measure => simp [intOf]; omega
    · obtain rfl : k = len := by omega
      go_wp2_with fail
      go_ret
      have hfin := ht.out.trans HA.out
      exact ⟨by rw [hfin]; rfl, rfl⟩

/-- The slice behind its first element. -/
theorem Row.tail {k : IntKind} {w : World} {b off m cap : Nat} {z : Nat} {zs : List Nat} (h : Row k w (.slice (some ⟨b, off, none⟩) (m + 1) cap) (z :: zs)) (hc : 1 < cap) : Row k w (.slice (some ⟨b, off + 1, none⟩) m (cap - 1)) zs := by
  obtain ⟨ao, cap', e, h1, h2, _, h4⟩ := h
  cases e
  refine ⟨_, _, rfl, by simp at h1; omega, by omega, (fun e => by cases e), fun i hi => ?_⟩
  obtain ⟨b', off', e, hcell⟩ := h4 (i + 1) (by simp; omega)
  cases e
  exact ⟨b, off + 1, rfl, by rw [show off + 1 + i = off + (i + 1) by omega, hcell]; rfl⟩

theorem Row.none0 (k : IntKind) (w : World) (ao : Option Addr) (cap : Nat) (hc : cap ≤ maxLen) (hn : ao = none → cap = 0) : Row k w (.slice ao 0 cap) [] := ⟨ao, cap, rfl, Nat.zero_le _, hc, hn, fun i hi => absurd hi (by simp)⟩

set_option maxHeartbeats 800000 in
/-- bytes.trimLeftByte, noughts. -/
theorem nTrim0 (v : Value) (bs : List Nat) (w : World) (h : Row .u8 w v bs) :
    Calls Tryz.prog 98 #[v, .int .u8 0] w fun r w' => ∃ v', r = .returned v' ∧ ∃ k, Row .u8 w v' (bs.drop k) ∧ k ≤ bs.length ∧ (∀ i, i < k → bs.getD i 0 = 0) ∧ (k = bs.length ∨ bs.getD k 0 ≠ 0) ∧ (v'.ownBlock = v.ownBlock ∨ v'.ownBlock = none) ∧ w' = w := by
  obtain ⟨ob, hob⟩ : ∃ ob, ob = v.ownBlock := ⟨_, rfl⟩
  rw [← hob]
  have HOB : Hid (v.ownBlock = ob) := hob.symm
  clear hob
  obtain ⟨ao, n, cap, rfl, hL, h1, h2, h3, _⟩ := h.open
  have hr := h
  clear h
  go_enter Tryz.func98, Tryz.ntmps98
  go_wp2_with fail
  go_loop [0] (fun a => ∃ k, Hid (k ≤ bs.length ∧ Row .u8 w a (bs.drop k) ∧ (∀ i, i < k → bs.getD i 0 = 0) ∧ a.ownBlock = ob)) (fun a => lenV a)
  case atStart => exact ⟨0, Nat.zero_le _, by simpa using hr, fun i hi => by omega, HOB.out⟩
  case round =>
    obtain ⟨k, hk⟩ := hrel
    obtain ⟨hk1, hrow, hz, hown⟩ := hk.out
    obtain ⟨ao', m, cap', rfl, hM, g1, g2, g3, g4⟩ := hrow.open
    have HM : Hid (m = bs.length - k) := by have := hM.out; rw [List.length_drop] at this; exact this.symm
    cases m with
    | zero =>
      have hke : Hid (k = bs.length) := by have := HM.out; show k = bs.length; omega
      clear g4 hrow hr hown hz h1 h2 h3 hL hM hk1
      go_wp2
      go_ret
      obtain ⟨hk1, hrow, hz, hown⟩ := hk.out
      exact ⟨_, rfl, k, by rw [List.drop_eq_nil_of_le (by have := hke.out; omega)]; exact Row.nil _ _, hk1, hz, .inl hke.out, .inr rfl, rfl⟩
    | succ j =>
      obtain ⟨b, off, rfl, hc⟩ := g4 0 (by omega)
      rw [Nat.add_zero] at hc
      have hd0 : (bs.drop k).getD 0 0 = bs.getD k 0 := by rw [List.getD_eq_getElem?_getD, List.getElem?_drop, List.getD_eq_getElem?_getD]; rfl
      rw [hd0] at hc
      have hklt : k < bs.length := by have := HM.out; omega
      have hcons : bs.drop k = bs.getD k 0 :: bs.drop (k + 1) := by rw [List.drop_eq_getElem_cons hklt, List.getD_eq_getElem?_getD, List.getElem?_eq_getElem hklt]; rfl
      obtain ⟨z, hzz⟩ : ∃ z, z = bs.getD k 0 := ⟨_, rfl⟩
      rw [← hzz] at hc hcons
      rw [hcons] at hrow
      have HZ : Hid (z = bs.getD k 0) := hzz
      have HROW : Hid (Row .u8 w (.slice (some ⟨b, off, none⟩) (j + 1) cap') (z :: bs.drop (k + 1))) := hrow
      have HKL : Hid (k < bs.length) := hklt
      clear hzz g4 hrow hr hown hz h1 h2 h3 hL hM hk1 hd0 hcons hklt
      by_cases h0 : z = 0
      · subst h0
        have hstep : ∀ i, i < k + 1 → bs.getD i 0 = 0 := fun i hi => by
          by_cases e : i = k
          · subst e; exact HZ.out.symm
          · exact hk.out.2.2.1 i (by omega)
        have HST : Hid (∀ i, i < k + 1 → bs.getD i 0 = 0) := hstep
        clear hstep
        by_cases hcap : cap' = 1
        · obtain rfl : j = 0 := by omega
          subst hcap
          have hnil : Hid (bs.drop (k + 1) = []) := by
            show bs.drop (k + 1) = []
            rw [List.drop_eq_nil_of_le]
            have := HM.out
            omega
          go_wp2
          go_round
          case rel => exact ⟨k + 1, HKL.out, by rw [hnil.out]; exact Row.none0 _ _ _ _ (by unfold maxLen; omega) (fun e => by cases e), HST.out, hk.out.2.2.2⟩
          case measure => simp [lenV]
        · have hc1 : 1 < cap' := by omega
          have hc2 : (1 : Int) ≤ (cap' : Int) := by omega
          have hc3 : ¬ (1 : Nat) = cap' := by omega
          have hc4 : ¬ (1 : Int) = (cap' : Int) := by omega
          go_wp2
          go_round
          case rel => exact ⟨k + 1, HKL.out, HROW.out.tail hc1, HST.out, hk.out.2.2.2⟩
          case measure => simp [lenV]
      · have hz0 : ((z : Int) == 0) = false := by simp; omega
        have hz1 : ¬ ((z : Int) = 0) := by omega
        have HNE : Hid (bs.getD k 0 ≠ 0) := by rw [← HZ.out]; exact h0
        go_wp2
        go_ret
        obtain ⟨hk1, hrow, hz, hown⟩ := hk.out
        exact ⟨_, rfl, k, hrow, hk1, hz, .inr HNE.out, .inl hown, rfl⟩

set_option maxRecDepth 20000 in
set_option maxHeartbeats 800000 in
/-- bytes.TrimLeft, noughts. -/
theorem nTrim (v : Value) (bs : List Nat) (w : World) (h : Row .u8 w v bs) :
    Calls Tryz.prog 66 #[v, .string { data := #[0] }] w fun r w' => ∃ v', r = .returned v' ∧ ∃ k, Row .u8 w v' (bs.drop k) ∧ k ≤ bs.length ∧ (∀ i, i < k → bs.getD i 0 = 0) ∧ (k = bs.length ∨ bs.getD k 0 ≠ 0) ∧ (v'.ownBlock = v.ownBlock ∨ v'.ownBlock = none) ∧ w' = w := by
  have hT := nTrim0 v bs w h
  obtain ⟨ao, n, cap, rfl, hL, h1, h2, h3, _⟩ := h.open
  cases n with
  | zero =>
    have hnil : bs = [] := List.eq_nil_of_length_eq_zero hL.out
    subst hnil
    clear hT hL h
    go_enter Tryz.func66, Tryz.ntmps66
    go_wp2_with fail
    go_ret
    exact ⟨_, rfl, 0, Row.nil _ _, Nat.le_refl _, fun i hi => by omega, .inl rfl, .inr rfl, rfl⟩
  | succ j =>
    clear h
    go_enter Tryz.func66, Tryz.ntmps66
    go_wp2_with fail
    refine hT.mono ?_
    rintro e w' ⟨v', rfl, hrest⟩
    go_wp2_with fail
    go_ret
    exact ⟨v', rfl, hrest⟩

end Go.Proofs.YtcjaafmlflonhaaGreatDoor
