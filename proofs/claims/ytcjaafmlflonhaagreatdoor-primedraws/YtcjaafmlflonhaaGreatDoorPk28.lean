/- Put together of: Scr1 Scr2 Bev1 Scr3. -/
import Derived.Test.YtcjaafmlflonhaaGreatDoorPk15
import Derived.Test.YtcjaafmlflonhaaGreatDoorPk27
import Derived.BigRegion

/- The plain side of layer 15 (package sconceref15): a script in memory; Read. -/
namespace Go.Proofs.YtcjaafmlflonhaaGreatDoor
open Go.RowKit

/-- A script at block b: the slice v that it holds, and its bytes. -/
def Scr (w : World) (b : Nat) (v : Value) (bs : List Nat) : Prop :=
  w.heap[b]? = some (.cells #[v] 29 (0, 0)) ∧ Row .u8 w v bs ∧ (bs ≠ [] → ∀ x, v.ownBlock = some x → x ≠ b)

theorem Scr.lt {w : World} {b : Nat} {v : Value} {bs : List Nat} (h : Scr w b v bs) : b < w.heap.size := lt_of_block h.1

theorem Scr.cell {w : World} {b : Nat} {v : Value} {bs : List Nat} (h : Scr w b v bs) : w.cell? ⟨b, 0, none⟩ = some v := by
  rw [cell_of_row w b 0 _ _ _ h.1]
  rfl

theorem Scr.free {w : World} {b : Nat} {v : Value} {bs : List Nat} (h : Scr w b v bs) : w.frozen? ⟨b, 0, none⟩ = false := by simp [World.frozen?, h.1]

theorem Scr.kept {S : Nat → Prop} {w w' : World} {b : Nat} {v : Value} {bs : List Nat} (h : Scr w b v bs) (k : Kept S w w') (hb : ¬ S b) (hs : bs ≠ [] → ∀ x, v.ownBlock = some x → ¬ S x) : Scr w' b v bs :=
  ⟨(k.block b h.lt hb).trans h.1, h.2.1.kept' k hs, h.2.2⟩

theorem Scr.grew {w w' : World} {b : Nat} {v : Value} {bs : List Nat} (h : Scr w b v bs) (k : Kept Nought w w') : Scr w' b v bs := h.kept k (fun f => f) (fun _ _ _ f => f)

theorem Scr.put {w : World} {b : Nat} {v : Value} {bs : List Nat} (h : Scr w b v bs) (u : Value) (zs : List Nat) (hr : Row .u8 w u zs) (hs : zs ≠ [] → ∀ x, u.ownBlock = some x → x ≠ b) : Scr (w.setCell ⟨b, 0, none⟩ u) b u zs := by
  refine ⟨?_, hr.kept' ((Kept.refl (fun x => x = b) w).setCell ⟨b, 0, none⟩ (fun _ => rfl) u) hs, hs⟩
  have := heap_setCell_same w b 0 _ 29 u h.1
  rw [this]
  rfl

/-- A script at block b that has the bytes bs left; it and they lie below block B. -/
def ScrAt (w : World) (b B : Nat) (bs : List Nat) : Prop := ∃ v, Scr w b v bs ∧ b < B ∧ (bs ≠ [] → ∀ x, v.ownBlock = some x → x < B)

theorem ScrAt.lt {w : World} {b B : Nat} {bs : List Nat} (h : ScrAt w b B bs) : b < w.heap.size := by
  obtain ⟨_, h, _⟩ := h
  exact h.lt

theorem ScrAt.kept {S : Nat → Prop} {w w' : World} {b B : Nat} {bs : List Nat} (h : ScrAt w b B bs) (k : Kept S w w') (hs : ∀ x, x < B → ¬ S x) : ScrAt w' b B bs := by
  obtain ⟨v, h, hb, hx⟩ := h
  exact ⟨v, h.kept k (hs b hb) (fun e x hv => hs x (hx e x hv)), hb, hx⟩

theorem ScrAt.grew {w w' : World} {b B : Nat} {bs : List Nat} (h : ScrAt w b B bs) (k : Kept Nought w w') : ScrAt w' b B bs := h.kept k fun _ _ f => f

/-- The part of a slice behind its first n. -/
theorem row_rest {k : IntKind} {w : World} {ad : Addr} {L cap n : Nat} {zs : List Nat} (h : Row k w (.slice (some ad) L cap) zs) (hn : n ≤ L) : Row k w (.slice (some (ad.add n)) (L - n) (cap - n)) (zs.drop n) := by
  obtain ⟨ao, cap', e, c1, c2, _, h4⟩ := h
  cases e
  have hl : (zs.drop n).length = zs.length - n := List.length_drop ..
  refine ⟨_, _, by rw [hl], by omega, by omega, (fun e => by cases e), fun i hi => ?_⟩
  rw [hl] at hi
  obtain ⟨b, off, e, hc⟩ := h4 (n + i) (by omega)
  cases e
  refine ⟨b, off + n, ?_, ?_⟩
  · unfold Addr.add
    split <;> simp_all
  · rw [Nat.add_assoc, hc, List.getD_eq_getElem?_getD, List.getD_eq_getElem?_getD, List.getElem?_drop]

theorem own_add (ad : Addr) (n L cap L' cap' : Nat) : (Value.slice (some (ad.add n)) L cap).ownBlock = (Value.slice (some ad) L' cap').ownBlock := by
  show some (ad.add n).block = some ad.block
  unfold Addr.add
  split <;> rfl

/-- What Read answers: the error, the bytes, what is left. -/
def readE (bs : List Nat) (n : Int) : Nat := if n < 0 then 1 else if (bs.length : Int) < n then 150 else 0
def readL (bs : List Nat) (n : Int) : List Nat := if readE bs n = 0 then bs.take n.toNat else []
def readR (bs : List Nat) (n : Int) : List Nat := if n < 0 then bs else bs.drop n.toNat

set_option maxRecDepth 20000 in
set_option maxHeartbeats 1000000 in
/-- Read. -/
theorem r15Read (b B : Nat) (bs : List Nat) (n : Int) (w : World) (h : ScrAt w b B bs) (hl : bs.length ≤ 1000001) :
    Calls Tryz.prog 23 #[.pointer (some ⟨b, 0, none⟩), .int .i64 n] w fun e w' => ∃ u, e = .returned (.tuple #[u, .int .i64 (readE bs n : Nat)]) ∧ OwnB w' w.heap.size u (readL bs n) ∧ ScrAt w' b B (readR bs n) ∧ Kept (fun x => x = b) w w' := by
  obtain ⟨v, h, hB, hBx⟩ := h
  have HBX := toHid hBx
  clear hBx
  have hc := h.cell
  have hf := h.free
  have H := toHid h
  obtain ⟨ao, L, cap, rfl, hL, hLc, hcm, hnn, hnum⟩ := h.2.1.open
  have hLb : L ≤ 1000001 := by have := hL.out; omega
  by_cases h1 : n < 0
  · have e1 : readE bs n = 1 := by unfold readE; rw [if_pos h1]
    have e2 : readL bs n = [] := by unfold readL; rw [e1]; rfl
    have e3 : readR bs n = bs := by unfold readR; rw [if_pos h1]
    rw [e1, e2, e3]
    clear e1 e2 e3 h
    go_enter Tryz.func23, Tryz.ntmps23
    go_wp2_with fail
    go_ret2
    exact ⟨_, rfl, OwnB.nil _ _, ⟨_, H.out, hB, HBX.out⟩, Kept.refl _ _⟩
  · obtain ⟨m, rfl⟩ := Int.eq_ofNat_of_zero_le (show 0 ≤ n by omega)
    by_cases h2 : L < m
    · have e1 : readE bs (m : Int) = 150 := by unfold readE; rw [if_neg h1, if_pos (by have := hL.out; omega)]
      have e2 : readL bs (m : Int) = [] := by unfold readL; rw [e1]; rfl
      have e3 : readR bs (m : Int) = [] := by unfold readR; rw [if_neg h1]; exact List.drop_eq_nil_of_le (by have := hL.out; simp; omega)
      rw [e1, e2, e3]
      have g1 : (m : Int) > (L : Int) := by omega
      have g2 : (L : Int) < (m : Int) := by omega
      have HP := toHid (H.out.put (.slice none 0 0) [] (Row.nil _ _) (fun e => absurd rfl e))
      have HK := toHid ((Kept.refl (fun x => x = b) w).setCell ⟨b, 0, none⟩ (fun _ => rfl) (.slice none 0 0))
      clear e1 e2 e3 h
      go_enter Tryz.func23, Tryz.ntmps23
      go_wp2_with fail
      go_ret2
      exact ⟨_, rfl, OwnB.nil _ _, ⟨_, HP.out, hB, fun e => absurd rfl e⟩, HK.out⟩
    · have e1 : readE bs (m : Int) = 0 := by unfold readE; rw [if_neg h1, if_neg (by have := hL.out; omega)]
      have e2 : readL bs (m : Int) = bs.take m := by unfold readL; rw [e1]; rfl
      have e3 : readR bs (m : Int) = bs.drop m := by unfold readR; rw [if_neg h1]; rfl
      rw [e1, e2, e3]
      have g1 : ¬ (m : Int) > (L : Int) := by omega
      have g2 : ¬ (L : Int) < (m : Int) := by omega
      have g3 : (m : Int) ≤ (cap : Int) := by omega
      have g4 : m ≤ cap := by omega
      have g5 : m ≤ L := by omega
      have g6 : (0 : Int) ≤ (m : Int) := by omega
      have g7 : (m : Int) ≤ (L : Int) := by omega
      have hcut := h.2.1.cut (m := m) (by rw [hL.out]; exact g5)
      have HCUT := toHid hcut
      clear e1 e2 e3 h hcut
      cases ao with
      | none =>
        obtain rfl := hnn rfl
        obtain rfl : L = 0 := by omega
        obtain rfl : m = 0 := by omega
        obtain rfl : bs = [] := List.length_eq_zero_iff.1 hL.out
        have HP := toHid (H.out.put (.slice none 0 0) [] (Row.nil _ _) (fun e => absurd rfl e))
        have HK := toHid ((Kept.refl (fun x => x = b) w).setCell ⟨b, 0, none⟩ (fun _ => rfl) (.slice none 0 0))
        go_enter Tryz.func23, Tryz.ntmps23
        go_wp2_with fail
        go_ret2
        exact ⟨_, rfl, OwnB.nil _ _, ⟨_, HP.out, hB, fun e => absurd rfl e⟩, HK.out⟩
      | some ad =>
        have hrest := row_rest (n := m) H.out.2.1 g5
        have hlt : (bs.take m).length ≤ 1000001 := by rw [List.length_take]; omega
        have HREST := toHid hrest
        clear hrest
        go_enter Tryz.func23, Tryz.ntmps23
        go_wp2_with (at_builtin; refine wpList_append_row rfl _ _ rfl w.heap.size _ [] rfl (OwnB.nil _ _) _ rfl (bs.take m) HCUT.out (by simp; omega) (Nat.le_refl _) ?_)
        intro v1 w1 ho1 hg1
        have k1 : Kept Nought w w1 := (Kept.refl Nought w).grown hg1 (fun k hk hlt => by cases hk)
        have H1 := toHid (H.out.grew k1)
        have hc1 := H1.out.cell
        have hf1 := H1.out.free
        have HO1 := toHid ho1
        have HK1 := toHid k1
        have hbw : b < w.heap.size := H.out.lt
        have HOB := toHid fun u => ho1.kept ((Kept.refl (fun x => x = b) w1).setCell ⟨b, 0, none⟩ (fun _ => rfl) u) (fun x hx e => by
          have e' : x = b := e
          omega)
        have HKB := toHid fun u => (k1.any (S := fun x => x = b)).next ((Kept.refl (fun x => x = b) w1).setCell ⟨b, 0, none⟩ (fun _ => rfl) u) (fun x _ h => h)
        have hsep := H.out.2.2
        clear ho1 hg1 k1 hc hf H HCUT HO1
        by_cases hcmm : cap = m
        · subst hcmm
          obtain rfl : L = cap := by omega
          have ed : bs.drop L = [] := List.drop_eq_nil_of_le (by rw [hL.out]; exact Nat.le_refl _)
          have HP := toHid (H1.out.put (.slice (some ad) 0 0) [] ⟨_, _, rfl, Nat.zero_le _, by unfold maxLen; omega, (fun _ => rfl), fun i hi => absurd hi (by simp)⟩ (fun e => absurd rfl e))
          have HED := toHid ed
          clear ed
          go_wp2_with fail
          go_ret2
          exact ⟨_, rfl, HOB.out _, by rw [HED.out]; exact ⟨_, HP.out, hB, fun e => absurd rfl e⟩, HKB.out _⟩
        · have HP := toHid (H1.out.put _ _ (HREST.out.grew HK1.out) (fun e x hx => hsep (fun e2 => e (by rw [e2]; exact List.drop_nil)) x (by rw [← hx]; exact (own_add ad m _ _ _ _).symm)))
          clear hsep
          go_wp2_with fail
          go_ret2
          exact ⟨_, rfl, HOB.out _, ⟨_, HP.out, hB, fun e x hx => HBX.out (fun e2 => e (by rw [e2]; exact List.drop_nil)) x (by rw [← hx]; exact (own_add ad m _ _ _ _).symm)⟩, HKB.out _⟩

/-- The first n bytes that are not 0, what is left, whether there were so many. -/
def filN : List Nat → Nat → List Nat × List Nat × Bool
  | bs, 0 => ([], bs, true)
  | [], _ + 1 => ([], [], false)
  | x :: bs, n + 1 => if x = 0 then filN bs (n + 1) else (x :: (filN bs n).1, (filN bs n).2)

/-- Filled's state while it goes on: acc is found, rest is left. -/
def FilS (bs : List Nat) (n : Nat) (acc rest : List Nat) : Prop := acc.length ≤ n ∧ filN bs n = (acc ++ (filN rest (n - acc.length)).1, (filN rest (n - acc.length)).2)

theorem FilS.start (bs : List Nat) (n : Nat) : FilS bs n [] bs := ⟨Nat.zero_le _, by simp⟩

theorem FilS.none {bs acc rest : List Nat} {n : Nat} (h : FilS bs n acc (0 :: rest)) (hn : acc.length < n) : FilS bs n acc rest := by
  obtain ⟨d, hd⟩ : ∃ d, n - acc.length = d + 1 := ⟨n - acc.length - 1, by omega⟩
  refine ⟨h.1, ?_⟩
  rw [h.2, hd]
  rfl

theorem FilS.one {bs acc rest : List Nat} {n x : Nat} (h : FilS bs n acc (x :: rest)) (hn : acc.length < n) (hx : x ≠ 0) : FilS bs n (acc ++ [x]) rest := by
  obtain ⟨d, hd⟩ : ∃ d, n - acc.length = d + 1 := ⟨n - acc.length - 1, by omega⟩
  refine ⟨by rw [List.length_append]; simp; omega, ?_⟩
  have e : n - (acc ++ [x]).length = d := by rw [List.length_append]; simp; omega
  have e2 : filN (x :: rest) (d + 1) = (x :: (filN rest d).1, (filN rest d).2) := by
    rw [filN, if_neg hx]
  rw [h.2, hd, e, e2]
  simp

theorem FilS.spent {bs acc : List Nat} {n : Nat} (h : FilS bs n acc []) (hn : acc.length < n) : (filN bs n).2 = ([], false) := by
  obtain ⟨d, hd⟩ : ∃ d, n - acc.length = d + 1 := ⟨n - acc.length - 1, by omega⟩
  rw [h.2, hd]
  rfl

theorem FilS.done {bs acc rest : List Nat} {n : Nat} (h : FilS bs n acc rest) (hn : ¬ acc.length < n) : filN bs n = (acc, rest, true) := by
  have := h.1
  have e : filN rest 0 = ([], rest, true) := by cases rest <;> rfl
  rw [h.2, show n - acc.length = 0 by omega, e]
  simp

end Go.Proofs.YtcjaafmlflonhaaGreatDoor


/- The plain side of layer 15: Filled. -/
namespace Go.Proofs.YtcjaafmlflonhaaGreatDoor
open Go.RowKit

/-- How many bytes the script at b has left. -/
def scrLen (b : Nat) (w : World) : Nat := match w.cell? ⟨b, 0, none⟩ with
  | some v => sliceLen v
  | none => 0

theorem ScrAt.len {w : World} {b B : Nat} {bs : List Nat} (h : ScrAt w b B bs) : scrLen b w = bs.length := by
  obtain ⟨v, h, _⟩ := h
  unfold scrLen
  rw [h.cell]
  obtain ⟨_, _, e, _⟩ := h.2.1
  rw [e]
  rfl

/-- A byte further: the slice, whether it was the last of its room or not. -/
theorem Scr.next {w : World} {b sb soff L cap x B : Nat} {r : List Nat} (h : Scr w b (.slice (some ⟨sb, soff, none⟩) L cap) (x :: r)) (hB : b < B) (hx : sb < B) :
    (cap = 1 → ScrAt (w.setCell ⟨b, 0, none⟩ (.slice (some ⟨sb, soff, none⟩) 0 0)) b B r) ∧ (cap ≠ 1 → ScrAt (w.setCell ⟨b, 0, none⟩ (.slice (some ⟨sb, soff + 1, none⟩) (L - 1) (cap - 1))) b B r) := by
  obtain ⟨_, _, _, e, hL, hc, _⟩ := h.2.1.open
  cases e
  have hL' : r.length + 1 = L := hL.out
  constructor
  · intro e
    obtain rfl : r = [] := List.length_eq_zero_iff.1 (by omega)
    exact ⟨_, h.put _ [] ⟨_, _, rfl, Nat.zero_le _, by unfold maxLen; omega, (fun _ => rfl), fun i hi => absurd hi (by simp)⟩ (fun e => absurd rfl e), hB, fun e => absurd rfl e⟩
  · intro e
    have hr := row_rest (n := 1) h.2.1 (by omega)
    rw [show ((⟨sb, soff, none⟩ : Addr).add 1) = ⟨sb, soff + 1, none⟩ from rfl] at hr
    exact ⟨_, h.put _ _ hr (fun _ y hy => h.2.2 (by simp) y hy), hB, fun _ y hy => by cases hy; exact hx⟩

end Go.Proofs.YtcjaafmlflonhaaGreatDoor


/- Bytes as numbers: lengths and bounds. -/
namespace Go.Proofs.YtcjaafmlflonhaaGreatDoor
open Go.RowKit

theorem bev_foldB (m : List Nat) : ∀ a, m.foldl (fun a b => a * 256 + b) a = a * 256 ^ m.length + bev m := by
  unfold bev
  induction m with
  | nil => intro a; simp
  | cons x m ih =>
    intro a
    rw [List.foldl_cons, ih, List.foldl_cons, ih (0 * 256 + x), List.length_cons, Nat.pow_succ]
    simp only [Nat.zero_mul, Nat.zero_add, Nat.add_mul, Nat.mul_assoc, Nat.add_assoc, Nat.mul_comm 256]

theorem bev_appendB (l m : List Nat) : bev (l ++ m) = bev l * 256 ^ m.length + bev m := by
  show (l ++ m).foldl _ 0 = _
  rw [List.foldl_append, bev_foldB]
  rfl

theorem bev_ltB {l : List Nat} (h : Digs 256 l) : bev l < 256 ^ l.length := by
  induction l with
  | nil => simp [bev]
  | cons x m ih =>
    have e := bev_appendB [x] m
    rw [List.singleton_append] at e
    have hx := h.head
    have hm := ih h.tail
    rw [e, List.length_cons, Nat.pow_succ]
    have : (x + 1) * 256 ^ m.length ≤ 256 * 256 ^ m.length := Nat.mul_le_mul_right _ hx
    rw [Nat.add_mul, Nat.one_mul] at this
    have e2 : bev [x] = x := by simp [bev]
    rw [e2, Nat.mul_comm (256 ^ m.length)]
    omega

theorem bev_dlen {l : List Nat} (h : Digs 256 l) : dlen (bev l) ≤ l.length := by
  rw [dlen_le]
  exact Nat.lt_of_lt_of_le (bev_ltB h) (Nat.pow_le_pow_left (by omega) _)

theorem blen_val {xs : List Nat} (h : Digs 18446744073709551616 xs) : blen (val 18446744073709551616 xs) ≤ 64 * xs.length := by
  rw [blen_le, Nat.pow_mul]
  exact val_lt (by omega) h

theorem dlenVal {xs : List Nat} (h : Digs 18446744073709551616 xs) : dlen (val 18446744073709551616 xs) ≤ 2 * xs.length := by
  rw [dlen_le, Nat.pow_mul]
  exact val_lt (by omega) h

end Go.Proofs.YtcjaafmlflonhaaGreatDoor


/- The plain side of layer 15: Below. -/
namespace Go.Proofs.YtcjaafmlflonhaaGreatDoor
open Go.RowKit

/-- Draws of z bytes, cut to t bits, until one is above 0 and below M: the number (0: there is none), how many draws, what is left. -/
def belF (M t z : Nat) : Nat → List Nat → Nat → Nat × Nat × List Nat
  | 0, _, _ => (0, 0, [])
  | f + 1, bs, k => if bs.length < z then (0, 0, []) else if 0 < bev (bs.take z) % 2 ^ t ∧ bev (bs.take z) % 2 ^ t < M then (bev (bs.take z) % 2 ^ t, k, bs.drop z) else belF M t z f (bs.drop z) (k + 1)

def belN (M : Nat) (bs : List Nat) : Nat × Nat × List Nat := belF M (blen M) ((blen M + 7) / 8) (bs.length + 1) bs 1

theorem belF_lt (M t z : Nat) (hM : 0 < M) : ∀ f bs k, (belF M t z f bs k).1 < M
  | 0, _, _ => hM
  | f + 1, bs, k => by
    unfold belF
    split
    · exact hM
    · split
      · next h => exact h.2
      · exact belF_lt M t z hM f _ _

theorem belF_rest (M t z : Nat) : ∀ f bs k, ∃ n, (belF M t z f bs k).2.2 = bs.drop n
  | 0, bs, _ => ⟨bs.length, by rw [List.drop_length]; rfl⟩
  | f + 1, bs, k => by
    unfold belF
    split
    · exact ⟨bs.length, by rw [List.drop_length]⟩
    · split
      · exact ⟨z, rfl⟩
      · obtain ⟨n, hn⟩ := belF_rest M t z f (bs.drop z) (k + 1)
        exact ⟨z + n, by rw [hn, List.drop_drop]⟩

/-- What Below answers of a number of the words xs. -/
def belE (xs bs : List Nat) : Nat := if 300 < xs.length then 2 else if val 18446744073709551616 xs < 2 then 1 else if (belN (val 18446744073709551616 xs) bs).1 = 0 then 150 else 0
def belX (xs bs : List Nat) : List Nat := if belE xs bs = 0 then digs 18446744073709551616 (belN (val 18446744073709551616 xs) bs).1 xs.length else []
def belK (xs bs : List Nat) : Nat := if belE xs bs = 0 then (belN (val 18446744073709551616 xs) bs).2.1 else 0
def belR (xs bs : List Nat) : List Nat := if 300 < xs.length ∨ val 18446744073709551616 xs < 2 then bs else (belN (val 18446744073709551616 xs) bs).2.2

set_option maxRecDepth 20000 in
set_option maxHeartbeats 1000000 in
/-- Below, of a number that is too long or too small. -/
theorem r15BelowBad (b B : Nat) (bs xs : List Nat) (v : Value) (w : World) (h : ScrAt w b B bs) (hv : Row .u64 w v xs) (hd : Digs 18446744073709551616 xs) (hl : xs.length ≤ 1000000) (hbad : 300 < xs.length ∨ val 18446744073709551616 xs < 2) :
    Calls Tryz.prog 54 #[.pointer (some ⟨b, 0, none⟩), v] w fun e w' => e = .returned (.tuple #[.slice none 0 0, .int .i64 0, .int .i64 (belE xs bs : Nat)]) ∧ ScrAt w' b B bs ∧ Kept Nought w w' := by
  have H := toHid h
  have J := toHid fun W (k : Kept Nought w W) => rOf v xs W (hv.grew k) hd (by omega)
  obtain ⟨ao, L, cap, rfl, hL, hLc, hcm, _, _⟩ := hv.open
  have hLb : L ≤ 1000000 := by have := hL.out; omega
  clear h hv hd
  by_cases h1 : 300 < L
  · have e1 : belE xs bs = 2 := by unfold belE; rw [hL.out, if_pos h1]
    rw [e1]
    have g1 : (L : Int) > 300 := by omega
    have g2 : (300 : Int) < (L : Int) := by omega
    clear e1 hbad J
    go_enter Tryz.func54, Tryz.ntmps54
    go_wp2_with fail
    refine bodyPost_ret (v := .tuple #[.slice none 0 0, .int .i64 0, .int .i64 2]) (by simp [results, Tryz.results54, go_sem]) rfl ?_
    exact ⟨rfl, H.out, Kept.refl _ _⟩
  · have hV : val 18446744073709551616 xs < 2 := by
      have := hL.out
      rcases hbad with h | h
      · omega
      · exact h
    have e1 : belE xs bs = 1 := by unfold belE; rw [hL.out, if_neg h1, if_pos hV]
    rw [e1]
    have g1 : ¬ (L : Int) > 300 := by omega
    have g2 : ¬ (300 : Int) < (L : Int) := by omega
    generalize val 18446744073709551616 xs = V at *
    have hcmp : cmpN V 2 = -1 := cmpN_lt hV
    have HC := toHid hcmp
    clear e1 hbad hV hcmp
    go_enter Tryz.func54, Tryz.ntmps54
    go_wp2_with fail
    refine (J.out _ (Kept.refl _ _)).mono ?_
    rintro e w1 ⟨v1, rfl, hb1, f1, k1⟩
    have J2 := toHid (rSmall 2 (by omega) w1)
    have HB1 := toHid hb1
    have HK1 := toHid k1
    clear hb1 f1 k1 J
    go_wp2_with fail
    refine J2.out.mono ?_
    rintro e w2 ⟨v2, rfl, hb2, f2, k2⟩
    have J3 := rCmp v1 v2 V 2 w2 (HB1.out.grew k2) hb2
    rw [HC.out] at J3
    have J3 := toHid J3
    have HK2 := toHid (HK1.out.trans k2)
    clear hb2 f2 k2 J2
    go_wp2_with fail
    refine J3.out.mono ?_
    rintro e w3 ⟨rfl, nn, rfl⟩
    clear J3
    go_wp2_with fail
    refine bodyPost_ret (v := .tuple #[.slice none 0 0, .int .i64 0, .int .i64 1]) (by simp [results, Tryz.results54, go_sem]) rfl ?_
    exact ⟨rfl, H.out.grew (HK2.out.drewN nn), HK2.out.drewN nn⟩

end Go.Proofs.YtcjaafmlflonhaaGreatDoor

