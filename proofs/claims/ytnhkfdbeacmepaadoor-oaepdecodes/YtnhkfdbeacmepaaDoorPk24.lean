/- Put together of: Scr1 Scr2 Cut0 Pad1 Zap0. -/
import Derived.Test.YtnhkfdbeacmepaaDoorPk4
import Derived.BigRegion
import Derived.Lib.AppendZerosOnto

/- The plain side of layer 15 (package sconceref15): a script in memory; Read. -/
namespace Go.Proofs.YtnhkfdbeacmepaaDoor
open Go.RowKit

/-- A script at block b: the slice v that it holds, and its bytes. -/
def Scr (w : World) (b : Nat) (v : Value) (bs : List Nat) : Prop :=
  w.heap[b]? = some (.cells #[v] 29 (0, 0)) ∧ Row .u8 w v bs ∧ (bs ≠ [] → ∀ x, v.ownBlock = some x → x ≠ b)

theorem Scr.lt {w : World} {b : Nat} {v : Value} {bs : List Nat} (h : Scr w b v bs) : b < w.heap.size := lt_of_block h.1

theorem Scr.cell {w : World} {b : Nat} {v : Value} {bs : List Nat} (h : Scr w b v bs) : w.cell? ⟨b, 0, none⟩ = some v := by
  rw [cell_of_row w b 0 _ _ _ h.1]
  rfl

theorem Scr.free {w : World} {b : Nat} {v : Value} {bs : List Nat} (h : Scr w b v bs) : w.frozen? ⟨b, 0, none⟩ = false := by simp [World.frozen?, h.1]

theorem Scr.kept {S : Nat → Prop} {w w' : World} {b : Nat} {v : Value} {bs : List Nat} (h : Scr w b v bs) (k : Kept S w w') (hb : ¬ S b) (hs : bs ≠ [] → ∀ x, v.ownBlock = some x → ¬ S x) : Scr w' b v bs :=
  ⟨(k.block b h.lt hb).trans h.1, h.2.1.kept' k hs, h.2.2⟩

theorem Scr.grew {w w' : World} {b : Nat} {v : Value} {bs : List Nat} (h : Scr w b v bs) (k : Kept Nought w w') : Scr w' b v bs := h.kept k (fun f => f) (fun _ _ _ f => f)

theorem Scr.put {w : World} {b : Nat} {v : Value} {bs : List Nat} (h : Scr w b v bs) (u : Value) (zs : List Nat) (hr : Row .u8 w u zs) (hs : zs ≠ [] → ∀ x, u.ownBlock = some x → x ≠ b) : Scr (w.setCell ⟨b, 0, none⟩ u) b u zs := by
  refine ⟨?_, hr.kept' ((Kept.refl (fun x => x = b) w).setCell ⟨b, 0, none⟩ (fun _ => rfl) u) hs, hs⟩
  have := heap_setCell_same w b 0 _ 29 u h.1
  rw [this]
  rfl

/-- A script at block b that has the bytes bs left; it and they lie below block B. -/
def ScrAt (w : World) (b B : Nat) (bs : List Nat) : Prop := ∃ v, Scr w b v bs ∧ b < B ∧ (bs ≠ [] → ∀ x, v.ownBlock = some x → x < B)

theorem ScrAt.lt {w : World} {b B : Nat} {bs : List Nat} (h : ScrAt w b B bs) : b < w.heap.size := by
  obtain ⟨_, h, _⟩ := h
  exact h.lt

theorem ScrAt.kept {S : Nat → Prop} {w w' : World} {b B : Nat} {bs : List Nat} (h : ScrAt w b B bs) (k : Kept S w w') (hs : ∀ x, x < B → ¬ S x) : ScrAt w' b B bs := by
  obtain ⟨v, h, hb, hx⟩ := h
  exact ⟨v, h.kept k (hs b hb) (fun e x hv => hs x (hx e x hv)), hb, hx⟩

theorem ScrAt.grew {w w' : World} {b B : Nat} {bs : List Nat} (h : ScrAt w b B bs) (k : Kept Nought w w') : ScrAt w' b B bs := h.kept k fun _ _ f => f

/-- The part of a slice behind its first n. -/
theorem row_rest {k : IntKind} {w : World} {ad : Addr} {L cap n : Nat} {zs : List Nat} (h : Row k w (.slice (some ad) L cap) zs) (hn : n ≤ L) : Row k w (.slice (some (ad.add n)) (L - n) (cap - n)) (zs.drop n) := by
  obtain ⟨ao, cap', e, c1, c2, _, h4⟩ := h
  cases e
  have hl : (zs.drop n).length = zs.length - n := List.length_drop ..
  refine ⟨_, _, by rw [hl], by omega, by omega, (fun e => by cases e), fun i hi => ?_⟩
  rw [hl] at hi
  obtain ⟨b, off, e, hc⟩ := h4 (n + i) (by omega)
  cases e
  refine ⟨b, off + n, ?_, ?_⟩
  · unfold Addr.add
    split <;> simp_all
  · rw [Nat.add_assoc, hc, List.getD_eq_getElem?_getD, List.getD_eq_getElem?_getD, List.getElem?_drop]

theorem own_add (ad : Addr) (n L cap L' cap' : Nat) : (Value.slice (some (ad.add n)) L cap).ownBlock = (Value.slice (some ad) L' cap').ownBlock := by
  show some (ad.add n).block = some ad.block
  unfold Addr.add
  split <;> rfl

/-- What Read answers: the error, the bytes, what is left. -/
def readE (bs : List Nat) (n : Int) : Nat := if n < 0 then 1 else if (bs.length : Int) < n then 150 else 0
def readL (bs : List Nat) (n : Int) : List Nat := if readE bs n = 0 then bs.take n.toNat else []
def readR (bs : List Nat) (n : Int) : List Nat := if n < 0 then bs else bs.drop n.toNat

set_option maxRecDepth 20000 in
set_option maxHeartbeats 1000000 in
/-- Read. -/
theorem r15Read (b B : Nat) (bs : List Nat) (n : Int) (w : World) (h : ScrAt w b B bs) (hl : bs.length ≤ 1000001) :
    Calls Tryd.prog 29 #[.pointer (some ⟨b, 0, none⟩), .int .i64 n] w fun e w' => ∃ u, e = .returned (.tuple #[u, .int .i64 (readE bs n : Nat)]) ∧ OwnB w' w.heap.size u (readL bs n) ∧ ScrAt w' b B (readR bs n) ∧ Kept (fun x => x = b) w w' := by
  obtain ⟨v, h, hB, hBx⟩ := h
  have HBX := toHid hBx
  clear hBx
  have hc := h.cell
  have hf := h.free
  have H := toHid h
  obtain ⟨ao, L, cap, rfl, hL, hLc, hcm, hnn, hnum⟩ := h.2.1.open
  have hLb : L ≤ 1000001 := by have := hL.out; omega
  by_cases h1 : n < 0
  · have e1 : readE bs n = 1 := by unfold readE; rw [if_pos h1]
    have e2 : readL bs n = [] := by unfold readL; rw [e1]; rfl
    have e3 : readR bs n = bs := by unfold readR; rw [if_pos h1]
    rw [e1, e2, e3]
    clear e1 e2 e3 h
    go_enter Tryd.func29, Tryd.ntmps29
    go_wp2_with fail
    go_ret2
    exact ⟨_, rfl, OwnB.nil _ _, ⟨_, H.out, hB, HBX.out⟩, Kept.refl _ _⟩
  · obtain ⟨m, rfl⟩ := Int.eq_ofNat_of_zero_le (show 0 ≤ n by omega)
    by_cases h2 : L < m
    · have e1 : readE bs (m : Int) = 150 := by unfold readE; rw [if_neg h1, if_pos (by have := hL.out; omega)]
      have e2 : readL bs (m : Int) = [] := by unfold readL; rw [e1]; rfl
      have e3 : readR bs (m : Int) = [] := by unfold readR; rw [if_neg h1]; exact List.drop_eq_nil_of_le (by have := hL.out; simp; omega)
      rw [e1, e2, e3]
      have g1 : (m : Int) > (L : Int) := by omega
      have g2 : (L : Int) < (m : Int) := by omega
      have HP := toHid (H.out.put (.slice none 0 0) [] (Row.nil _ _) (fun e => absurd rfl e))
      have HK := toHid ((Kept.refl (fun x => x = b) w).setCell ⟨b, 0, none⟩ (fun _ => rfl) (.slice none 0 0))
      clear e1 e2 e3 h
      go_enter Tryd.func29, Tryd.ntmps29
      go_wp2_with fail
      go_ret2
      exact ⟨_, rfl, OwnB.nil _ _, ⟨_, HP.out, hB, fun e => absurd rfl e⟩, HK.out⟩
    · have e1 : readE bs (m : Int) = 0 := by unfold readE; rw [if_neg h1, if_neg (by have := hL.out; omega)]
      have e2 : readL bs (m : Int) = bs.take m := by unfold readL; rw [e1]; rfl
      have e3 : readR bs (m : Int) = bs.drop m := by unfold readR; rw [if_neg h1]; rfl
      rw [e1, e2, e3]
      have g1 : ¬ (m : Int) > (L : Int) := by omega
      have g2 : ¬ (L : Int) < (m : Int) := by omega
      have g3 : (m : Int) ≤ (cap : Int) := by omega
      have g4 : m ≤ cap := by omega
      have g5 : m ≤ L := by omega
      have g6 : (0 : Int) ≤ (m : Int) := by omega
      have g7 : (m : Int) ≤ (L : Int) := by omega
      have hcut := h.2.1.cut (m := m) (by rw [hL.out]; exact g5)
      have HCUT := toHid hcut
      clear e1 e2 e3 h hcut
      cases ao with
      | none =>
        obtain rfl := hnn rfl
        obtain rfl : L = 0 := by omega
        obtain rfl : m = 0 := by omega
        obtain rfl : bs = [] := List.length_eq_zero_iff.1 hL.out
        have HP := toHid (H.out.put (.slice none 0 0) [] (Row.nil _ _) (fun e => absurd rfl e))
        have HK := toHid ((Kept.refl (fun x => x = b) w).setCell ⟨b, 0, none⟩ (fun _ => rfl) (.slice none 0 0))
        go_enter Tryd.func29, Tryd.ntmps29
        go_wp2_with fail
        go_ret2
        exact ⟨_, rfl, OwnB.nil _ _, ⟨_, HP.out, hB, fun e => absurd rfl e⟩, HK.out⟩
      | some ad =>
        have hrest := row_rest (n := m) H.out.2.1 g5
        have hlt : (bs.take m).length ≤ 1000001 := by rw [List.length_take]; omega
        have HREST := toHid hrest
        clear hrest
        go_enter Tryd.func29, Tryd.ntmps29
        go_wp2_with (at_builtin; refine wpList_append_row rfl _ _ rfl w.heap.size _ [] rfl (OwnB.nil _ _) _ rfl (bs.take m) HCUT.out (by simp; omega) (Nat.le_refl _) ?_)
        intro v1 w1 ho1 hg1
        have k1 : Kept Nought w w1 := (Kept.refl Nought w).grown hg1 (fun k hk hlt => by cases hk)
        have H1 := toHid (H.out.grew k1)
        have hc1 := H1.out.cell
        have hf1 := H1.out.free
        have HO1 := toHid ho1
        have HK1 := toHid k1
        have hbw : b < w.heap.size := H.out.lt
        have HOB := toHid fun u => ho1.kept ((Kept.refl (fun x => x = b) w1).setCell ⟨b, 0, none⟩ (fun _ => rfl) u) (fun x hx e => by
          have e' : x = b := e
          omega)
        have HKB := toHid fun u => (k1.any (S := fun x => x = b)).next ((Kept.refl (fun x => x = b) w1).setCell ⟨b, 0, none⟩ (fun _ => rfl) u) (fun x _ h => h)
        have hsep := H.out.2.2
        clear ho1 hg1 k1 hc hf H HCUT HO1
        by_cases hcmm : cap = m
        · subst hcmm
          obtain rfl : L = cap := by omega
          have ed : bs.drop L = [] := List.drop_eq_nil_of_le (by rw [hL.out]; exact Nat.le_refl _)
          have HP := toHid (H1.out.put (.slice (some ad) 0 0) [] ⟨_, _, rfl, Nat.zero_le _, by unfold maxLen; omega, (fun _ => rfl), fun i hi => absurd hi (by simp)⟩ (fun e => absurd rfl e))
          have HED := toHid ed
          clear ed
          go_wp2_with fail
          go_ret2
          exact ⟨_, rfl, HOB.out _, by rw [HED.out]; exact ⟨_, HP.out, hB, fun e => absurd rfl e⟩, HKB.out _⟩
        · have HP := toHid (H1.out.put _ _ (HREST.out.grew HK1.out) (fun e x hx => hsep (fun e2 => e (by rw [e2]; exact List.drop_nil)) x (by rw [← hx]; exact (own_add ad m _ _ _ _).symm)))
          clear hsep
          go_wp2_with fail
          go_ret2
          exact ⟨_, rfl, HOB.out _, ⟨_, HP.out, hB, fun e x hx => HBX.out (fun e2 => e (by rw [e2]; exact List.drop_nil)) x (by rw [← hx]; exact (own_add ad m _ _ _ _).symm)⟩, HKB.out _⟩

/-- The first n bytes that are not 0, what is left, whether there were so many. -/
def filN : List Nat → Nat → List Nat × List Nat × Bool
  | bs, 0 => ([], bs, true)
  | [], _ + 1 => ([], [], false)
  | x :: bs, n + 1 => if x = 0 then filN bs (n + 1) else (x :: (filN bs n).1, (filN bs n).2)

/-- Filled's state while it goes on: acc is found, rest is left. -/
def FilS (bs : List Nat) (n : Nat) (acc rest : List Nat) : Prop := acc.length ≤ n ∧ filN bs n = (acc ++ (filN rest (n - acc.length)).1, (filN rest (n - acc.length)).2)

theorem FilS.start (bs : List Nat) (n : Nat) : FilS bs n [] bs := ⟨Nat.zero_le _, by simp⟩

theorem FilS.none {bs acc rest : List Nat} {n : Nat} (h : FilS bs n acc (0 :: rest)) (hn : acc.length < n) : FilS bs n acc rest := by
  obtain ⟨d, hd⟩ : ∃ d, n - acc.length = d + 1 := ⟨n - acc.length - 1, by omega⟩
  refine ⟨h.1, ?_⟩
  rw [h.2, hd]
  rfl

theorem FilS.one {bs acc rest : List Nat} {n x : Nat} (h : FilS bs n acc (x :: rest)) (hn : acc.length < n) (hx : x ≠ 0) : FilS bs n (acc ++ [x]) rest := by
  obtain ⟨d, hd⟩ : ∃ d, n - acc.length = d + 1 := ⟨n - acc.length - 1, by omega⟩
  refine ⟨by rw [List.length_append]; simp; omega, ?_⟩
  have e : n - (acc ++ [x]).length = d := by rw [List.length_append]; simp; omega
  have e2 : filN (x :: rest) (d + 1) = (x :: (filN rest d).1, (filN rest d).2) := by
    rw [filN, if_neg hx]
  rw [h.2, hd, e, e2]
  simp

theorem FilS.done {bs acc rest : List Nat} {n : Nat} (h : FilS bs n acc rest) (hn : ¬ acc.length < n) : filN bs n = (acc, rest, true) := by
  have := h.1
  have e : filN rest 0 = ([], rest, true) := by cases rest <;> rfl
  rw [h.2, show n - acc.length = 0 by omega, e]
  simp

end Go.Proofs.YtnhkfdbeacmepaaDoor


/- The plain side of layer 15: Filled. -/
namespace Go.Proofs.YtnhkfdbeacmepaaDoor
open Go.RowKit

/-- How many bytes the script at b has left. -/
def scrLen (b : Nat) (w : World) : Nat := match w.cell? ⟨b, 0, none⟩ with
  | some v => sliceLen v
  | none => 0

theorem ScrAt.len {w : World} {b B : Nat} {bs : List Nat} (h : ScrAt w b B bs) : scrLen b w = bs.length := by
  obtain ⟨v, h, _⟩ := h
  unfold scrLen
  rw [h.cell]
  obtain ⟨_, _, e, _⟩ := h.2.1
  rw [e]
  rfl

/-- A byte further: the slice, whether it was the last of its room or not. -/
theorem Scr.next {w : World} {b sb soff L cap x B : Nat} {r : List Nat} (h : Scr w b (.slice (some ⟨sb, soff, none⟩) L cap) (x :: r)) (hB : b < B) (hx : sb < B) :
    (cap = 1 → ScrAt (w.setCell ⟨b, 0, none⟩ (.slice (some ⟨sb, soff, none⟩) 0 0)) b B r) ∧ (cap ≠ 1 → ScrAt (w.setCell ⟨b, 0, none⟩ (.slice (some ⟨sb, soff + 1, none⟩) (L - 1) (cap - 1))) b B r) := by
  obtain ⟨_, _, _, e, hL, hc, _⟩ := h.2.1.open
  cases e
  have hL' : r.length + 1 = L := hL.out
  constructor
  · intro e
    obtain rfl : r = [] := List.length_eq_zero_iff.1 (by omega)
    exact ⟨_, h.put _ [] ⟨_, _, rfl, Nat.zero_le _, by unfold maxLen; omega, (fun _ => rfl), fun i hi => absurd hi (by simp)⟩ (fun e => absurd rfl e), hB, fun e => absurd rfl e⟩
  · intro e
    have hr := row_rest (n := 1) h.2.1 (by omega)
    rw [show ((⟨sb, soff, none⟩ : Addr).add 1) = ⟨sb, soff + 1, none⟩ from rfl] at hr
    exact ⟨_, h.put _ _ hr (fun _ y hy => h.2.2 (by simp) y hy), hB, fun _ y hy => by cases hy; exact hx⟩

end Go.Proofs.YtnhkfdbeacmepaaDoor


/- A part of a row, as a slice of it lies in memory. -/
namespace Go.Proofs.YtnhkfdbeacmepaaDoor
open Go.RowKit

theorem row_empty {k : IntKind} {w : World} {ao : Option Addr} {cap : Nat} (h : ao = none → cap = 0) (hc : cap ≤ maxLen) : Row k w (.slice ao 0 cap) [] :=
  ⟨ao, cap, rfl, Nat.zero_le _, hc, h, fun i hi => absurd hi (by simp)⟩

/-- A part of a row, as a slice of it lies in memory. -/
theorem row_cut {k : IntKind} {w : World} {ao : Option Addr} {L cap s m : Nat} {zs : List Nat} (h : Row k w (.slice ao L cap) zs) (h2 : s + m ≤ L) :
    (ao = none → Row k w (.slice none 0 0) ((zs.drop s).take m)) ∧ (∀ ad, ao = some ad → cap = s → Row k w (.slice (some ad) 0 0) ((zs.drop s).take m)) ∧ (∀ ad, ao = some ad → cap ≠ s → Row k w (.slice (some (ad.add s)) m (cap - s)) ((zs.drop s).take m)) := by
  obtain ⟨_, _, _, e, hL, hLc, hcm, hnn, hnum⟩ := h.open
  cases e
  have hz : m = 0 → (zs.drop s).take m = [] := fun e => by rw [e]; rfl
  refine ⟨fun e => ?_, fun ad e ec => ?_, fun ad e ec => ?_⟩
  · have := hnn e
    rw [hz (by omega)]
    exact Row.nil _ _
  · rw [hz (by omega)]
    exact row_empty (fun e => by cases e) (Nat.zero_le _)
  · subst e
    by_cases hm : m = 0
    · rw [hz hm, hm]
      exact row_empty (fun e => by cases e) (by unfold maxLen at *; omega)
    · obtain ⟨b, off, e, _⟩ := hnum 0 (by omega)
      cases e
      have ea : (⟨b, off, none⟩ : Addr).add s = ⟨b, off + s, none⟩ := by unfold Addr.add; split <;> simp_all
      rw [ea]
      exact row_part h h2

/-- append of bytes to a row of the call's own: what comes of it has letters for its list and its length. -/
theorem wpList_append_nm {w : World} {ops : Array Oper} {rest : List Oper} {o : Oper} {a : Act} {Q : Exit → Act → World → Prop} (hgd : o.guard = none) (s x : Operand)
    (ho : o.op = .call { callee := .builtin .append, args := #[s, x], argTypes := #[22, 22] })
    (base : Nat) (v : Value) (zs : List Nat) (hs : a.eval s = v) (hown : OwnB w base v zs) (u : Value) (hx : a.eval x = u) (bs : List Nat) (hr : Row .u8 w u bs) (hl : zs.length + bs.length ≤ 100000000) (hbase : base ≤ w.heap.size)
    (h : ∀ (ls : List Nat) (ao : Option Addr) (n cap : Nat) (w' : World), Hid (ls = zs ++ bs) → Hid (ls.length = n) → OwnB w' base (.slice ao n cap) ls → Kept (fun b => base ≤ b) w w' → wpList Tryd.prog ops Q rest (a.put o.dst (.slice ao n cap)) w') : wpList Tryd.prog ops Q (o :: rest) a w := by
  refine wpList_append_row hgd s x ho base v zs hs hown u hx bs hr hl hbase ?_
  intro v' w' h1 hg
  obtain ⟨ao, cap, rfl⟩ := own_slice h1
  exact h _ ao _ cap w' rfl rfl h1 ((Kept.refl (fun b => base ≤ b) w).grown hg (fun q hq _ => (hown.lt q hq).1))

/-- A new row of some bytes. -/
theorem own_lit8 (w : World) (ls : List Nat) (cs : Array Value) (hc : cs = (ls.map fun z : Nat => Value.int .u8 (z : Int)).toArray) (n : Nat) (hn : n = ls.length) (hm : n ≤ 1000000) (h0 : 0 < n) : OwnB (w.alloc (.cells cs 5)) w.heap.size (.slice (some ⟨w.heap.size, 0, none⟩) n n) ls := by
  subst hc
  have h1 : (w.alloc (.cells (ls.map fun z : Nat => Value.int .u8 (z : Int)).toArray 5)).ownsRow w.heap.size 5 1 (.slice (some ⟨w.heap.size, 0, none⟩) n n) n (ls.map fun z : Nat => Value.int .u8 (z : Int)).toArray.toList := World.ownsRow_lit w (ls.map fun z : Nat => Value.int .u8 (z : Int)).toArray n (Nat.le_refl _) (by unfold maxLen; omega) (by simp [hn])
  exact OwnB.of (n := n) h1

end Go.Proofs.YtnhkfdbeacmepaaDoor


/- The plain side of layer 23 (package sconceref23): Pad, Unpad. -/
namespace Go.Proofs.YtnhkfdbeacmepaaDoor
open Go.RowKit

/-- Bytes lie apart from a plain script. -/
theorem scr_apart8 {w : World} {b B : Nat} {bs xs : List Nat} {v : Value} (h : ScrAt w b B bs) (hr : Row .u8 w v xs) (hne : xs ≠ []) : ∀ x, v.ownBlock = some x → x ≠ b := by
  obtain ⟨sv, ⟨h1, hrow, _⟩, _⟩ := h
  intro x hx e
  subst e
  obtain ⟨ao, cap, rfl, _, _, _, h4⟩ := hr
  obtain ⟨b2, off, rfl, hc⟩ := h4 0 (by cases xs with
    | nil => exact absurd rfl hne
    | cons a l => simp)
  have e : b2 = x := by simpa [Value.ownBlock] using hx
  subst e
  have hs : ∃ so sn sc, sv = .slice so sn sc := by
    obtain ⟨so, sc, e, _⟩ := hrow
    exact ⟨so, _, sc, e⟩
  obtain ⟨so, sn, sc, rfl⟩ := hs
  simp only [World.cell?, h1] at hc
  cases ho : off + 0 with
  | zero => simp [ho] at hc
  | succ j => simp [ho] at hc

end Go.Proofs.YtnhkfdbeacmepaaDoor


/- append of noughts that are made: append(b, make([]byte, k)...), to a row of the call's own. -/
namespace Go.Proofs.YtnhkfdbeacmepaaDoor
open Go.RowKit

theorem zeroCells8 (k : Nat) : Builtin.zeroCells (Value.int .u8 0).cells k = (List.replicate k (Value.int .u8 0)).toArray := by
  unfold Builtin.zeroCells
  apply Array.ext
  · simp [Value.cells]
  · intro i h1 h2
    simp [Value.cells, Nat.mod_one]

theorem rep_map (k : Nat) : (List.replicate k 0).map (fun z : Nat => Value.int .u8 (z : Int)) = List.replicate k (Value.int .u8 0) := by
  rw [List.map_replicate]
  rfl

/-- append of k noughts. -/
theorem run_append_make (w : World) (base : Nat) (v : Value) (zs : List Nat) (k : Nat) (hown : OwnB w base v zs) (hl : zs.length + k ≤ 100000000) (hb : base ≤ w.heap.size) (ty : TypeId) :
    ∃ v' w', (Builtin.append_ #[22, 3] ty #[v, .int .i64 (k : Int)]).run Tryd.prog w = .ok v' w' ∧ OwnB w' base v' (zs ++ List.replicate k 0) ∧ w.grownBy w' v.ownBlock := by
  obtain ⟨i0, hi0, hz0, hz1, hz2⟩ := info_parts Tryd.info8s
  have hw0 : IntKind.i64.wrap (0 : Int) = 0 := by rw [IntKind.wrap_i64]; omega
  have hgrow : ∀ (old : Nat) (G : Nat), zs.length + k ≤ G → G ≤ maxLen → OwnB (w.drew.alloc (.cells ((zs.map fun z : Nat => Value.int .u8 (z : Int)).toArray ++ Builtin.zeroCells (Value.int .u8 0).cells k ++ Builtin.zeroCells (Value.int .u8 0).cells (G - (zs.length + k))) 5)) base (.slice (some ⟨w.heap.size, 0, none⟩) (zs.length + k) G) (zs ++ List.replicate k 0) ∧ ∀ row, w.grownBy (w.drew.alloc (.cells ((zs.map fun z : Nat => Value.int .u8 (z : Int)).toArray ++ Builtin.zeroCells (Value.int .u8 0).cells k ++ Builtin.zeroCells (Value.int .u8 0).cells (G - (zs.length + k))) 5)) row := fun old G hG hm => by
    refine ⟨OwnB.of (n := zs.length + k) ?_, fun row => ⟨rfl, rfl, rfl, by simp, fun j hj _ => Below.heap_alloc w.drew _ j hj⟩⟩
    refine ⟨by simp, .inr ⟨w.heap.size, G, _, rfl, hb, heap_alloc_new w.drew _, hG, hm, ?_, ?_⟩⟩
    · simp [zeroCells8]
      omega
    · rw [zeroCells8, zeroCells8, List.map_append, rep_map]
      simp only [Array.toList_append, Nat.mul_one]
      rw [List.take_append_of_le_length (by simp)]
      exact List.take_of_length_le (by simp)
  rcases hown.2 with ⟨rfl, h0⟩ | ⟨g, cap, cur, rfl, hbg, hg, hnc, hcm, hcs, htake⟩
  · have hz : zs = [] := List.length_eq_zero_iff.1 h0
    subst hz
    by_cases hk : k = 0
    · subst hk
      refine ⟨.slice none 0 0, w, ?_, OwnB.nil _ _, ⟨rfl, rfl, rfl, Nat.le_refl _, fun _ _ _ => rfl⟩⟩
      simp [Builtin.append_, run_underlying Tryd.underlying22, run_underlying Tryd.underlying3, sizeOf, typeInfo, hi0, asInt, asIntOf, hw0]
    · have hr := Lib.run_append_nil_zeros (P := Tryd.prog) w 22 3 ty 5 i0 (.int .u8 0) .i64 .i64 Tryd.underlying22 Tryd.underlying3 hi0 hz0 k (by omega) (by omega) (by omega) (by rw [hz2]; omega)
      obtain ⟨h1, h2⟩ := hgrow 0 (grownCap w k 0 5) (by have := grownCap_ge w k 0 5; simpa using this) (grownCap_le_maxLen w k 0 5 (by unfold maxLen; omega))
      simp only [List.map_nil, Array.empty_append, List.length_nil, Nat.zero_add, List.nil_append] at h1 h2 ⊢
      exact ⟨_, _, hr, h1, h2 _⟩
  · by_cases hroom : zs.length + k ≤ cap
    · have hst := run_storeCells_at Tryd.prog g zs.length 5 (List.replicate k (Value.int .u8 0)) 0 cur w hg (by simp; omega) (fun u hu => by rw [List.eq_of_mem_replicate hu]; rfl)
      simp only [Nat.add_zero, List.length_replicate] at hst
      have hw : IntKind.i64.wrap (k : Int) = k := by rw [IntKind.wrap_i64]; omega
      have hneg : ¬ ((k : Int) < 0) := by omega
      have h48 : ¬ (281474976710656 < (k : Int)) := by omega
      refine ⟨.slice (some ⟨g, 0, none⟩) (zs.length + k) cap, w.setRow g (cur.toList.take zs.length ++ List.replicate k (Value.int .u8 0) ++ cur.toList.drop (zs.length + k)).toArray, ?_, OwnB.of (n := zs.length + k) ?_, ⟨rfl, rfl, rfl, by simp, fun j _ hj => setRow_other w g j _ (fun e => hj (by simp [Value.ownBlock, e]))⟩⟩
      · by_cases hk : k = 0
        · subst hk
          simp at hst
          simp [Builtin.append_, run_underlying Tryd.underlying22, run_underlying Tryd.underlying3, sizeOf, typeInfo, hi0, hz1, asInt, asIntOf, hw0, hnc, Addr.add_lit]
          simpa [storeCells] using hst
        · have hks : ¬ (k = 0) := hk
          simp [Builtin.append_, run_underlying Tryd.underlying22, run_underlying Tryd.underlying3, sizeOf, typeInfo, zeroValue, hi0, hz0, hz1, hz2, asInt, asIntOf, hw, hneg, h48, hks, hroom, Addr.add_lit, zeroCells8, hst]
      · refine ⟨by simp, .inr ⟨g, cap, _, rfl, hbg, setRow_heap w g cur _ 5 _ hg, hroom, hcm, ?_, ?_⟩⟩
        · simp
          omega
        · simp only [Nat.mul_one] at htake
          rw [htake, List.map_append, rep_map, Nat.mul_one]
          exact List.take_left' (by simp)
    · have hr := Lib.run_append_grow_zeros (P := Tryd.prog) w 22 3 ty 5 i0 (.int .u8 0) .i64 .i64 Tryd.underlying22 Tryd.underlying3 hi0 hz0 (some ⟨g, 0, none⟩) zs.length cap (zs.map fun z : Nat => Value.int .u8 (z : Int)) (by
        rw [hz1]
        refine run_firstCells_some (P := Tryd.prog) w.drew 1 zs.length ⟨g, 0, none⟩ zs.length cap _ (by simp) ?_
        intro j u hj
        exact hown.cells (g := g) rfl j u hj) k (by omega) (by omega) (by omega) (by omega) (by rw [hz2]; omega) (by rw [hz2]; exact growslice_fits (by omega) (by omega))
      obtain ⟨h1, h2⟩ := hgrow cap (grownCap w (zs.length + k) cap 5) (grownCap_ge w _ _ _) (grownCap_le_maxLen w _ _ _ (by unfold maxLen; omega))
      exact ⟨_, _, hr, h1, h2 _⟩

/-- append of noughts that are made, in a walk. -/
theorem wpList_append_make {w : World} {ops : Array Oper} {rest : List Oper} {o : Oper} {a : Act} {Q : Exit → Act → World → Prop} (hgd : o.guard = none) (s x : Operand)
    (ho : o.op = .call { callee := .builtin .append, args := #[s, x], argTypes := #[22, 3] })
    (base : Nat) (v : Value) (zs : List Nat) (hs : a.eval s = v) (hown : OwnB w base v zs) (k : Nat) (hx : a.eval x = .int .i64 (k : Int)) (hl : zs.length + k ≤ 100000000) (hbase : base ≤ w.heap.size)
    (h : ∀ (ls : List Nat) (ao : Option Addr) (n cap : Nat) (w' : World), Hid (ls = zs ++ List.replicate k 0) → Hid (ls.length = n) → OwnB w' base (.slice ao n cap) ls → Kept (fun b => base ≤ b) w w' → wpList Tryd.prog ops Q rest (a.put o.dst (.slice ao n cap)) w') : wpList Tryd.prog ops Q (o :: rest) a w := by
  obtain ⟨v', w', hr, h1, hg⟩ := run_append_make w base v zs k hown hl hbase o.type
  obtain ⟨ao, cap, rfl⟩ := own_slice h1
  exact Lib.wpList_append_run w hgd s x _ _ ho v _ hs hx _ _ hr (h _ ao _ cap w' rfl rfl h1 ((Kept.refl (fun b => base ≤ b) w).grown hg (fun q hq _ => (hown.lt q hq).1)))

end Go.Proofs.YtnhkfdbeacmepaaDoor

