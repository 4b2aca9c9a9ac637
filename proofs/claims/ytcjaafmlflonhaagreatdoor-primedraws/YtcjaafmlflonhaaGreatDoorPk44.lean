/- Put together of: Ref5A PrK QuH Ivn9. -/
import Derived.Test.YtcjaafmlflonhaaGreatDoorPk1
import Derived.Test.YtcjaafmlflonhaaGreatDoorPk5
import Derived.Test.YtcjaafmlflonhaaGreatDoorPk14
import Derived.Test.YtcjaafmlflonhaaGreatDoorPk15
import Derived.Test.YtcjaafmlflonhaaGreatDoorPk16
import Derived.Test.YtcjaafmlflonhaaGreatDoorPk23
import Derived.Test.YtcjaafmlflonhaaGreatDoorPk41
import Derived.Test.YtcjaafmlflonhaaGreatDoorPk43

/- The plain side of layer 5 (package sconceref05): products, quotients, rests of any numbers. -/
namespace Go.Proofs.YtcjaafmlflonhaaGreatDoor
open Go.RowKit

/-- Whether numbers of these lengths are within the bound. -/
def okLen (L M : Nat) : Bool := decide (L ≤ 300 ∧ M ≤ 300)

/-- What Divide answers: the error's number, quotient, rest. -/
def divE (Y L M : Nat) : Nat := if okLen L M = true then (if Y = 0 then 1 else 0) else 2

def divQ (X Y L M : Nat) : List Nat := if divE Y L M = 0 then digs 18446744073709551616 (X / Y) L else []

def divR (X Y L M : Nat) : List Nat := if divE Y L M = 0 then digs 18446744073709551616 (X % Y) M else []

end Go.Proofs.YtcjaafmlflonhaaGreatDoor


/- Package product: Divide. -/
namespace Go.Proofs.YtcjaafmlflonhaaGreatDoor
open Go.RowKit

theorem div_long {X Y L M : Nat} (h : ¬ (L ≤ 300 ∧ M ≤ 300)) : divE Y L M = 2 ∧ divQ X Y L M = [] ∧ divR X Y L M = [] := by
  have e : divE Y L M = 2 := by unfold divE okLen; rw [if_neg (by simpa using h)]
  refine ⟨e, ?_, ?_⟩
  · unfold divQ; rw [e, if_neg (by omega)]
  · unfold divR; rw [e, if_neg (by omega)]

theorem div_zero {X Y L M : Nat} (h : L ≤ 300 ∧ M ≤ 300) (h0 : Y = 0) : divE Y L M = 1 ∧ divQ X Y L M = [] ∧ divR X Y L M = [] := by
  have e : divE Y L M = 1 := by unfold divE okLen; rw [if_pos (by simpa using h), if_pos h0]
  refine ⟨e, ?_, ?_⟩
  · unfold divQ; rw [e, if_neg (by omega)]
  · unfold divR; rw [e, if_neg (by omega)]

theorem div_good {X Y L M : Nat} (h : L ≤ 300 ∧ M ≤ 300) (h0 : Y ≠ 0) : divE Y L M = 0 ∧ divQ X Y L M = digs 18446744073709551616 (X / Y) L ∧ divR X Y L M = digs 18446744073709551616 (X % Y) M := by
  have e : divE Y L M = 0 := by unfold divE okLen; rw [if_pos (by simpa using h), if_neg h0]
  refine ⟨e, ?_, ?_⟩
  · unfold divQ; rw [if_pos e]
  · unfold divR; rw [if_pos e]

end Go.Proofs.YtcjaafmlflonhaaGreatDoor


/- Package product: Quick. -/
namespace Go.Proofs.YtcjaafmlflonhaaGreatDoor
open Go.RowKit

theorem zero0 (u : Value) (xs : List Nat) (w : World) (hu : Row .u64 w u xs) (hdx : Digs 18446744073709551616 xs) (hL : xs.length ≤ 100000000) :
    Calls Tryz.prog 131 #[.pointer none, u] w fun e w' => e = .returned (.int .u64 (oneN (decide (val 18446744073709551616 xs = 0)) : Nat)) ∧ Kept Nought w w' := by
  refine (lZero none u xs w (TrRoom.none w 1 (by omega)) (RowT.none hu) hdx hL).mono ?_
  rintro e w' ⟨rfl, o', hd⟩
  exact ⟨rfl, hd.none.2⟩

set_option maxRecDepth 20000 in
set_option maxHeartbeats 2000000 in
/-- What Quick attempts. -/
theorem pQuick1 (ao bo : Option Addr) (L M cap dap : Nat) (xs ys : List Nat) (X Y : Nat) (hX : X = val 18446744073709551616 xs) (hY : Y = val 18446744073709551616 ys) (bA bB bQ bR : Nat) (w : World) (hu : Row .u64 w (.slice ao L cap) xs) (hv : Row .u64 w (.slice bo M dap) ys) (hdx : Digs 18446744073709551616 xs) (hdy : Digs 18446744073709551616 ys)
    (hA : Box w bA (.slice ao L cap) 31) (hB : Box w bB (.slice bo M dap) 31) (hQ : Box w bQ (.slice none 0 0) 31) (hR : Box w bR (.slice none 0 0) 31) (hne : bQ ≠ bR) :
    Calls Tryz.prog 129 #[.pointer (some ⟨bA, 0, none⟩), .pointer (some ⟨bB, 0, none⟩), .pointer (some ⟨bQ, 0, none⟩), .pointer (some ⟨bR, 0, none⟩)] w fun e w' =>
      (¬ (L ≤ 300 ∧ M ≤ 300) ∧ e = .panicked [refusal 2] ∧ w' = w) ∨ ((L ≤ 300 ∧ M ≤ 300) ∧ Y = 0 ∧ e = .panicked [refusal 1] ∧ Kept Nought w w') ∨
      ((L ≤ 300 ∧ M ≤ 300) ∧ Y ≠ 0 ∧ e = .returned (.tuple #[]) ∧ ∃ v1 v2, OwnN .u64 23 w' w.heap.size v1 L (digs 18446744073709551616 (X / Y) L) ∧ OwnN .u64 23 w' w.heap.size v2 M (digs 18446744073709551616 (X % Y) M) ∧ Kept (fun b => b = bQ ∨ b = bR) w w' ∧ Box w' bQ v1 31 ∧ Box w' bR v2 31) := by
  obtain ⟨_, _, _, e1, hLx, _, _, _, _⟩ := hu.open
  cases e1
  obtain ⟨_, _, _, e1, hLy, _, _, _, _⟩ := hv.open
  cases e1
  have hP := fun W => pLong ao bo L M cap dap W
  have hZ := fun (l : M ≤ 300) => zero0 _ ys w hv hdy (by have := hLy.out; omega)
  rw [← hY] at hZ
  have hD := fun W (k : Kept Nought w W) (l1 : L ≤ 300) (l2 : M ≤ 300) (h0 : 0 < Y) => pWords ao bo L M cap dap xs ys X Y hX hY h0 W (hu.grew k) (hv.grew k) hdx hdy (by omega) (by omega)
  have cA := hA.cell
  have cB := hB.cell
  have HBA := toHid hA
  have HBB := toHid hB
  have HBQ := toHid hQ
  have HBR := toHid hR
  clear hu hv hdx hdy hLx hLy hA hB hQ hR hX hY
  go_enter Tryz.func129, Tryz.ntmps129
  go_wp2_with fail
  refine (hP _).mono ?_
  rintro e w1 ⟨⟨l1, l2, rfl⟩ | ⟨l1, rfl⟩, rfl⟩
  · obtain ⟨nz, hnz⟩ : ∃ nz, nz = oneN (decide (Y = 0)) := ⟨_, rfl⟩
    rw [← hnz] at hZ
    have HNZ := toHid hnz
    clear hP hnz
    go_wp2_with fail
    refine (hZ l2).mono ?_
    rintro e w2 ⟨rfl, k2⟩
    have cA2 := (HBA.out.grew k2).cell
    have cB2 := (HBB.out.grew k2).cell
    have hxQ := HBQ.out.grew k2
    have hxR := HBR.out.grew k2
    clear hZ cA cB
    by_cases h0 : Y = 0
    · have en : nz = 1 := by rw [HNZ.out, decide_eq_true h0]; rfl
      have gn : ((nz : Int) == 1) = true := by rw [en]; rfl
      have hYes := pRefuseYes 1 w2
      go_wp2_with fail
      refine hYes.mono ?_
      rintro e w4 ⟨rfl, rfl⟩
      exact ⟨rfl, .inr (.inl ⟨⟨l1, l2⟩, h0, rfl, k2⟩)⟩
    · have en : nz = 0 := by rw [HNZ.out, decide_eq_false h0]; rfl
      have gn : ((nz : Int) == 1) = false := by rw [en]; rfl
      have hNo := pRefuseNo 1 w2
      have hD2 := hD w2 k2 l1 l2 (by omega)
      clear hD
      go_wp2_with fail
      refine hNo.mono ?_
      rintro e w3 ⟨rfl, rfl⟩
      clear hNo
      go_wp2_with fail
      refine hD2.mono ?_
      rintro e w4 ⟨v1, v2, rfl, ho1, ho2, k4⟩
      obtain ⟨xo, xc, rfl⟩ := own_slice ho1
      obtain ⟨yo, yc, rfl⟩ := own_slice ho2
      have hxQ3 := hxQ.grew k4
      have hxR3 := hxR.grew k4
      have cQ := hxQ3.cell
      have fQ := hxQ3.free
      have cR := hxR3.cell
      have fR := hxR3.free
      have hlt1 := hxQ.lt
      have hlt2 := hxR.lt
      have hsz := k2.size
      have kb : Kept (fun b => b = bQ ∨ b = bR) w4 (w4.setCell ⟨bQ, 0, none⟩ (.slice xo L xc)) := (kept_box w4 bQ (.slice xo L xc)).mono (fun _ _ e => .inl e)
      have kb2 := kb.next (kept_box _ bR (.slice yo M yc)) (fun _ _ e => .inr e)
      have HO1 := toHid (own_base (base' := w1.heap.size) (kb2.own ho1 (fun b hb e => by have := (ho1.lt b hb).1; omega)) (fun b hb => by have := (ho1.lt b hb).1; omega))
      have HO2 := toHid (own_base (base' := w1.heap.size) (kb2.own ho2 (fun b hb e => by have := (ho2.lt b hb).1; omega)) (fun b hb => by have := (ho2.lt b hb).1; omega))
      have HX1 := toHid ((hxQ3.set (.slice xo L xc)).other ⟨bR, 0, none⟩ hne (.slice yo M yc))
      have HX2 := toHid ((hxR3.other ⟨bQ, 0, none⟩ (fun e => hne e.symm) (.slice xo L xc)).set (.slice yo M yc))
      have HKB := toHid ((k2.trans k4).any.trans kb2)
      clear ho1 ho2 hxQ3 hxR3 kb kb2 hxQ hxR cA2 cB2 hD2
      go_wp2_with fail
      go_end0
      exact .inr (.inr ⟨⟨l1, l2⟩, h0, rfl, _, _, HO1.out, HO2.out, HKB.out, HX1.out, HX2.out⟩)
  · exact ⟨rfl, .inl ⟨l1, rfl, rfl⟩⟩

set_option maxRecDepth 20000 in
set_option maxHeartbeats 2000000 in
/-- Quick. -/
theorem pQuick (ao bo : Option Addr) (L M cap dap : Nat) (xs ys : List Nat) (E : Nat) (hE : E = divE (val 18446744073709551616 ys) L M) (w : World) (hu : Row .u64 w (.slice ao L cap) xs) (hv : Row .u64 w (.slice bo M dap) ys) (hdx : Digs 18446744073709551616 xs) (hdy : Digs 18446744073709551616 ys) :
    Calls Tryz.prog 94 #[.slice ao L cap, .slice bo M dap] w fun e w' => ∃ v1 v2, e = .returned (.tuple #[v1, v2, .int .i64 (E : Nat)]) ∧
      Row .u64 w' v1 (divQ (val 18446744073709551616 xs) (val 18446744073709551616 ys) L M) ∧ Row .u64 w' v2 (divR (val 18446744073709551616 xs) (val 18446744073709551616 ys) L M) ∧ Kept Nought w w' := by
  have hmf : ∀ (fn : Fn) (first cap : Array Value) (w : World), (Instr.makeFunc fn first cap).run Tryz.prog w = .ok (.func fn first cap) w := fun _ _ _ _ => rfl
  have hbx := boxes4 w (.slice ao L cap) (.slice bo M dap) (.slice none 0 0) (.slice none 0 0) 31 31 31 31
  have he : ∀ args w, (callFunc 129 args).run Tryz.prog w = .ok (.enter 129 args) w := fun _ _ => by simp [go_sem]
  obtain ⟨X, hX⟩ : ∃ X, X = val 18446744073709551616 xs := ⟨_, rfl⟩
  obtain ⟨Y, hY⟩ : ∃ Y, Y = val 18446744073709551616 ys := ⟨_, rfl⟩
  rw [← hY] at hE
  rw [← hX, ← hY]
  have HE := toHid hE
  have HX := toHid hX
  have HY := toHid hY
  clear hE hX hY
  go_enter Tryz.func94, Tryz.ntmps94
  go_wp2_with fail
  generalize (((w.alloc (.cells #[.slice ao L cap] 31)).alloc (.cells #[.slice bo M dap] 31)).alloc (.cells #[.slice none 0 0] 31)).alloc (.cells #[.slice none 0 0] 31) = W at *
  obtain ⟨k0, x2, x3, x4, x5, hs⟩ := hbx
  have k1 := k0.alloc (.cells #[.int .i64 0] 32)
  have xe := Box.new W (.int .i64 0) 32
  have h1 := pQuick1 ao bo L M cap dap xs ys X Y HX.out HY.out _ _ _ _ _ (hu.grew k1) (hv.grew k1) hdx hdy (x2.alloc _) (x3.alloc _) (x4.alloc (.cells #[.int .i64 0] 32)) (x5.alloc _) (by omega)
  have hsz : (W.alloc (.cells #[.int .i64 0] 32)).heap.size = W.heap.size + 1 := by simp
  refine (pAttempt 129 _ W (fun n W' => n = (E : Int) ∧ ∃ ro rc ln so sc lm, Box W' (w.heap.size + 1 + 1) (.slice ro ln rc) 31 ∧ Box W' (w.heap.size + 1 + 1 + 1) (.slice so lm sc) 31 ∧ Row .u64 W' (.slice ro ln rc) (divQ X Y L M) ∧ Row .u64 W' (.slice so lm sc) (divR X Y L M) ∧ (∀ b, (Value.slice ro ln rc).ownBlock = some b → W.heap.size + 1 ≤ b) ∧ (∀ b, (Value.slice so lm sc).ownBlock = some b → W.heap.size + 1 ≤ b) ∧ Kept Nought w W') he (h1.mono ?_)).mono ?_
  · rintro e w' (⟨hl, rfl, rfl⟩ | ⟨hl, h0, rfl, kz⟩ | ⟨hl, h0, rfl, v1, v2, ho1, ho2, hk, hb1, hb2⟩)
    · obtain ⟨e1, e2, e3⟩ := div_long (X := X) (Y := Y) hl
      exact ⟨xe, .inr ⟨2, rfl, by rw [HE.out, e1]; rfl, none, 0, 0, none, 0, 0, x4.alloc _, x5.alloc _, by rw [e2]; exact Row.nil _ _, by rw [e3]; exact Row.nil _ _, (fun b hb => by cases hb), (fun b hb => by cases hb), k1⟩⟩
    · obtain ⟨e1, e2, e3⟩ := div_zero (X := X) hl h0
      exact ⟨xe.grew kz, .inr ⟨1, rfl, by rw [HE.out, e1]; rfl, none, 0, 0, none, 0, 0, (x4.alloc _).grew kz, (x5.alloc _).grew kz, by rw [e2]; exact Row.nil _ _, by rw [e3]; exact Row.nil _ _, (fun b hb => by cases hb), (fun b hb => by cases hb), k1.trans kz⟩⟩
    · obtain ⟨e1, e2, e3⟩ := div_good (X := X) hl h0
      rw [hsz] at ho1 ho2
      have hxE := xe.kept hk (by omega)
      obtain ⟨xo, xc, rfl⟩ := own_slice ho1
      obtain ⟨yo, yc, rfl⟩ := own_slice ho2
      exact ⟨hxE, .inl ⟨rfl, by rw [HE.out, e1]; rfl, xo, xc, L, yo, yc, M, hb1, hb2, by rw [e2]; exact own_row' ho1 (digs_length _ _ _), by rw [e3]; exact own_row' ho2 (digs_length _ _ _), (fun b hb => (ho1.lt b hb).1), (fun b hb => (ho2.lt b hb).1), k1.next hk (fun x hx e => by rcases e with e | e <;> omega)⟩⟩
  · rintro e w' ⟨n, w1, rfl, ⟨⟨rfl, ro, rc, ln, so, sc, lm, hb1, hb2, hr1, hr2, hn1, hn2, hk⟩, hbe⟩, rfl⟩
    have hbx1 := hb1.other ⟨W.heap.size, 0, none⟩ (by show _ ≠ W.heap.size; omega) (.int .i64 (E : Int))
    have hbx2 := hb2.other ⟨W.heap.size, 0, none⟩ (by show _ ≠ W.heap.size; omega) (.int .i64 (E : Int))
    have c1 := hbx1.cell
    have f1 := hbx1.free
    have c2 := hbx2.cell
    have f2 := hbx2.free
    have hne : w.heap.size + 1 + 1 ≠ w.heap.size + 1 + 1 + 1 := by omega
    have c3 := ((hbx1.set (.slice ro ln rc)).other ⟨w.heap.size + 1 + 1 + 1, 0, none⟩ hne (.slice so lm sc)).cell
    have c4 := ((hbx2.other ⟨w.heap.size + 1 + 1, 0, none⟩ hne.symm (.slice ro ln rc)).set (.slice so lm sc)).cell
    have kb0 : Kept (fun b => b = W.heap.size ∨ b = w.heap.size + 1 + 1 ∨ b = w.heap.size + 1 + 1 + 1) w1 (w1.setCell ⟨W.heap.size, 0, none⟩ (.int .i64 (E : Int))) := (kept_box w1 W.heap.size _).mono (fun _ _ e => .inl e)
    have kb1 := kb0.next (kept_box _ (w.heap.size + 1 + 1) (.slice ro ln rc)) (fun _ _ e => .inr (.inl e))
    have kb2 := kb1.next (kept_box _ (w.heap.size + 1 + 1 + 1) (.slice so lm sc)) (fun _ _ e => .inr (.inr e))
    have HK := toHid (hk.next kb2 (fun x hx e => by rcases e with e | e | e <;> omega))
    have HR1 := toHid (hr1.kept kb2 (fun b hb e => by have := hn1 b hb; omega))
    have HR2 := toHid (hr2.kept kb2 (fun b hb e => by have := hn2 b hb; omega))
    generalize w1.setCell ⟨W.heap.size, 0, none⟩ (.int .i64 (E : Int)) = W2 at *
    clear h1 hb1 hb2 hbx1 hbx2 hr1 hr2 hn1 hn2 kb0 kb1 kb2 hk hbe hu hv x2 x3 x4 x5 xe k0 k1 hsz he hmf
    go_wp2_with fail
    go_region
    all_goals
      go_wp2
      refine bodyPost_ret (v := .tuple #[.slice ro ln rc, .slice so lm sc, .int .i64 (E : Nat)]) (by simp [results, Tryz.results94, go_sem, c3, c4]) rfl ?_
      exact ⟨_, _, rfl, HR1.out.grew (Kept.refl _ _).drew, HR2.out.grew (Kept.refl _ _).drew, HK.out.drew⟩

end Go.Proofs.YtcjaafmlflonhaaGreatDoor


/- Package inverse: needed, Divisor, Coprime. -/
namespace Go.Proofs.YtcjaafmlflonhaaGreatDoor
open Go.RowKit

/-- The number that a slice of words is, 0 where it is none. -/
def numOf (w : World) : Value → Nat
  | .slice (some a) n _ => val 18446744073709551616 ((List.range n).map fun i => cellN w ⟨a.block, a.off + i, none⟩)
  | _ => 0

theorem Row.num {w : World} {v : Value} {ds : List Nat} (h1 : Row .u64 w v ds) : numOf w v = val 18446744073709551616 ds := by
  obtain ⟨ao, cap, rfl, _, _, _, hc⟩ := h1
  cases ao with
  | none =>
    have : ds = [] := by
      rcases ds with _ | ⟨d, r⟩
      · rfl
      · obtain ⟨b, off, e, _⟩ := hc 0 (by simp)
        cases e
    subst this
    rfl
  | some a =>
    show val 18446744073709551616 ((List.range ds.length).map fun i => cellN w ⟨a.block, a.off + i, none⟩) = _
    congr 1
    refine List.ext_getElem (by simp) (fun i h1 h2 => ?_)
    obtain ⟨b, off, e, hcell⟩ := hc i h2
    cases e
    rw [List.getElem_map, List.getElem_range]
    unfold cellN
    rw [hcell, List.getD_eq_getElem?_getD, List.getElem?_eq_getElem h2]
    simp

theorem val_cut {xs : List Nat} {m : Nat} (hm : m ≤ xs.length) (h : val 18446744073709551616 xs < 18446744073709551616 ^ m) : val 18446744073709551616 (xs.take m) = val 18446744073709551616 xs := by
  have e := val_take_drop 18446744073709551616 xs m hm
  rcases Nat.eq_zero_or_pos (val 18446744073709551616 (xs.drop m)) with h0 | h0
  · rw [h0] at e
    omega
  · have := Nat.mul_le_mul_left (18446744073709551616 ^ m) h0
    omega

set_option maxRecDepth 20000 in
set_option maxHeartbeats 1000000 in
/-- needed. -/
theorem iNeed (ao : Option Addr) (n cap : Nat) (xs : List Nat) (w : World) (h : Row .u64 w (.slice ao n cap) xs) (hd : Digs 18446744073709551616 xs) (hl : n ≤ 300) :
    Calls Tryz.prog 95 #[.slice ao n cap] w fun e w' => ∃ (ao' : Option Addr) (m cap' : Nat) (ys : List Nat), e = .returned (.slice ao' m cap') ∧ m ≤ n ∧ Row .u64 w (.slice ao' m cap') ys ∧ Digs 18446744073709551616 ys ∧ val 18446744073709551616 ys = val 18446744073709551616 xs ∧ w' = w := by
  have hB := nBits _ xs w h hd (by obtain ⟨_, _, _, e, h', _⟩ := h.open; cases e; rw [h'.out]; omega)
  obtain ⟨_, _, _, e1, hL, hnc, hcm, hnil, _⟩ := h.open
  cases e1
  obtain ⟨m, hm⟩ : ∃ m, m = wordsN (val 18446744073709551616 xs) := ⟨_, rfl⟩
  have hmn : m ≤ n := by
    rw [hm, ← hL.out]
    exact (wordsN_le _ _).2 (val_lt (by omega) hd)
  have hbl := needs_words (val 18446744073709551616 xs)
  rw [← hm] at hbl
  have hbb : blen (val 18446744073709551616 xs) ≤ 64 * n := by
    rw [blen_le, ← B64, ← hL.out]
    exact val_lt (by omega) hd
  have hv : val 18446744073709551616 (xs.take m) = val 18446744073709551616 xs := val_cut (by rw [hL.out]; exact hmn) ((wordsN_le _ _).1 (by omega))
  have HRow := toHid (h.cut (m := m) (by rw [hL.out]; exact hmn))
  have HD := toHid (hd.take m)
  have HV := toHid hv
  obtain ⟨b, hb⟩ : ∃ b, b = blen (val 18446744073709551616 xs) := ⟨_, rfl⟩
  rw [← hb] at hB hbl hbb
  have g1 : ((b : Int) + 64 - 1) / 64 = (m : Int) := by omega
  have g2 : (m : Int) ≤ (cap : Int) := by omega
  have g0 : (0 : Int) ≤ (m : Int) := Int.natCast_nonneg _
  have hcap : n ≤ cap := hnc
  clear hv hbl hb h hd hL hm
  go_enter Tryz.func95, Tryz.ntmps95
  go_wp2_with fail
  refine hB.mono ?_
  rintro e w1 ⟨rfl, rfl⟩
  clear hB
  go_wp2_with fail
  go_ret
  exact ⟨_, _, _, _, rfl, hmn, HRow.out, HD.out, HV.out, rfl⟩

theorem gcd_fits {A C n : Nat} (hA : A < 18446744073709551616 ^ n) (hC : C < 18446744073709551616 ^ n) : Nat.gcd A C < 18446744073709551616 ^ n := by
  rcases Nat.eq_zero_or_pos A with h | h
  · rw [h, Nat.gcd_zero_left]; exact hC
  · exact Nat.lt_of_le_of_lt (Nat.gcd_le_left _ h) hA

theorem res_fits {V n : Nat} (h : V < 18446744073709551616 ^ n) (hn : n ≤ 300) : resCode V (n : Int) = 0 ∧ resList V (n : Int) = digs 18446744073709551616 V n := by
  have hw := (wordsN_le V n).2 h
  have e : resCode V (n : Int) = 0 := by
    unfold resCode
    rw [if_neg (by omega), if_neg (by omega)]
  exact ⟨e, by unfold resList; rw [if_pos e]; rfl⟩

set_option maxRecDepth 40000 in
set_option maxHeartbeats 4000000 in
/-- Divisor. -/
theorem iDivisor (ao bo : Option Addr) (L M cap dap : Nat) (xs ys : List Nat) (E : Nat) (hE : E = if okLen L M = true then 0 else 2) (RL : List Nat) (hRL : RL = if E = 0 then digs 18446744073709551616 (Nat.gcd (val 18446744073709551616 xs) (val 18446744073709551616 ys)) (max L M) else []) (w : World) (hu : Row .u64 w (.slice ao L cap) xs) (hv : Row .u64 w (.slice bo M dap) ys) (hdx : Digs 18446744073709551616 xs) (hdy : Digs 18446744073709551616 ys) :
    Calls Tryz.prog 63 #[.slice ao L cap, .slice bo M dap] w fun e w' => ∃ v', e = .returned (.tuple #[v', .int .i64 (E : Nat)]) ∧ Row .u64 w' v' RL ∧ Kept Nought w w' := by
  have lx : xs.length = L := by obtain ⟨_, _, _, e, h, _⟩ := hu.open; cases e; exact h.out
  have ly : ys.length = M := by obtain ⟨_, _, _, e, h, _⟩ := hv.open; cases e; exact h.out
  have hmax : max (L : Int) (M : Int) = ((max L M : Nat) : Int) := by omega
  by_cases hok : L ≤ 300 ∧ M ≤ 300
  · rw [if_pos (by unfold okLen; exact decide_eq_true hok)] at hE
    subst hE
    rw [if_pos rfl] at hRL
    have hA : val 18446744073709551616 xs < 18446744073709551616 ^ max L M := Nat.lt_of_lt_of_le (val_lt (by omega) hdx) (Nat.pow_le_pow_right (by omega) (by omega))
    have hC : val 18446744073709551616 ys < 18446744073709551616 ^ max L M := Nat.lt_of_lt_of_le (val_lt (by omega) hdy) (Nat.pow_le_pow_right (by omega) (by omega))
    have hG := gcd_fits hA hC
    have hN3 : max L M ≤ 300 := by omega
    obtain ⟨r1, r2⟩ := res_fits hG hN3
    have g1 : ¬ ((max L M : Nat) : Int) > 300 := by omega
    have HU := toHid hu
    have HV := toHid hv
    have HX := toHid hdx
    have HY := toHid hdy
    have HRL := toHid hRL
    have HR1 := toHid r1
    have HR2 := toHid r2
    obtain ⟨G, hGd⟩ : ∃ G, G = Nat.gcd (val 18446744073709551616 xs) (val 18446744073709551616 ys) := ⟨_, rfl⟩
    rw [← hGd] at HR1 HR2 HRL
    have HGd := toHid hGd.symm
    generalize max L M = N at *
    clear hu hv hdx hdy hRL r1 r2 hG hA hC hGd lx ly
    go_enter Tryz.func63, Tryz.ntmps63
    go_wp2_with fail
    go_loopw [0, 1] (fun a b wr => ∃ (ao bo : Option Addr) (L M cap dap : Nat) (xs ys : List Nat), a = .slice ao L cap ∧ b = .slice bo M dap ∧ L ≤ 300 ∧ M ≤ 300 ∧ Hid (Row .u64 wr (.slice ao L cap) xs) ∧ Hid (Row .u64 wr (.slice bo M dap) ys) ∧ Hid (Digs 18446744073709551616 xs) ∧ Hid (Digs 18446744073709551616 ys) ∧ Hid (Nat.gcd (val 18446744073709551616 xs) (val 18446744073709551616 ys) = G) ∧ Hid (Kept Nought w wr)) (fun _ b wr => numOf wr b)
    case atStart => exact ⟨ao, bo, L, M, cap, dap, xs, ys, rfl, rfl, hok.1, hok.2, HU.out, HV.out, HX.out, HY.out, HGd.out, Kept.refl _ _⟩
    case round =>
      clear HU HV HX HY HGd hok
      obtain ⟨ao, bo, L, M, cap, dap, xs, ys, rfl, rfl, hL, hM, HU, HV, HX, HY, HG, HK⟩ := hrel
      have ly : ys.length = M := by obtain ⟨_, _, _, e, h, _⟩ := HV.out.open; cases e; exact h.out
      have hB := nBits _ ys wr HV.out HY.out (by rw [ly]; omega)
      have hnum := HV.out.num
      by_cases h0 : val 18446744073709551616 ys = 0
      · have hbl : blen (val 18446744073709551616 ys) = 0 := by rw [h0]; rfl
        rw [hbl] at hB
        have hG2 := HG.out
        rw [h0, Nat.gcd_zero_right] at hG2
        have hRs := nResize _ xs (N : Int) wr HU.out HX.out
        rw [hG2, HR1.out, HR2.out] at hRs
        have HKK := toHid HK.out
        clear hnum hbl hG2 h0 ly
        go_wp2_with fail
        refine hB.mono ?_
        rintro e w1 ⟨rfl, rfl⟩
        clear hB
        go_wp2_with fail
        refine hRs.mono ?_
        rintro e w2 ⟨v2, rfl, hr2, k2⟩
        go_wp2_with fail
        go_ret2
        refine ⟨_, by first | rfl | trivial, ?_, HKK.out.trans k2⟩
        rw [HRL.out]
        exact hr2
      · obtain ⟨E, hE⟩ : ∃ E, E = divE (val 18446744073709551616 ys) L M := ⟨_, rfl⟩
        obtain ⟨e1, _, e3⟩ := div_good (X := val 18446744073709551616 xs) (Y := val 18446744073709551616 ys) (L := L) (M := M) ⟨hL, hM⟩ h0
        have hQ := pQuick ao bo L M cap dap xs ys 0 e1.symm wr HU.out HV.out HX.out HY.out
        rw [e3] at hQ
        have hbp : 0 < blen (val 18446744073709551616 ys) := by
          rcases Nat.eq_zero_or_pos (blen (val 18446744073709551616 ys)) with h | h
          · have := (blen_le (val 18446744073709551616 ys) 0).1 (by omega)
            rw [Nat.pow_zero] at this
            omega
          · exact h
        obtain ⟨bl, hbl⟩ : ∃ bl, bl = blen (val 18446744073709551616 ys) := ⟨_, rfl⟩
        rw [← hbl] at hB hbp
        have gb : (bl : Int) > 0 := by omega
        have hlt : val 18446744073709551616 xs % val 18446744073709551616 ys < val 18446744073709551616 ys := Nat.mod_lt _ (by omega)
        have lyB : val 18446744073709551616 ys < 18446744073709551616 ^ M := by rw [← ly]; exact val_lt (by omega) HY.out
        have HMod : Hid (val 18446744073709551616 (digs 18446744073709551616 (val 18446744073709551616 xs % val 18446744073709551616 ys) M) = val 18446744073709551616 xs % val 18446744073709551616 ys) := by
          unfold Hid
          rw [val_digs, Nat.mod_eq_of_lt (by omega)]
        have HGN : Hid (Nat.gcd (val 18446744073709551616 ys) (val 18446744073709551616 xs % val 18446744073709551616 ys) = G) := by
          unfold Hid
          rw [← HG.out, Nat.gcd_comm (val 18446744073709551616 ys), ← Nat.gcd_rec, Nat.gcd_comm]
        have HLT := toHid hlt
        have HNUM := toHid hnum
        clear hE e1 e3 hbl hlt lyB h0 HG hnum ly
        go_wp2_with fail
        refine hB.mono ?_
        rintro e w1 ⟨rfl, rfl⟩
        clear hB
        go_wp2_with fail
        refine hQ.mono ?_
        rintro e w2 ⟨v1, v2, rfl, hr1, hr2, k2⟩
        obtain ⟨ro, rn, rc, rfl, hrl, _⟩ := hr2.open
        have ern : rn = M := by rw [← hrl.out, digs_length]
        subst ern
        have hNd := iNeed ro rn rc _ w2 hr2 (digs_digs (by omega) _ _) hM
        clear hQ hr1 hrl
        go_wp2_with fail
        refine hNd.mono ?_
        rintro e w3 ⟨ao', m', cap', zs, rfl, hm', hr3, hd3, hv3, rfl⟩
        rw [HMod.out] at hv3
        have HR3 := toHid hr3
        have HD3 := toHid hd3
        have HV3 := toHid hv3
        have HV2 := toHid (HV.out.grew k2)
        have HK2 := toHid (HK.out.trans k2)
        clear hNd hr2 hr3 hd3 hv3 k2
        go_wp2_with fail
        go_roundw
        case rel => exact ⟨bo, ao', rn, m', dap, cap', ys, zs, rfl, rfl, hM, by omega, HV2.out, HR3.out, HY.out, HD3.out, by unfold Hid; rw [HV3.out]; exact HGN.out, HK2.out⟩
        case measure => rw [HR3.out.num, HV3.out, HNUM.out]; exact HLT.out
  · rw [if_neg (by unfold okLen; simpa using hok)] at hE
    subst hE
    rw [if_neg (by omega)] at hRL
    subst hRL
    have g1 : ((max L M : Nat) : Int) > 300 := by omega
    clear hu hv hdx hdy lx ly
    generalize max L M = N at *
    go_enter Tryz.func63, Tryz.ntmps63
    go_wp2
    go_ret2
    exact ⟨_, rfl, Row.nil _ _, Kept.refl _ _⟩

theorem blen_is1 (V : Nat) : blen V = 1 ↔ V = 1 := by
  have h1 := blen_le V 1
  have h0 := blen_le V 0
  rw [Nat.pow_one] at h1
  rw [Nat.pow_zero] at h0
  omega

set_option maxRecDepth 20000 in
set_option maxHeartbeats 1000000 in
/-- Coprime. -/
theorem iCoprime (ao bo : Option Addr) (L M cap dap : Nat) (xs ys : List Nat) (R : Bool) (hR : R = decide (okLen L M = true ∧ Nat.gcd (val 18446744073709551616 xs) (val 18446744073709551616 ys) = 1)) (w : World) (hu : Row .u64 w (.slice ao L cap) xs) (hv : Row .u64 w (.slice bo M dap) ys) (hdx : Digs 18446744073709551616 xs) (hdy : Digs 18446744073709551616 ys) :
    Calls Tryz.prog 32 #[.slice ao L cap, .slice bo M dap] w fun e w' => e = .returned (.bool R) ∧ Kept Nought w w' := by
  have lx : xs.length = L := by obtain ⟨_, _, _, e, h, _⟩ := hu.open; cases e; exact h.out
  have ly : ys.length = M := by obtain ⟨_, _, _, e, h, _⟩ := hv.open; cases e; exact h.out
  by_cases hok : okLen L M = true
  · have hD := iDivisor ao bo L M cap dap xs ys 0 (by rw [if_pos hok]) _ rfl w hu hv hdx hdy
    rw [if_pos rfl] at hD
    have hLM : L ≤ 300 ∧ M ≤ 300 := by unfold okLen at hok; simpa using hok
    have hA : val 18446744073709551616 xs < 18446744073709551616 ^ max L M := Nat.lt_of_lt_of_le (val_lt (by omega) hdx) (Nat.pow_le_pow_right (by omega) (by omega))
    have hC : val 18446744073709551616 ys < 18446744073709551616 ^ max L M := Nat.lt_of_lt_of_le (val_lt (by omega) hdy) (Nat.pow_le_pow_right (by omega) (by omega))
    have hG := gcd_fits hA hC
    obtain ⟨G, hGd⟩ : ∃ G, G = Nat.gcd (val 18446744073709551616 xs) (val 18446744073709551616 ys) := ⟨_, rfl⟩
    rw [← hGd] at hD hG
    have HR : Hid (R = decide ((blen G : Int) = 1)) := by
      unfold Hid
      rw [hR]
      refine decide_eq_decide.2 ⟨fun h => ?_, fun h => ⟨hok, by rw [← hGd]; exact (blen_is1 G).1 (by omega)⟩⟩
      have := (blen_is1 G).2 (by rw [hGd]; exact h.2)
      omega
    have JB : Hid (∀ W v, Row .u64 W v (digs 18446744073709551616 G (max L M)) → Calls Tryz.prog 64 #[v] W fun r w' => r = .returned (.int .i64 (blen G : Nat)) ∧ w' = W) := fun W v h => by
      have := nBits v _ W h (digs_digs (by omega) _ _) (by rw [digs_length]; omega)
      rw [val_digs, Nat.mod_eq_of_lt hG] at this
      exact this
    clear hu hv hdx hdy lx ly hR hok hA hC hG hGd
    generalize blen G = bl at *
    go_enter Tryz.func32, Tryz.ntmps32
    go_wp2_with fail
    refine hD.mono ?_
    rintro e w1 ⟨v1, rfl, hr1, k1⟩
    have hB := JB.out w1 v1 hr1
    clear hD
    go_wp2_with fail
    refine hB.mono ?_
    rintro e w2 ⟨rfl, rfl⟩
    go_wp2_with fail
    go_ret
    rw [HR.out]
    exact ⟨by first | rfl | simp, k1⟩
  · have hD := iDivisor ao bo L M cap dap xs ys 2 (by rw [if_neg hok]) _ rfl w hu hv hdx hdy
    have HR : Hid (R = false) := by
      unfold Hid
      rw [hR]
      exact decide_eq_false (fun h => hok h.1)
    clear hu hv hdx hdy lx ly hR hok
    go_enter Tryz.func32, Tryz.ntmps32
    go_wp2_with fail
    refine hD.mono ?_
    rintro e w1 ⟨v1, rfl, hr1, k1⟩
    clear hD
    go_wp2_with fail
    go_ret
    rw [HR.out]
    exact ⟨by first | rfl | simp, k1⟩

end Go.Proofs.YtcjaafmlflonhaaGreatDoor

