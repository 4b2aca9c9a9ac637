/- Put together of: Ref5A PrK QuH LimN L5B Lays NatB Seq0. -/
import Derived.Test.YtiljkgoafknefaaGreatPk1
import Derived.Test.YtiljkgoafknefaaGreatPk3
import Derived.Test.YtiljkgoafknefaaGreatPk4
import Derived.Test.YtiljkgoafknefaaGreatPk5
import Derived.Test.YtiljkgoafknefaaGreatPk9
import Derived.Test.YtiljkgoafknefaaGreatPk12
import Derived.Test.YtiljkgoafknefaaGreatPk17
import Derived.Test.YtiljkgoafknefaaGreatPk19
import Derived.Shelf.Strings.BuilderK
import Derived.Shelf.Strings.Repeat
import Derived.Shelf.Small.Wraps
import Derived.Shelf.Strconv.Itoa0
import Derived.RangeFuncWrites
import Derived.RangeFuncNested
import Derived.RangeFuncBound
import Derived.RangeFuncCalls
import Derived.RangeFuncLeaves
import Derived.RangeFuncBox
import Derived.Shelf.Abstract
import Derived.Shelf.RegionOpen
import Derived.OwnWalkIn
import Derived.TacticsInMore
import Derived.LoopNIn
import Derived.LoopIn
import Derived.Deep.RegionHeld3

/- The plain side of layer 5 (package sconceref05): products, quotients, rests of any numbers. -/
namespace Go.Proofs.YtiljkgoafknefaaGreat
open Go.RowKit

/-- Whether numbers of these lengths are within the bound. -/
def okLen (L M : Nat) : Bool := decide (L ≤ 300 ∧ M ≤ 300)

/-- What Divide answers: the error's number, quotient, rest. -/
def divE (Y L M : Nat) : Nat := if okLen L M = true then (if Y = 0 then 1 else 0) else 2

def divQ (X Y L M : Nat) : List Nat := if divE Y L M = 0 then digs 18446744073709551616 (X / Y) L else []

def divR (X Y L M : Nat) : List Nat := if divE Y L M = 0 then digs 18446744073709551616 (X % Y) M else []

end Go.Proofs.YtiljkgoafknefaaGreat


/- Package product: Divide. -/
namespace Go.Proofs.YtiljkgoafknefaaGreat
open Go.RowKit

theorem div_long {X Y L M : Nat} (h : ¬ (L ≤ 300 ∧ M ≤ 300)) : divE Y L M = 2 ∧ divQ X Y L M = [] ∧ divR X Y L M = [] := by
  have e : divE Y L M = 2 := by unfold divE okLen; rw [if_neg (by simpa using h)]
  refine ⟨e, ?_, ?_⟩
  · unfold divQ; rw [e, if_neg (by omega)]
  · unfold divR; rw [e, if_neg (by omega)]

theorem div_zero {X Y L M : Nat} (h : L ≤ 300 ∧ M ≤ 300) (h0 : Y = 0) : divE Y L M = 1 ∧ divQ X Y L M = [] ∧ divR X Y L M = [] := by
  have e : divE Y L M = 1 := by unfold divE okLen; rw [if_pos (by simpa using h), if_pos h0]
  refine ⟨e, ?_, ?_⟩
  · unfold divQ; rw [e, if_neg (by omega)]
  · unfold divR; rw [e, if_neg (by omega)]

theorem div_good {X Y L M : Nat} (h : L ≤ 300 ∧ M ≤ 300) (h0 : Y ≠ 0) : divE Y L M = 0 ∧ divQ X Y L M = digs 18446744073709551616 (X / Y) L ∧ divR X Y L M = digs 18446744073709551616 (X % Y) M := by
  have e : divE Y L M = 0 := by unfold divE okLen; rw [if_pos (by simpa using h), if_neg h0]
  refine ⟨e, ?_, ?_⟩
  · unfold divQ; rw [if_pos e]
  · unfold divR; rw [if_pos e]

end Go.Proofs.YtiljkgoafknefaaGreat


/- Package product: Quick. -/
namespace Go.Proofs.YtiljkgoafknefaaGreat
open Go.RowKit

theorem zero0 (u : Value) (xs : List Nat) (w : World) (hu : Row .u64 w u xs) (hdx : Digs 18446744073709551616 xs) (hL : xs.length ≤ 100000000) :
    Calls Tryz.prog 106 #[.pointer none, u] w fun e w' => e = .returned (.int .u64 (oneN (decide (val 18446744073709551616 xs = 0)) : Nat)) ∧ Kept Nought w w' := by
  refine (lZero none u xs w (TrRoom.none w 1 (by omega)) (RowT.none hu) hdx hL).mono ?_
  rintro e w' ⟨rfl, o', hd⟩
  exact ⟨rfl, hd.none.2⟩

set_option maxRecDepth 20000 in
set_option maxHeartbeats 2000000 in
/-- What Quick attempts. -/
theorem pQuick1 (ao bo : Option Addr) (L M cap dap : Nat) (xs ys : List Nat) (X Y : Nat) (hX : X = val 18446744073709551616 xs) (hY : Y = val 18446744073709551616 ys) (bA bB bQ bR : Nat) (w : World) (hu : Row .u64 w (.slice ao L cap) xs) (hv : Row .u64 w (.slice bo M dap) ys) (hdx : Digs 18446744073709551616 xs) (hdy : Digs 18446744073709551616 ys)
    (hA : Box w bA (.slice ao L cap) 23) (hB : Box w bB (.slice bo M dap) 23) (hQ : Box w bQ (.slice none 0 0) 23) (hR : Box w bR (.slice none 0 0) 23) (hne : bQ ≠ bR) :
    Calls Tryz.prog 105 #[.pointer (some ⟨bA, 0, none⟩), .pointer (some ⟨bB, 0, none⟩), .pointer (some ⟨bQ, 0, none⟩), .pointer (some ⟨bR, 0, none⟩)] w fun e w' =>
      (¬ (L ≤ 300 ∧ M ≤ 300) ∧ e = .panicked [refusal 2] ∧ w' = w) ∨ ((L ≤ 300 ∧ M ≤ 300) ∧ Y = 0 ∧ e = .panicked [refusal 1] ∧ Kept Nought w w') ∨
      ((L ≤ 300 ∧ M ≤ 300) ∧ Y ≠ 0 ∧ e = .returned (.tuple #[]) ∧ ∃ v1 v2, OwnN .u64 24 w' w.heap.size v1 L (digs 18446744073709551616 (X / Y) L) ∧ OwnN .u64 24 w' w.heap.size v2 M (digs 18446744073709551616 (X % Y) M) ∧ Kept (fun b => b = bQ ∨ b = bR) w w' ∧ Box w' bQ v1 23 ∧ Box w' bR v2 23) := by
  obtain ⟨_, _, _, e1, hLx, _, _, _, _⟩ := hu.open
  cases e1
  obtain ⟨_, _, _, e1, hLy, _, _, _, _⟩ := hv.open
  cases e1
  have hP := fun W => pLong ao bo L M cap dap W
  have hZ := fun (l : M ≤ 300) => zero0 _ ys w hv hdy (by have := hLy.out; omega)
  rw [← hY] at hZ
  have hD := fun W (k : Kept Nought w W) (l1 : L ≤ 300) (l2 : M ≤ 300) (h0 : 0 < Y) => pWords ao bo L M cap dap xs ys X Y hX hY h0 W (hu.grew k) (hv.grew k) hdx hdy (by omega) (by omega)
  have cA := hA.cell
  have cB := hB.cell
  have HBA := toHid hA
  have HBB := toHid hB
  have HBQ := toHid hQ
  have HBR := toHid hR
  clear hu hv hdx hdy hLx hLy hA hB hQ hR hX hY
  go_enter Tryz.func105, Tryz.ntmps105
  go_wp2_with fail
  refine (hP _).mono ?_
  rintro e w1 ⟨⟨l1, l2, rfl⟩ | ⟨l1, rfl⟩, rfl⟩
  · obtain ⟨nz, hnz⟩ : ∃ nz, nz = oneN (decide (Y = 0)) := ⟨_, rfl⟩
    rw [← hnz] at hZ
    have HNZ := toHid hnz
    clear hP hnz
    go_wp2_with fail
    refine (hZ l2).mono ?_
    rintro e w2 ⟨rfl, k2⟩
    have cA2 := (HBA.out.grew k2).cell
    have cB2 := (HBB.out.grew k2).cell
    have hxQ := HBQ.out.grew k2
    have hxR := HBR.out.grew k2
    clear hZ cA cB
    by_cases h0 : Y = 0
    · have en : nz = 1 := by rw [HNZ.out, decide_eq_true h0]; rfl
      have gn : ((nz : Int) == 1) = true := by rw [en]; rfl
      have hYes := pRefuseYes 1 w2
      go_wp2_with fail
      refine hYes.mono ?_
      rintro e w4 ⟨rfl, rfl⟩
      exact ⟨rfl, .inr (.inl ⟨⟨l1, l2⟩, h0, rfl, k2⟩)⟩
    · have en : nz = 0 := by rw [HNZ.out, decide_eq_false h0]; rfl
      have gn : ((nz : Int) == 1) = false := by rw [en]; rfl
      have hNo := pRefuseNo 1 w2
      have hD2 := hD w2 k2 l1 l2 (by omega)
      clear hD
      go_wp2_with fail
      refine hNo.mono ?_
      rintro e w3 ⟨rfl, rfl⟩
      clear hNo
      go_wp2_with fail
      refine hD2.mono ?_
      rintro e w4 ⟨v1, v2, rfl, ho1, ho2, k4⟩
      obtain ⟨xo, xc, rfl⟩ := own_slice ho1
      obtain ⟨yo, yc, rfl⟩ := own_slice ho2
      have hxQ3 := hxQ.grew k4
      have hxR3 := hxR.grew k4
      have cQ := hxQ3.cell
      have fQ := hxQ3.free
      have cR := hxR3.cell
      have fR := hxR3.free
      have hlt1 := hxQ.lt
      have hlt2 := hxR.lt
      have hsz := k2.size
      have kb : Kept (fun b => b = bQ ∨ b = bR) w4 (w4.setCell ⟨bQ, 0, none⟩ (.slice xo L xc)) := (kept_box w4 bQ (.slice xo L xc)).mono (fun _ _ e => .inl e)
      have kb2 := kb.next (kept_box _ bR (.slice yo M yc)) (fun _ _ e => .inr e)
      have HO1 := toHid (own_base (base' := w1.heap.size) (kb2.own ho1 (fun b hb e => by have := (ho1.lt b hb).1; omega)) (fun b hb => by have := (ho1.lt b hb).1; omega))
      have HO2 := toHid (own_base (base' := w1.heap.size) (kb2.own ho2 (fun b hb e => by have := (ho2.lt b hb).1; omega)) (fun b hb => by have := (ho2.lt b hb).1; omega))
      have HX1 := toHid ((hxQ3.set (.slice xo L xc)).other ⟨bR, 0, none⟩ hne (.slice yo M yc))
      have HX2 := toHid ((hxR3.other ⟨bQ, 0, none⟩ (fun e => hne e.symm) (.slice xo L xc)).set (.slice yo M yc))
      have HKB := toHid ((k2.trans k4).any.trans kb2)
      clear ho1 ho2 hxQ3 hxR3 kb kb2 hxQ hxR cA2 cB2 hD2
      go_wp2_with fail
      go_end0
      exact .inr (.inr ⟨⟨l1, l2⟩, h0, rfl, _, _, HO1.out, HO2.out, HKB.out, HX1.out, HX2.out⟩)
  · exact ⟨rfl, .inl ⟨l1, rfl, rfl⟩⟩

set_option maxRecDepth 20000 in
set_option maxHeartbeats 2000000 in
/-- Quick. -/
theorem pQuick (ao bo : Option Addr) (L M cap dap : Nat) (xs ys : List Nat) (E : Nat) (hE : E = divE (val 18446744073709551616 ys) L M) (w : World) (hu : Row .u64 w (.slice ao L cap) xs) (hv : Row .u64 w (.slice bo M dap) ys) (hdx : Digs 18446744073709551616 xs) (hdy : Digs 18446744073709551616 ys) :
    Calls Tryz.prog 78 #[.slice ao L cap, .slice bo M dap] w fun e w' => ∃ v1 v2, e = .returned (.tuple #[v1, v2, .int .i64 (E : Nat)]) ∧
      Row .u64 w' v1 (divQ (val 18446744073709551616 xs) (val 18446744073709551616 ys) L M) ∧ Row .u64 w' v2 (divR (val 18446744073709551616 xs) (val 18446744073709551616 ys) L M) ∧ Kept Nought w w' := by
  have hmf : ∀ (fn : Fn) (first cap : Array Value) (w : World), (Instr.makeFunc fn first cap).run Tryz.prog w = .ok (.func fn first cap) w := fun _ _ _ _ => rfl
  have hbx := boxes4 w (.slice ao L cap) (.slice bo M dap) (.slice none 0 0) (.slice none 0 0) 23 23 23 23
  have he : ∀ args w, (callFunc 105 args).run Tryz.prog w = .ok (.enter 105 args) w := fun _ _ => by simp [go_sem]
  obtain ⟨X, hX⟩ : ∃ X, X = val 18446744073709551616 xs := ⟨_, rfl⟩
  obtain ⟨Y, hY⟩ : ∃ Y, Y = val 18446744073709551616 ys := ⟨_, rfl⟩
  rw [← hY] at hE
  rw [← hX, ← hY]
  have HE := toHid hE
  have HX := toHid hX
  have HY := toHid hY
  clear hE hX hY
  go_enter Tryz.func78, Tryz.ntmps78
  go_wp2_with fail
  generalize (((w.alloc (.cells #[.slice ao L cap] 23)).alloc (.cells #[.slice bo M dap] 23)).alloc (.cells #[.slice none 0 0] 23)).alloc (.cells #[.slice none 0 0] 23) = W at *
  obtain ⟨k0, x2, x3, x4, x5, hs⟩ := hbx
  have k1 := k0.alloc (.cells #[.int .i64 0] 27)
  have xe := Box.new W (.int .i64 0) 27
  have h1 := pQuick1 ao bo L M cap dap xs ys X Y HX.out HY.out _ _ _ _ _ (hu.grew k1) (hv.grew k1) hdx hdy (x2.alloc _) (x3.alloc _) (x4.alloc (.cells #[.int .i64 0] 27)) (x5.alloc _) (by omega)
  have hsz : (W.alloc (.cells #[.int .i64 0] 27)).heap.size = W.heap.size + 1 := by simp
  refine (pAttempt 105 _ W (fun n W' => n = (E : Int) ∧ ∃ ro rc ln so sc lm, Box W' (w.heap.size + 1 + 1) (.slice ro ln rc) 23 ∧ Box W' (w.heap.size + 1 + 1 + 1) (.slice so lm sc) 23 ∧ Row .u64 W' (.slice ro ln rc) (divQ X Y L M) ∧ Row .u64 W' (.slice so lm sc) (divR X Y L M) ∧ (∀ b, (Value.slice ro ln rc).ownBlock = some b → W.heap.size + 1 ≤ b) ∧ (∀ b, (Value.slice so lm sc).ownBlock = some b → W.heap.size + 1 ≤ b) ∧ Kept Nought w W') he (h1.mono ?_)).mono ?_
  · rintro e w' (⟨hl, rfl, rfl⟩ | ⟨hl, h0, rfl, kz⟩ | ⟨hl, h0, rfl, v1, v2, ho1, ho2, hk, hb1, hb2⟩)
    · obtain ⟨e1, e2, e3⟩ := div_long (X := X) (Y := Y) hl
      exact ⟨xe, .inr ⟨2, rfl, by rw [HE.out, e1]; rfl, none, 0, 0, none, 0, 0, x4.alloc _, x5.alloc _, by rw [e2]; exact Row.nil _ _, by rw [e3]; exact Row.nil _ _, (fun b hb => by cases hb), (fun b hb => by cases hb), k1⟩⟩
    · obtain ⟨e1, e2, e3⟩ := div_zero (X := X) hl h0
      exact ⟨xe.grew kz, .inr ⟨1, rfl, by rw [HE.out, e1]; rfl, none, 0, 0, none, 0, 0, (x4.alloc _).grew kz, (x5.alloc _).grew kz, by rw [e2]; exact Row.nil _ _, by rw [e3]; exact Row.nil _ _, (fun b hb => by cases hb), (fun b hb => by cases hb), k1.trans kz⟩⟩
    · obtain ⟨e1, e2, e3⟩ := div_good (X := X) hl h0
      rw [hsz] at ho1 ho2
      have hxE := xe.kept hk (by omega)
      obtain ⟨xo, xc, rfl⟩ := own_slice ho1
      obtain ⟨yo, yc, rfl⟩ := own_slice ho2
      exact ⟨hxE, .inl ⟨rfl, by rw [HE.out, e1]; rfl, xo, xc, L, yo, yc, M, hb1, hb2, by rw [e2]; exact own_row' ho1 (digs_length _ _ _), by rw [e3]; exact own_row' ho2 (digs_length _ _ _), (fun b hb => (ho1.lt b hb).1), (fun b hb => (ho2.lt b hb).1), k1.next hk (fun x hx e => by rcases e with e | e <;> omega)⟩⟩
  · rintro e w' ⟨n, w1, rfl, ⟨⟨rfl, ro, rc, ln, so, sc, lm, hb1, hb2, hr1, hr2, hn1, hn2, hk⟩, hbe⟩, rfl⟩
    have hbx1 := hb1.other ⟨W.heap.size, 0, none⟩ (by show _ ≠ W.heap.size; omega) (.int .i64 (E : Int))
    have hbx2 := hb2.other ⟨W.heap.size, 0, none⟩ (by show _ ≠ W.heap.size; omega) (.int .i64 (E : Int))
    have c1 := hbx1.cell
    have f1 := hbx1.free
    have c2 := hbx2.cell
    have f2 := hbx2.free
    have hne : w.heap.size + 1 + 1 ≠ w.heap.size + 1 + 1 + 1 := by omega
    have c3 := ((hbx1.set (.slice ro ln rc)).other ⟨w.heap.size + 1 + 1 + 1, 0, none⟩ hne (.slice so lm sc)).cell
    have c4 := ((hbx2.other ⟨w.heap.size + 1 + 1, 0, none⟩ hne.symm (.slice ro ln rc)).set (.slice so lm sc)).cell
    have kb0 : Kept (fun b => b = W.heap.size ∨ b = w.heap.size + 1 + 1 ∨ b = w.heap.size + 1 + 1 + 1) w1 (w1.setCell ⟨W.heap.size, 0, none⟩ (.int .i64 (E : Int))) := (kept_box w1 W.heap.size _).mono (fun _ _ e => .inl e)
    have kb1 := kb0.next (kept_box _ (w.heap.size + 1 + 1) (.slice ro ln rc)) (fun _ _ e => .inr (.inl e))
    have kb2 := kb1.next (kept_box _ (w.heap.size + 1 + 1 + 1) (.slice so lm sc)) (fun _ _ e => .inr (.inr e))
    have HK := toHid (hk.next kb2 (fun x hx e => by rcases e with e | e | e <;> omega))
    have HR1 := toHid (hr1.kept kb2 (fun b hb e => by have := hn1 b hb; omega))
    have HR2 := toHid (hr2.kept kb2 (fun b hb e => by have := hn2 b hb; omega))
    generalize w1.setCell ⟨W.heap.size, 0, none⟩ (.int .i64 (E : Int)) = W2 at *
    clear h1 hb1 hb2 hbx1 hbx2 hr1 hr2 hn1 hn2 kb0 kb1 kb2 hk hbe hu hv x2 x3 x4 x5 xe k0 k1 hsz he hmf
    go_wp2_with fail
    go_region
    all_goals
      go_wp2
      refine bodyPost_ret (v := .tuple #[.slice ro ln rc, .slice so lm sc, .int .i64 (E : Nat)]) (by simp [results, Tryz.results78, go_sem, c3, c4]) rfl ?_
      exact ⟨_, _, rfl, HR1.out.grew (Kept.refl _ _).drew, HR2.out.grew (Kept.refl _ _).drew, HK.out.drew⟩

end Go.Proofs.YtiljkgoafknefaaGreat


/- The laws' small functions of layer 4: few, both. -/
namespace Go.Proofs.YtiljkgoafknefaaGreat
open Go.RowKit

theorem own_row {w : World} {base n : Nat} {v : Value} {zs : List Nat} (h : OwnN .u64 24 w base v n zs) (hl : zs.length = n) : Row .u64 w v zs :=
  Row.of_own (base := base) (e := 24) (by rw [hl]; exact h)

end Go.Proofs.YtiljkgoafknefaaGreat


/- The calls of package product with no trace; the laws' first test of layer 5. -/
namespace Go.Proofs.YtiljkgoafknefaaGreat
open Go.RowKit

theorem mul0 (ao bo : Option Addr) (L M cap dap : Nat) (xs ys : List Nat) (w : World) (hu : Row .u64 w (.slice ao L cap) xs) (hv : Row .u64 w (.slice bo M dap) ys) (hdx : Digs 18446744073709551616 xs) (hdy : Digs 18446744073709551616 ys) :
    Calls Tryz.prog 40 #[.pointer none, .slice ao L cap, .slice bo M dap] w fun e w' => ∃ v', e = .returned v' ∧ Row .u64 w' v' (mulAns (val 18446744073709551616 xs) (val 18446744073709551616 ys) L M) ∧ Kept Nought w w' := by
  refine (pMul none ao bo L M cap dap xs ys w (TrRoom.none w 300 (by omega)) (RowT.none hu) (RowT.none hv) hdx hdy).mono ?_
  rintro e w' ⟨v', rfl, hr, _, o', hd⟩
  exact ⟨v', rfl, hr, hd.none.2⟩

end Go.Proofs.YtiljkgoafknefaaGreat


/- Where the library functions that package nat calls lie in this translation: the tables of numbers, each row checked. -/
namespace Go.Proofs.YtiljkgoafknefaaGreat
open Go.Shelf

def l122_ren : Go.Shelf.Ren := ⟨fun | 122 => 112 | 215 => 137 | n => n, fun | 3 => 3 | 4 => 4 | n => n, fun n => n⟩

theorem l122 : Lays.n122 Tryz.prog l122_ren := {
  mixed := by kernel_rfl,
  f122 := Tryz.func112.trans (congrArg some (by kernel_rfl)),
  f215 := Tryz.func137.trans (congrArg some (by kernel_rfl)),
  t3 := Tryz.underlying3,
  a3 := Tryz.isAgg3,
  z3 := Tryz.sizeOf3,
  v3 := Tryz.zeroValue3,
  t4 := Tryz.underlying4,
  a4 := Tryz.isAgg4,
  z4 := Tryz.sizeOf4,
  v4 := Tryz.zeroValue4 }

end Go.Proofs.YtiljkgoafknefaaGreat


/- Package nat: Word, Bit, Resize: what they answer, for any number. -/
namespace Go.Proofs.YtiljkgoafknefaaGreat
open Go.RowKit

set_option maxHeartbeats 400000 in
/-- Word. -/
theorem nWord (x : Nat) (hx : x < 18446744073709551616) (n : Int) (w : World) :
    Calls Tryz.prog 75 #[.int .u64 x, .int .i64 n] w fun r w' => ∃ v', r = .returned v' ∧ Row .u64 w' v' (digs 18446744073709551616 x (clampN n)) ∧ Kept Nought w w' := by
  obtain ⟨i0, hi0, hz0, hz1, hz2⟩ := info_parts Tryz.info24
  obtain ⟨m, hm⟩ : ∃ m, clampN n = m + 1 := ⟨clampN n - 1, by unfold clampN; omega⟩
  have hb : m + 1 ≤ 300 := by rw [← hm]; unfold clampN; omega
  have hc : min (max n 1) 300 = ((m + 1 : Nat) : Int) := by rw [← hm]; unfold clampN; omega
  rw [hm, word_digs x m hx]
  clear hm
  go_enter Tryz.func75, Tryz.ntmps75
  go_wp2_with (at_make; refine wpList_make_full _ rfl _ _ 23 rfl w.heap.size 24 i0 _ 1 Tryz.underlying23 hi0 hz0 hz1 _ _ _ _ (m + 1) rfl rfl (by first | exact hc | rfl) (by first | exact hc | rfl) (by rw [hz2]; omega) (by unfold maxLen; omega) (Nat.le_refl _) ?_; intro w1 ho1 hg1; rw [zeros_map] at ho1; have k1 := grown_kept hg1; have hc1 : w1.cell? ⟨w.heap.size, 0, none⟩ = some (.int .u64 0) := (by rw [World.ownsRow.cellAt ho1 0 (by omega)]; rfl); have hf := World.ownsRow.frozenAt ho1 0; have hst := (World.ownsRow.stored ho1 0 (.int .u64 (x : Nat))).1)
  go_ret
  refine ⟨_, rfl, Row.of_own (base := w.heap.size) (e := 24) ?_, k1.setCell _ (fun h => by simp at h) _⟩
  simpa [List.replicate_succ] using hst

set_option maxHeartbeats 800000 in
/-- Bit. -/
theorem nBit (v : Value) (xs : List Nat) (i : Int) (w : World) (h : Row .u64 w v xs) (hd : Digs 18446744073709551616 xs) (hi : i ≤ 9223372036854775807) :
    Calls Tryz.prog 66 #[v, .int .i64 i] w fun r w' => r = .returned (.int .u64 (bitN (val 18446744073709551616 xs) i : Nat)) ∧ w' = w := by
  obtain ⟨ao, n, cap, rfl, hL, h1, h2, h3, h4⟩ := h.open
  by_cases hi0 : i < 0
  · rw [show bitN (val 18446744073709551616 xs) i = 0 from if_pos hi0]
    clear h4 h hd
    go_enter Tryz.func66, Tryz.ntmps66
    go_wp2
    go_ret
    exact ⟨rfl, rfl⟩
  · obtain ⟨j, rfl⟩ := Int.eq_ofNat_of_zero_le (show 0 ≤ i by omega)
    rw [bitN_nat, ← bit_dig64, dig_val (by omega) hd]
    by_cases hlt : j / 64 < n
    · obtain ⟨b, off, rfl, hc⟩ := h4 (j / 64) hlt
      have hx : xs.getD (j / 64) 0 < 18446744073709551616 := hd.getD (by omega) _
      clear h4 h hd
      generalize xs.getD (j / 64) 0 = x at *
      have g1 : (j : Int) / 64 < (n : Int) := by omega
      have g2 : (0 : Int) ≤ (j : Int) / 64 := by omega
      have g3 : ((j : Int) / 64).toNat = j / 64 := by omega
      have hy := Nat.div_le_self x (2 ^ (j % 64))
      have hand : Hid (bits .and .u64 ((x : Int) / 2 ^ (j % 64)) 1 = ((x / 2 ^ (j % 64) % 2 : Nat) : Int)) := by
        unfold Hid
        have e : (x : Int) / 2 ^ (j % 64) = ((x / 2 ^ (j % 64) : Nat) : Int) := by simp
        rw [e]
        generalize x / 2 ^ (j % 64) = Y at *
        rw [and_one_u64 (Y : Int) (by omega) (by omega)]
        omega
      clear hy
      generalize x / 2 ^ (j % 64) % 2 = R at *
      go_enter Tryz.func66, Tryz.ntmps66
      go_wp2
      go_ret
      refine ⟨?_, rfl⟩
      show Ending.returned (Value.int .u64 (bits .and .u64 ((x : Int) / 2 ^ (j % 64)) 1)) = _
      rw [hand.out]
    · have hz : xs.getD (j / 64) 0 = 0 := by have := hL.out; rw [List.getD_eq_getElem?_getD, List.getElem?_eq_none (by omega)]; rfl
      rw [hz, Nat.zero_div]
      have g1 : ¬ (j : Int) / 64 < (n : Int) := by omega
      clear h4 h hd
      go_enter Tryz.func66, Tryz.ntmps66
      go_wp2
      go_ret
      exact ⟨rfl, rfl⟩

set_option maxRecDepth 20000 in
set_option maxHeartbeats 800000 in
/-- Resize: what is answered lies in new memory. -/
theorem nResizeF (v : Value) (xs : List Nat) (n : Int) (w : World) (h : Row .u64 w v xs) (hd : Digs 18446744073709551616 xs) :
    Calls Tryz.prog 77 #[v, .int .i64 n] w fun r w' => ∃ v', r = .returned (.tuple #[v', .int .i64 (resCode (val 18446744073709551616 xs) n)]) ∧ Row .u64 w' v' (resList (val 18446744073709551616 xs) n) ∧ (∀ b, v'.ownBlock = some b → w.heap.size ≤ b) ∧ Kept Nought w w' := by
  obtain ⟨i0, hi0, hz0, hz1, hz2⟩ := info_parts Tryz.info24
  have hE := nLenErr n w
  have hN := nNeed v xs w h hd
  by_cases h1 : 300 < n
  · obtain ⟨e1, e2⟩ := res_long (V := val 18446744073709551616 xs) h1
    rw [e1, e2]
    rw [if_pos h1] at hE
    go_enter Tryz.func77, Tryz.ntmps77
    go_wp2_with fail
    refine hE.mono ?_
    rintro e w' ⟨rfl, rfl⟩
    go_wp2
    go_ret2
    exact ⟨_, rfl, Row.nil _ _, (fun b hb => by cases hb), Kept.refl _ _⟩
  · rw [if_neg h1] at hE
    by_cases h2 : n < 0
    · obtain ⟨e1, e2⟩ := res_range (V := val 18446744073709551616 xs) h1 (.inl h2)
      rw [e1, e2]
      rw [if_pos h2] at hE
      go_enter Tryz.func77, Tryz.ntmps77
      go_wp2_with fail
      refine hE.mono ?_
      rintro e w' ⟨rfl, rfl⟩
      go_wp2
      go_ret2
      exact ⟨_, rfl, Row.nil _ _, (fun b hb => by cases hb), Kept.refl _ _⟩
    · rw [if_neg h2] at hE
      obtain ⟨m, rfl⟩ := Int.eq_ofNat_of_zero_le (show 0 ≤ n by omega)
      obtain ⟨RC, hRC⟩ : ∃ RC, RC = resCode (val 18446744073709551616 xs) (m : Int) := ⟨_, rfl⟩
      obtain ⟨RL, hRL⟩ : ∃ RL, RL = resList (val 18446744073709551616 xs) (m : Int) := ⟨_, rfl⟩
      rw [← hRC, ← hRL]
      have HC : Hid (RC = resCode (val 18446744073709551616 xs) (m : Int)) := hRC
      have HL : Hid (RL = resList (val 18446744073709551616 xs) (m : Int)) := hRL
      clear hRC hRL
      go_enter Tryz.func77, Tryz.ntmps77
      go_wp2_with fail
      refine hE.mono ?_
      rintro e w' ⟨rfl, rfl⟩
      go_wp2_with fail
      refine hN.mono ?_
      rintro e w' ⟨v', ys, rfl, hr, hdy, hty, hv, hlen, _, _, rfl⟩
      obtain ⟨ao, q, cap, rfl, hL, g1, g2, g3, g4⟩ := hr.open
      have hq : q = wordsN (val 18446744073709551616 xs) := by rw [← hL.out]; exact hlen.out
      by_cases h3 : q ≤ m
      · obtain ⟨e1, e2⟩ := res_ok (V := val 18446744073709551616 xs) (n := m) (by omega) (by omega)
        have h3' : ¬ (q : Int) > (m : Int) := by omega
        rw [e1] at HC
        rw [e2, fill_digs hdy hv (by rw [hL.out]; exact h3)] at HL
        obtain ⟨CS, hCS⟩ : ∃ CS, CS = ys.map (fun z : Nat => Value.int .u64 (z : Int)) := ⟨_, rfl⟩
        have hcl : CS.length = q := by rw [hCS, List.length_map]; exact hL.out
        have HCS : Hid (CS = ys.map (fun z : Nat => Value.int .u64 (z : Int))) := hCS
        have hone : ∀ u ∈ CS, u.oneCell' = true := by
          intro u hu
          rw [hCS] at hu
          obtain ⟨z, _, rfl⟩ := List.mem_map.1 hu
          rfl
        have hpos : ∀ W, Kept Nought w' W → 0 < CS.length → ∃ ad, ao = some ad ∧ ∀ j u, CS[j]? = some u → W.cell? (ad.add j) = some u := by
          intro W hk hp
          obtain ⟨b, off, rfl, _⟩ := g4 0 (by omega)
          refine ⟨_, rfl, fun j u hu => ?_⟩
          have hj : j < q := by
            have := (List.getElem?_eq_some_iff.1 hu).1
            omega
          obtain ⟨b', off', e, hc⟩ := (g4 j hj).grew hk
          simp only [Option.some.injEq, Addr.mk.injEq] at e
          obtain ⟨rfl, rfl, _⟩ := e
          rw [hCS, List.getElem?_map, List.getElem?_eq_getElem (by rw [hL.out]; exact hj)] at hu
          rw [show (⟨b, off, none⟩ : Addr).add j = ⟨b, off + j, none⟩ by simp [Addr.add], hc, ← hu, List.getD_eq_getElem?_getD, List.getElem?_eq_getElem (by rw [hL.out]; exact hj)]
          rfl
        have HP : Hid (∀ W, Kept Nought w' W → 0 < CS.length → ∃ ad, ao = some ad ∧ ∀ j u, CS[j]? = some u → W.cell? (ad.add j) = some u) := hpos
        have HO : Hid (∀ u ∈ CS, u.oneCell' = true) := hone
        have HLC : Hid (CS.length = q) := hcl
        clear hCS g4 hr hN h hE hpos hone hcl hq hv e1 e2
        go_wp2_with (at_make; refine wpList_make_full _ rfl _ _ 23 rfl w'.heap.size 24 i0 _ 1 Tryz.underlying23 hi0 hz0 hz1 _ _ _ _ m rfl rfl rfl rfl (by rw [hz2]; omega) (by unfold maxLen; omega) (Nat.le_refl _) ?_; intro w1 ho1 hg1; rw [zeros_map] at ho1; have k1 := grown_kept hg1; obtain ⟨w2, hrun, hb2, k2⟩ := run_copy_part (P := Tryz.prog) 23 23 3 24 w'.heap.size 0 m m (some ⟨w'.heap.size, 0, none⟩) ao q cap _ 24 CS Tryz.underlying23 (by rw [hi0]; simp [hz1]) (own_block ho1) (by rw [HLC.out]; exact (Nat.min_eq_left h3).symm) (fun hp => ⟨rfl, HP.out _ k1 hp⟩) (by have := HLC.out; simp; omega) HO.out; have HB2 : Hid _ := hb2; clear hb2 ho1 hg1)
        go_ret2
        have hfin := HB2.out
        rw [HCS.out, splice_fill] at hfin
        rw [HC.out, HL.out]
        exact ⟨_, rfl, Row.of_block hfin (by simp [hL.out]; omega) (by unfold maxLen; omega), (fun b hb => by simp [Value.ownBlock] at hb; omega), kept_new k1 k2 (Nat.le_refl _)⟩
      · obtain ⟨e1, e2⟩ := res_range (V := val 18446744073709551616 xs) (n := (m : Int)) (by omega) (.inr (by simp; omega))
        have h3' : (q : Int) > (m : Int) := by omega
        rw [e1] at HC
        rw [e2] at HL
        clear g4 hr hN h hE hq hv
        go_wp2
        go_ret2
        rw [HC.out, HL.out]
        exact ⟨_, rfl, Row.nil _ _, (fun b hb => by cases hb), Kept.refl _ _⟩

/-- Resize. -/
theorem nResize (v : Value) (xs : List Nat) (n : Int) (w : World) (h : Row .u64 w v xs) (hd : Digs 18446744073709551616 xs) :
    Calls Tryz.prog 77 #[v, .int .i64 n] w fun r w' => ∃ v', r = .returned (.tuple #[v', .int .i64 (resCode (val 18446744073709551616 xs) n)]) ∧ Row .u64 w' v' (resList (val 18446744073709551616 xs) n) ∧ Kept Nought w w' :=
  (nResizeF v xs n w h hd).mono fun _ _ ⟨v', e, hr, _, k⟩ => ⟨v', e, hr, k⟩

end Go.Proofs.YtiljkgoafknefaaGreat


/- What a range over a function asks of memory (Rnd1: a drawn region in a round). -/

/- What a range over a function asks of memory: blocks that lie as they lay; numbers and variables while the loop's own books are turned. -/
namespace Go.Proofs.YtiljkgoafknefaaGreat
open Go.RowKit Go.Shelf

/-- The blocks of S lie as they lay. -/
def KeepB (S : Nat → Prop) (W W' : World) : Prop := ∀ k, S k → W'.heap[k]? = W.heap[k]?

theorem KeepB.refl (S : Nat → Prop) (W : World) : KeepB S W W := fun _ _ => rfl

theorem KeepB.trans {S : Nat → Prop} {A B C : World} (h : KeepB S A B) (k : KeepB S B C) : KeepB S A C := fun i hi => (k i hi).trans (h i hi)

theorem KeepB.put {S : Nat → Prop} {w : World} (hS : ∀ k, S k → k < w.heap.size) (W : World) (l : Nat) (o o' : Obj) (hl : w.heap.size ≤ l) (_ : W.heap[l]? = some o) (_ : o.isCells = false) (_ : o.isWalk = false) : KeepB S W (W.putObj l o') := fun k hk =>
  World.putObj_heap_other (fun e => by have := hS k hk; omega)

theorem KeepB.cell {S : Nat → Prop} {W W' : World} (h : KeepB S W W') {p : Addr} (hp : S p.block) : W'.cell? p = W.cell? p := World.cell?_of_block (h p.block hp)

theorem KeepB.row {S : Nat → Prop} {k : IntKind} {W W' : World} {v : Value} {zs : List Nat} (h : KeepB S W W') (hs : ∀ b, v.ownBlock = some b → 0 < zs.length → S b) (hr : Row k W v zs) : Row k W' v zs := by
  obtain ⟨ao, cap, rfl, h1, h2, h3, h4⟩ := hr
  refine ⟨ao, cap, rfl, h1, h2, h3, fun i hi => ?_⟩
  obtain ⟨b, off, rfl, hc⟩ := h4 i hi
  exact ⟨b, off, rfl, (h.cell (p := ⟨b, off + i, none⟩) (hs b rfl (by omega))).trans hc⟩

theorem cellA {W : World} {a : Addr} {v : Value} (o : Obj) (h : W.cell? a = some v) : (W.alloc o).cell? a = some v := cell_kept h (World.grownBy_alloc W o none) (fun r e => by cases e)

theorem frozenA {W : World} {a : Addr} {v : Value} (o : Obj) (h : W.cell? a = some v) (hf : W.frozen? a = false) : (W.alloc o).frozen? a = false := (frozen_kept h (World.grownBy_alloc W o none) (fun r e => by cases e)).trans hf

/-- What the loop's own books are when they are turned: a new block, or one that is no variable's. -/
def Turn (B : Nat) (W W' : World) : Prop := ∃ row, W.grownBy W' row ∧ ∀ r, row = some r → B ≤ r ∧ ∃ o : Obj, W.heap[r]? = some o ∧ o.isCells = false

/-- A row of the call's own stands while blocks turn that are no rows. -/
theorem own_turn {W W' : World} {row : Option Nat} {base size n : Nat} {e : TypeId} {v : Value} {xs : List Value} (h : W.ownsRow base e size v n xs) (hg : W.grownBy W' row) (hr : ∀ r, row = some r → ∃ o : Obj, W.heap[r]? = some o ∧ o.isCells = false) : W'.ownsRow base e size v n xs := by
  refine ⟨h.1, ?_⟩
  rcases h.2 with h1 | ⟨g, cap, cur, e1, hb, hblk, h4⟩
  · exact .inl h1
  · refine .inr ⟨g, cap, cur, e1, hb, ?_, h4⟩
    rw [hg.block g (Array.getElem?_eq_some_iff.1 hblk).1 ?_]
    · exact hblk
    · intro e
      obtain ⟨o, ho, hc⟩ := hr g e.symm
      rw [hblk] at ho
      cases ho
      cases hc

theorem Turn.cells {B : Nat} {W W' : World} (t : Turn B W W') {b : Nat} {c : Array Value} {ty : TypeId} {f : Nat × Nat} (h : W.heap[b]? = some (.cells c ty f)) : W'.heap[b]? = some (.cells c ty f) := by
  obtain ⟨row, hg, hr⟩ := t
  rw [hg.block b (Array.getElem?_eq_some_iff.1 h).1 ?_]
  · exact h
  · intro e
    obtain ⟨_, o, ho, hc⟩ := hr b e.symm
    rw [h] at ho
    cases ho
    cases hc

theorem Turn.kept {B : Nat} {S : Nat → Prop} {w W W' : World} (t : Turn B W W') (k : Kept S w W) (hB : w.heap.size ≤ B) : Kept S w W' := by
  obtain ⟨row, hg, hr⟩ := t
  exact k.grown hg (fun b e hb => by have := (hr b e).1; omega)

theorem Turn.own {B : Nat} {W W' : World} (t : Turn B W W') {base size n : Nat} {e : TypeId} {v : Value} {xs : List Value} (h : W.ownsRow base e size v n xs) : W'.ownsRow base e size v n xs := by
  obtain ⟨row, hg, hr⟩ := t
  exact own_turn h hg (fun r e => (hr r e).2)

theorem Turn.cell {B : Nat} {W W' : World} (t : Turn B W W') {a : Addr} {v : Value} (h : W.cell? a = some v) : W'.cell? a = some v := by
  obtain ⟨row, hg, hr⟩ := t
  exact cell_kept h hg (fun r e => (hr r e).2)

theorem Turn.row {B : Nat} {W W' : World} (t : Turn B W W') {k : IntKind} {v : Value} {zs : List Nat} (h : Row k W v zs) : Row k W' v zs := by
  obtain ⟨ao, cap, rfl, h1, h2, h3, h4⟩ := h
  refine ⟨ao, cap, rfl, h1, h2, h3, fun i hi => ?_⟩
  obtain ⟨b, off, rfl, hc⟩ := h4 i hi
  exact ⟨b, off, rfl, t.cell hc⟩

end Go.Proofs.YtiljkgoafknefaaGreat

