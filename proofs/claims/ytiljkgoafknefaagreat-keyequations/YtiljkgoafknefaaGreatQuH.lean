/- Package product: Quick. -/
import Derived.Test.YtiljkgoafknefaaGreatQuG
import Derived.Test.YtiljkgoafknefaaGreatPrK
namespace Go.Proofs.YtiljkgoafknefaaGreat
open Go.RowKit

theorem zero0 (u : Value) (xs : List Nat) (w : World) (hu : Row .u64 w u xs) (hdx : Digs 18446744073709551616 xs) (hL : xs.length ≤ 100000000) :
    Calls Tryz.prog 106 #[.pointer none, u] w fun e w' => e = .returned (.int .u64 (oneN (decide (val 18446744073709551616 xs = 0)) : Nat)) ∧ Kept Nought w w' := by
  refine (lZero none u xs w (TrRoom.none w 1 (by omega)) (RowT.none hu) hdx hL).mono ?_
  rintro e w' ⟨rfl, o', hd⟩
  exact ⟨rfl, hd.none.2⟩

set_option maxRecDepth 20000 in
set_option maxHeartbeats 2000000 in
/-- What Quick attempts. -/
theorem pQuick1 (ao bo : Option Addr) (L M cap dap : Nat) (xs ys : List Nat) (X Y : Nat) (hX : X = val 18446744073709551616 xs) (hY : Y = val 18446744073709551616 ys) (bA bB bQ bR : Nat) (w : World) (hu : Row .u64 w (.slice ao L cap) xs) (hv : Row .u64 w (.slice bo M dap) ys) (hdx : Digs 18446744073709551616 xs) (hdy : Digs 18446744073709551616 ys)
    (hA : Box w bA (.slice ao L cap) 23) (hB : Box w bB (.slice bo M dap) 23) (hQ : Box w bQ (.slice none 0 0) 23) (hR : Box w bR (.slice none 0 0) 23) (hne : bQ ≠ bR) :
    Calls Tryz.prog 105 #[.pointer (some ⟨bA, 0, none⟩), .pointer (some ⟨bB, 0, none⟩), .pointer (some ⟨bQ, 0, none⟩), .pointer (some ⟨bR, 0, none⟩)] w fun e w' =>
      (¬ (L ≤ 300 ∧ M ≤ 300) ∧ e = .panicked [refusal 2] ∧ w' = w) ∨ ((L ≤ 300 ∧ M ≤ 300) ∧ Y = 0 ∧ e = .panicked [refusal 1] ∧ Kept Nought w w') ∨
      ((L ≤ 300 ∧ M ≤ 300) ∧ Y ≠ 0 ∧ e = .returned (.tuple #[]) ∧ ∃ v1 v2, OwnN .u64 24 w' w.heap.size v1 L (digs 18446744073709551616 (X / Y) L) ∧ OwnN .u64 24 w' w.heap.size v2 M (digs 18446744073709551616 (X % Y) M) ∧ Kept (fun b => b = bQ ∨ b = bR) w w' ∧ Box w' bQ v1 23 ∧ Box w' bR v2 23) := by
  obtain ⟨_, _, _, e1, hLx, _, _, _, _⟩ := hu.open
  cases e1
  obtain ⟨_, _, _, e1, hLy, _, _, _, _⟩ := hv.open
  cases e1
  have hP := fun W => pLong ao bo L M cap dap W
  have hZ := fun (l : M ≤ 300) => zero0 _ ys w hv hdy (by have := hLy.out; omega)
  rw [← hY] at hZ
  have hD := fun W (k : Kept Nought w W) (l1 : L ≤ 300) (l2 : M ≤ 300) (h0 : 0 < Y) => pWords ao bo L M cap dap xs ys X Y hX hY h0 W (hu.grew k) (hv.grew k) hdx hdy (by omega) (by omega)
  have cA := hA.cell
  have cB := hB.cell
  have HBA := toHid hA
  have HBB := toHid hB
  have HBQ := toHid hQ
  have HBR := toHid hR
  clear hu hv hdx hdy hLx hLy hA hB hQ hR hX hY
  go_enter Tryz.func105, Tryz.ntmps105
  go_wp2_with fail
  refine (hP _).mono ?_
  rintro e w1 ⟨⟨l1, l2, rfl⟩ | ⟨l1, rfl⟩, rfl⟩
  · obtain ⟨nz, hnz⟩ : ∃ nz, nz = oneN (decide (Y = 0)) := ⟨_, rfl⟩
    rw [← hnz] at hZ
    have HNZ := toHid hnz
    clear hP hnz
    go_wp2_with fail
    refine (hZ l2).mono ?_
    rintro e w2 ⟨rfl, k2⟩
    have cA2 := (HBA.out.grew k2).cell
    have cB2 := (HBB.out.grew k2).cell
    have hxQ := HBQ.out.grew k2
    have hxR := HBR.out.grew k2
    clear hZ cA cB
    by_cases h0 : Y = 0
    · have en : nz = 1 := by rw [HNZ.out, decide_eq_true h0]; rfl
      have gn : ((nz : Int) == 1) = true := by rw [en]; rfl
      have hYes := pRefuseYes 1 w2
      go_wp2_with fail
      refine hYes.mono ?_
      rintro e w4 ⟨rfl, rfl⟩
      exact ⟨rfl, .inr (.inl ⟨⟨l1, l2⟩, h0, rfl, k2⟩)⟩
    · have en : nz = 0 := by rw [HNZ.out, decide_eq_false h0]; rfl
      have gn : ((nz : Int) == 1) = false := by rw [en]; rfl
      have hNo := pRefuseNo 1 w2
      have hD2 := hD w2 k2 l1 l2 (by omega)
      clear hD
      go_wp2_with fail
      refine hNo.mono ?_
      rintro e w3 ⟨rfl, rfl⟩
      clear hNo
      go_wp2_with fail
      refine hD2.mono ?_
      rintro e w4 ⟨v1, v2, rfl, ho1, ho2, k4⟩
      obtain ⟨xo, xc, rfl⟩ := own_slice ho1
      obtain ⟨yo, yc, rfl⟩ := own_slice ho2
      have hxQ3 := hxQ.grew k4
      have hxR3 := hxR.grew k4
      have cQ := hxQ3.cell
      have fQ := hxQ3.free
      have cR := hxR3.cell
      have fR := hxR3.free
      have hlt1 := hxQ.lt
      have hlt2 := hxR.lt
      have hsz := k2.size
      have kb : Kept (fun b => b = bQ ∨ b = bR) w4 (w4.setCell ⟨bQ, 0, none⟩ (.slice xo L xc)) := (kept_box w4 bQ (.slice xo L xc)).mono (fun _ _ e => .inl e)
      have kb2 := kb.next (kept_box _ bR (.slice yo M yc)) (fun _ _ e => .inr e)
      have HO1 := toHid (own_base (base' := w1.heap.size) (kb2.own ho1 (fun b hb e => by have := (ho1.lt b hb).1; omega)) (fun b hb => by have := (ho1.lt b hb).1; omega))
      have HO2 := toHid (own_base (base' := w1.heap.size) (kb2.own ho2 (fun b hb e => by have := (ho2.lt b hb).1; omega)) (fun b hb => by have := (ho2.lt b hb).1; omega))
      have HX1 := toHid ((hxQ3.set (.slice xo L xc)).other ⟨bR, 0, none⟩ hne (.slice yo M yc))
      have HX2 := toHid ((hxR3.other ⟨bQ, 0, none⟩ (fun e => hne e.symm) (.slice xo L xc)).set (.slice yo M yc))
      have HKB := toHid ((k2.trans k4).any.trans kb2)
      clear ho1 ho2 hxQ3 hxR3 kb kb2 hxQ hxR cA2 cB2 hD2
      go_wp2_with fail
      go_end0
      exact .inr (.inr ⟨⟨l1, l2⟩, h0, rfl, _, _, HO1.out, HO2.out, HKB.out, HX1.out, HX2.out⟩)
  · exact ⟨rfl, .inl ⟨l1, rfl, rfl⟩⟩

set_option maxRecDepth 20000 in
set_option maxHeartbeats 2000000 in
/-- Quick. -/
theorem pQuick (ao bo : Option Addr) (L M cap dap : Nat) (xs ys : List Nat) (E : Nat) (hE : E = divE (val 18446744073709551616 ys) L M) (w : World) (hu : Row .u64 w (.slice ao L cap) xs) (hv : Row .u64 w (.slice bo M dap) ys) (hdx : Digs 18446744073709551616 xs) (hdy : Digs 18446744073709551616 ys) :
    Calls Tryz.prog 78 #[.slice ao L cap, .slice bo M dap] w fun e w' => ∃ v1 v2, e = .returned (.tuple #[v1, v2, .int .i64 (E : Nat)]) ∧
      Row .u64 w' v1 (divQ (val 18446744073709551616 xs) (val 18446744073709551616 ys) L M) ∧ Row .u64 w' v2 (divR (val 18446744073709551616 xs) (val 18446744073709551616 ys) L M) ∧ Kept Nought w w' := by
  have hmf : ∀ (fn : Fn) (first cap : Array Value) (w : World), (Instr.makeFunc fn first cap).run Tryz.prog w = .ok (.func fn first cap) w := fun _ _ _ _ => rfl
  have hbx := boxes4 w (.slice ao L cap) (.slice bo M dap) (.slice none 0 0) (.slice none 0 0) 23 23 23 23
  have he : ∀ args w, (callFunc 105 args).run Tryz.prog w = .ok (.enter 105 args) w := fun _ _ => by simp [go_sem]
  obtain ⟨X, hX⟩ : ∃ X, X = val 18446744073709551616 xs := ⟨_, rfl⟩
  obtain ⟨Y, hY⟩ : ∃ Y, Y = val 18446744073709551616 ys := ⟨_, rfl⟩
  rw [← hY] at hE
  rw [← hX, ← hY]
  have HE := toHid hE
  have HX := toHid hX
  have HY := toHid hY
  clear hE hX hY
  go_enter Tryz.func78, Tryz.ntmps78
  go_wp2_with fail
  generalize (((w.alloc (.cells #[.slice ao L cap] 23)).alloc (.cells #[.slice bo M dap] 23)).alloc (.cells #[.slice none 0 0] 23)).alloc (.cells #[.slice none 0 0] 23) = W at *
  obtain ⟨k0, x2, x3, x4, x5, hs⟩ := hbx
  have k1 := k0.alloc (.cells #[.int .i64 0] 27)
  have xe := Box.new W (.int .i64 0) 27
  have h1 := pQuick1 ao bo L M cap dap xs ys X Y HX.out HY.out _ _ _ _ _ (hu.grew k1) (hv.grew k1) hdx hdy (x2.alloc _) (x3.alloc _) (x4.alloc (.cells #[.int .i64 0] 27)) (x5.alloc _) (by omega)
  have hsz : (W.alloc (.cells #[.int .i64 0] 27)).heap.size = W.heap.size + 1 := by simp
  refine (pAttempt 105 _ W (fun n W' => n = (E : Int) ∧ ∃ ro rc ln so sc lm, Box W' (w.heap.size + 1 + 1) (.slice ro ln rc) 23 ∧ Box W' (w.heap.size + 1 + 1 + 1) (.slice so lm sc) 23 ∧ Row .u64 W' (.slice ro ln rc) (divQ X Y L M) ∧ Row .u64 W' (.slice so lm sc) (divR X Y L M) ∧ (∀ b, (Value.slice ro ln rc).ownBlock = some b → W.heap.size + 1 ≤ b) ∧ (∀ b, (Value.slice so lm sc).ownBlock = some b → W.heap.size + 1 ≤ b) ∧ Kept Nought w W') he (h1.mono ?_)).mono ?_
  · rintro e w' (⟨hl, rfl, rfl⟩ | ⟨hl, h0, rfl, kz⟩ | ⟨hl, h0, rfl, v1, v2, ho1, ho2, hk, hb1, hb2⟩)
    · obtain ⟨e1, e2, e3⟩ := div_long (X := X) (Y := Y) hl
      exact ⟨xe, .inr ⟨2, rfl, by rw [HE.out, e1]; rfl, none, 0, 0, none, 0, 0, x4.alloc _, x5.alloc _, by rw [e2]; exact Row.nil _ _, by rw [e3]; exact Row.nil _ _, (fun b hb => by cases hb), (fun b hb => by cases hb), k1⟩⟩
    · obtain ⟨e1, e2, e3⟩ := div_zero (X := X) hl h0
      exact ⟨xe.grew kz, .inr ⟨1, rfl, by rw [HE.out, e1]; rfl, none, 0, 0, none, 0, 0, (x4.alloc _).grew kz, (x5.alloc _).grew kz, by rw [e2]; exact Row.nil _ _, by rw [e3]; exact Row.nil _ _, (fun b hb => by cases hb), (fun b hb => by cases hb), k1.trans kz⟩⟩
    · obtain ⟨e1, e2, e3⟩ := div_good (X := X) hl h0
      rw [hsz] at ho1 ho2
      have hxE := xe.kept hk (by omega)
      obtain ⟨xo, xc, rfl⟩ := own_slice ho1
      obtain ⟨yo, yc, rfl⟩ := own_slice ho2
      exact ⟨hxE, .inl ⟨rfl, by rw [HE.out, e1]; rfl, xo, xc, L, yo, yc, M, hb1, hb2, by rw [e2]; exact own_row' ho1 (digs_length _ _ _), by rw [e3]; exact own_row' ho2 (digs_length _ _ _), (fun b hb => (ho1.lt b hb).1), (fun b hb => (ho2.lt b hb).1), k1.next hk (fun x hx e => by rcases e with e | e <;> omega)⟩⟩
  · rintro e w' ⟨n, w1, rfl, ⟨⟨rfl, ro, rc, ln, so, sc, lm, hb1, hb2, hr1, hr2, hn1, hn2, hk⟩, hbe⟩, rfl⟩
    have hbx1 := hb1.other ⟨W.heap.size, 0, none⟩ (by show _ ≠ W.heap.size; omega) (.int .i64 (E : Int))
    have hbx2 := hb2.other ⟨W.heap.size, 0, none⟩ (by show _ ≠ W.heap.size; omega) (.int .i64 (E : Int))
    have c1 := hbx1.cell
    have f1 := hbx1.free
    have c2 := hbx2.cell
    have f2 := hbx2.free
    have hne : w.heap.size + 1 + 1 ≠ w.heap.size + 1 + 1 + 1 := by omega
    have c3 := ((hbx1.set (.slice ro ln rc)).other ⟨w.heap.size + 1 + 1 + 1, 0, none⟩ hne (.slice so lm sc)).cell
    have c4 := ((hbx2.other ⟨w.heap.size + 1 + 1, 0, none⟩ hne.symm (.slice ro ln rc)).set (.slice so lm sc)).cell
    have kb0 : Kept (fun b => b = W.heap.size ∨ b = w.heap.size + 1 + 1 ∨ b = w.heap.size + 1 + 1 + 1) w1 (w1.setCell ⟨W.heap.size, 0, none⟩ (.int .i64 (E : Int))) := (kept_box w1 W.heap.size _).mono (fun _ _ e => .inl e)
    have kb1 := kb0.next (kept_box _ (w.heap.size + 1 + 1) (.slice ro ln rc)) (fun _ _ e => .inr (.inl e))
    have kb2 := kb1.next (kept_box _ (w.heap.size + 1 + 1 + 1) (.slice so lm sc)) (fun _ _ e => .inr (.inr e))
    have HK := toHid (hk.next kb2 (fun x hx e => by rcases e with e | e | e <;> omega))
    have HR1 := toHid (hr1.kept kb2 (fun b hb e => by have := hn1 b hb; omega))
    have HR2 := toHid (hr2.kept kb2 (fun b hb e => by have := hn2 b hb; omega))
    generalize w1.setCell ⟨W.heap.size, 0, none⟩ (.int .i64 (E : Int)) = W2 at *
    clear h1 hb1 hb2 hbx1 hbx2 hr1 hr2 hn1 hn2 kb0 kb1 kb2 hk hbe hu hv x2 x3 x4 x5 xe k0 k1 hsz he hmf
    go_wp2_with fail
    go_region
    all_goals
      go_wp2
      refine bodyPost_ret (v := .tuple #[.slice ro ln rc, .slice so lm sc, .int .i64 (E : Nat)]) (by simp [results, Tryz.results78, go_sem, c3, c4]) rfl ?_
      exact ⟨_, _, rfl, HR1.out.grew (Kept.refl _ _).drew, HR2.out.grew (Kept.refl _ _).drew, HK.out.drew⟩

end Go.Proofs.YtiljkgoafknefaaGreat
