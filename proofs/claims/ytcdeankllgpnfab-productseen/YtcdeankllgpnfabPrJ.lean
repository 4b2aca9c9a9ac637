/- Package product: what Divide attempts. -/
import Derived.Test.YtcdeankllgpnfabPrI
import Derived.Test.YtcdeankllgpnfabPrE
namespace Go.Proofs.Ytcdeankllgpnfab
open Go.RowKit

def divEvs (L M : Nat) : List Ev := [(1, ((M : Nat) : Int), 0)] ++ List.replicate (3 * (64 * L)) (1, ((M : Nat) : Int), 0)

theorem divEvs_len (L M : Nat) : (divEvs L M).length = 1 + 3 * (64 * L) := by unfold divEvs; rw [List.length_append, List.length_replicate]; rfl

set_option maxRecDepth 20000 in
set_option maxHeartbeats 2000000 in
/-- What Divide attempts. -/
theorem pDivide1 (o : Tr) (ao bo : Option Addr) (L M cap dap : Nat) (xs ys : List Nat) (X Y : Nat) (hX : X = val 18446744073709551616 xs) (hY : Y = val 18446744073709551616 ys) (bT bA bB bQ bR : Nat) (w : World) (ht : TrRoom w o 60000) (hu : RowT w o (.slice ao L cap) xs) (hv : RowT w o (.slice bo M dap) ys) (hdx : Digs 18446744073709551616 xs) (hdy : Digs 18446744073709551616 ys)
    (hT : Box w bT (trPtr o) 30) (hA : Box w bA (.slice ao L cap) 23) (hB : Box w bB (.slice bo M dap) 23) (hQ : Box w bQ (.slice none 0 0) 23) (hR : Box w bR (.slice none 0 0) 23) (hne : bQ ≠ bR) :
    Calls Try.prog 29 #[.pointer (some ⟨bA, 0, none⟩), .pointer (some ⟨bB, 0, none⟩), .pointer (some ⟨bT, 0, none⟩), .pointer (some ⟨bQ, 0, none⟩), .pointer (some ⟨bR, 0, none⟩)] w fun e w' =>
      (¬ (L ≤ 300 ∧ M ≤ 300) ∧ e = .panicked [refusal 2] ∧ w' = w) ∨ ((L ≤ 300 ∧ M ≤ 300) ∧ Y = 0 ∧ e = .panicked [refusal 1] ∧ ∃ o', Did w o (divEvs L M) w' o') ∨
      ((L ≤ 300 ∧ M ≤ 300) ∧ Y ≠ 0 ∧ e = .returned (.tuple #[]) ∧ ∃ v1 v2 w1 o', OwnN .u64 24 w' w.heap.size v1 L (digs 18446744073709551616 (X / Y) L) ∧ OwnN .u64 24 w' w.heap.size v2 M (digs 18446744073709551616 (X % Y) M) ∧ Did w o (divEvs L M) w1 o' ∧ Kept (fun b => b = bQ ∨ b = bR) w1 w' ∧ Box w' bQ v1 23 ∧ Box w' bR v2 23) := by
  obtain ⟨_, _, _, e1, hLx, _, _, _, _⟩ := hu.1.open
  cases e1
  obtain ⟨_, _, _, e1, hLy, _, _, _, _⟩ := hv.1.open
  cases e1
  have eL := toHid hLx.out
  have eM := toHid hLy.out
  have hP := fun W => pLong ao bo L M cap dap W
  obtain ⟨po, hpo⟩ := trPtr_shape o
  have hZ := fun (l : M ≤ 300) => lZero o _ ys w (ht.less (by omega)) hv hdy (by have := eM.out; omega)
  rw [← hY, eM.out] at hZ
  rw [hpo] at hZ hT
  have cT := hT.cell
  have cA := hA.cell
  have cB := hB.cell
  have HT := toHid ht
  have HU := toHid hu
  have HV := toHid hv
  have HBA := toHid hA
  have HBB := toHid hB
  have HBT := toHid hT
  have HBQ := toHid hQ
  have HBR := toHid hR
  have HDX := toHid hdx
  have HDY := toHid hdy
  have HX := toHid hX
  have HY := toHid hY
  have HPO := toHid hpo
  clear hu hv hdx hdy hLx hLy hpo hT hA hB hQ hR ht hX hY
  go_enter Try.func29, Try.ntmps29
  go_wp2_with fail
  refine (hP _).mono ?_
  rintro e w1 ⟨⟨l1, l2, rfl⟩ | ⟨l1, rfl⟩, rfl⟩
  · go_wp2_with fail
    refine (hZ l2).mono ?_
    rintro e w2 ⟨rfl, o2, d2⟩
    have ht1 := HT.out.1
    have cA2 := (HBA.out.did d2 ht1 (by decide) (by decide)).cell
    have cB2 := (HBB.out.did d2 ht1 (by decide) (by decide)).cell
    have cT2 := (HBT.out.did d2 ht1 (by decide) (by decide)).cell
    have hxQ := HBQ.out.did d2 ht1 (by decide) (by decide)
    have hxR := HBR.out.did d2 ht1 (by decide) (by decide)
    have r2 : TrRoom w2 o2 59999 := d2.room (HT.out.less (by simp))
    have hD := pBits o2 ao bo L M cap dap xs ys X Y HX.out HY.out w2 (r2.less (by omega)) (HU.out.did d2) (HV.out.did d2) HDX.out HDY.out (by omega) (by omega)
    rw [d2.ptr, HPO.out] at hD
    obtain ⟨nz, hnz⟩ : ∃ nz, nz = oneN (decide (Y = 0)) := ⟨_, rfl⟩
    rw [← hnz]
    have HNZ := toHid hnz
    clear hZ hP cA cB cT hnz
    go_wp2_with fail
    refine hD.mono ?_
    rintro e w3 ⟨v1, v2, rfl, q, ho1, r, ho2, hval, o3, d3⟩
    have hxQ3 := hxQ.did d3 r2.1 (by decide) (by decide)
    have hxR3 := hxR.did d3 r2.1 (by decide) (by decide)
    have HD := toHid (d2.trans d3)
    clear hD
    by_cases h0 : Y = 0
    · have en : nz = 1 := by rw [HNZ.out, decide_eq_true h0]; rfl
      have gn : ((nz : Int) == 1) = true := by rw [en]; rfl
      have hYes := pRefuseYes 1 w3
      go_wp2_with fail
      refine hYes.mono ?_
      rintro e w4 ⟨rfl, rfl⟩
      exact ⟨rfl, .inr (.inl ⟨⟨l1, l2⟩, h0, rfl, o3, HD.out⟩)⟩
    · have en : nz = 0 := by rw [HNZ.out, decide_eq_false h0]; rfl
      have gn : ((nz : Int) == 1) = false := by rw [en]; rfl
      have hNo := pRefuseNo 1 w3
      obtain ⟨xo, xc, rfl⟩ := own_slice ho1
      obtain ⟨yo, yc, rfl⟩ := own_slice ho2
      have cQ := hxQ3.cell
      have fQ := hxQ3.free
      have cR := hxR3.cell
      have fR := hxR3.free
      obtain ⟨eq1, eq2⟩ := hval (by omega)
      rw [eq1] at ho1
      rw [eq2] at ho2
      have hlt1 := hxQ.lt
      have hlt2 := hxR.lt
      have hsz := d2.size
      have kb : Kept (fun b => b = bQ ∨ b = bR) w3 (w3.setCell ⟨bQ, 0, none⟩ (.slice xo L xc)) := (kept_box w3 bQ (.slice xo L xc)).mono (fun _ _ e => .inl e)
      have kb2 := kb.next (kept_box _ bR (.slice yo M yc)) (fun _ _ e => .inr e)
      have HO1 := toHid (own_base (base' := w1.heap.size) (kb2.own ho1 (fun b hb e => by have := (ho1.lt b hb).1; omega)) (fun b hb => by have := (ho1.lt b hb).1; omega))
      have HO2 := toHid (own_base (base' := w1.heap.size) (kb2.own ho2 (fun b hb e => by have := (ho2.lt b hb).1; omega)) (fun b hb => by have := (ho2.lt b hb).1; omega))
      have HX1 := toHid ((hxQ3.set (.slice xo L xc)).other ⟨bR, 0, none⟩ hne (.slice yo M yc))
      have HX2 := toHid ((hxR3.other ⟨bQ, 0, none⟩ (fun e => hne e.symm) (.slice xo L xc)).set (.slice yo M yc))
      have HKB := toHid kb2
      clear ho1 ho2 hval hxQ3 hxR3 kb kb2 d2 d3 eq1 eq2 hxQ hxR cA2 cB2 cT2
      go_wp2_with fail
      refine hNo.mono ?_
      rintro e w4 ⟨rfl, rfl⟩
      clear hNo
      go_wp2_with fail
      go_end0
      exact .inr (.inr ⟨⟨l1, l2⟩, h0, rfl, _, _, w4, o3, HO1.out, HO2.out, HD.out, HKB.out, HX1.out, HX2.out⟩)
  · exact ⟨rfl, .inl ⟨l1, rfl, rfl⟩⟩

end Go.Proofs.Ytcdeankllgpnfab
