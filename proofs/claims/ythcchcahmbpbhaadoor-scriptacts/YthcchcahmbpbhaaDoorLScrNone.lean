/- The walk of the statement on a script that nobody made: it returns true for any call. -/
import Derived.Test.YthcchcahmbpbhaaDoorLScrBelow
namespace Go.Proofs.YthcchcahmbpbhaaDoor
open Go.RowKit

theorem readNone (n : Int) : readL [] n = [] ∧ readR [] n = [] := by
  constructor
  · unfold readL
    split <;> simp
  · unfold readR
    split <;> simp

theorem filNone (n : Int) : filL [] n = [] ∧ filR [] n = [] := by
  have h : ∀ m, (filN [] m).1 = [] ∧ (filN [] m).2.1 = [] := fun m => by cases m <;> exact ⟨rfl, rfl⟩
  constructor
  · unfold filL
    split
    · exact (h _).1
    · rfl
  · unfold filR
    split
    · rfl
    · exact (h _).2

theorem belNone (M : Nat) : belN M [] = (0, 0, []) := by
  unfold belN
  show belF M _ _ 1 [] 1 = _
  unfold belF
  split
  · rfl
  · rw [if_neg (by simp [bev])]
    rfl

theorem belNone2 (xs : List Nat) : belX xs [] = [] ∧ belR xs [] = [] := by
  constructor
  · unfold belX
    split
    · next h =>
      unfold belE at h
      rw [belNone] at h
      split at h
      · omega
      · split at h
        · omega
        · simp at h
    · rfl
  · unfold belR
    split
    · rfl
    · rw [belNone]

/-- A call that is held in a box. -/
def ActBox (w : World) (b : Nat) (d m : Int) (v : Value) (zs : List Nat) : Prop := w.heap[b]? = some (.cells #[.int .i64 d, .int .i64 m, v] 34 (0, 0)) ∧ Row .u64 w v zs

theorem ActBox.cells {w : World} {b : Nat} {d m : Int} {v : Value} {zs : List Nat} (h : ActBox w b d m v zs) : w.cell? ⟨b, 0, none⟩ = some (.int .i64 d) ∧ w.cell? ⟨b, 1, none⟩ = some (.int .i64 m) ∧ w.cell? ⟨b, 2, none⟩ = some v :=
  ⟨(cell_of_row w b 0 _ _ _ h.1).trans rfl, (cell_of_row w b 1 _ _ _ h.1).trans rfl, (cell_of_row w b 2 _ _ _ h.1).trans rfl⟩

theorem ActBox.grew {w w' : World} {b : Nat} {d m : Int} {v : Value} {zs : List Nat} (h : ActBox w b d m v zs) (k : Kept Nought w w') : ActBox w' b d m v zs :=
  ⟨(k.block b (lt_of_block h.1) (fun f => f)).trans h.1, h.2.grew k⟩

/-- It stands while a script is read, and a plain one. -/
theorem ActBox.other {w w' : World} {b B : Nat} {d m : Int} {v : Value} {zs bs : List Nat} {p : Option Addr} (h : ActBox w b d m v zs) (hp : Lsc w p B bs) (k : Kept (ofP p) w w') : ActBox w' b d m v zs := by
  refine ⟨(k.block b (lt_of_block h.1) (fun f => ?_)).trans h.1, h.2.kept' k (fun hx => hp.apart h.2 hx)⟩
  rcases hp with ⟨rfl, _⟩ | ⟨b', v', ps, pl, rfl, e, h3, _⟩
  · cases f
  · cases f
    have h3' : w.heap[b']? = some (.cells #[v', .int .i64 (pl : Nat)] 58 (0, 0)) := h3
    have h1 := h.1
    rw [h3'] at h1
    cases h1

theorem ActBox.plain {w w' : World} {b c B : Nat} {d m : Int} {v : Value} {zs bs : List Nat} (h : ActBox w b d m v zs) (hp : ScrAt w c B bs) (k : Kept (fun x => x = c) w w') : ActBox w' b d m v zs := by
  refine ⟨(k.block b (lt_of_block h.1) (fun f => ?_)).trans h.1, h.2.kept' k (fun hx x ex f => hp.apart h.2 hx (by rw [ex, f]))⟩
  obtain ⟨u, ⟨h3, _⟩, _⟩ := hp
  have h1 := h.1
  have f' : b = c := f
  rw [f', h3] at h1
  cases h1

set_option maxRecDepth 100000 in
set_option maxHeartbeats 4000000 in
theorem walkScriptNone (d m : Int) (v : Value) (zs : List Nat) (w : World) (hv : Row .u64 w v zs) (dz : Digs 18446744073709551616 zs) (_ : NoTab w) :
    Calls Tryd.prog 5 #[.agg #[.int .i64 d, .int .i64 m, v]] w fun e w' => e = .returned (.bool true) ∧ Below w.heap.size w w' := by
  have HV := toHid hv
  obtain ⟨vo, vn, vc, rfl, hvl, _⟩ := hv.open
  have HDZ := toHid dz
  clear hv hvl dz
  obtain ⟨ab, hab⟩ : ∃ ab, ab = w.heap.size := ⟨_, rfl⟩
  have k0 : Kept Nought w (w.alloc (.cells #[.int .i64 d, .int .i64 m, .slice vo vn vc] 34)) := (Kept.refl _ _).alloc _
  have hA0 : ActBox (w.alloc (.cells #[.int .i64 d, .int .i64 m, .slice vo vn vc] 34)) ab d m (.slice vo vn vc) zs := ⟨by rw [hab]; exact World.alloc_heap_new w _, HV.out.grew k0⟩
  have HA0 := toHid hA0
  have HK0 := toHid k0
  have J0 := f15Awake (w.alloc (.cells #[.int .i64 d, .int .i64 m, .slice vo vn vc] 34))
  clear k0 hA0
  go_enter Tryd.func5, Tryd.ntmps5
  go_wp2_with fail
  rw [← hab]
  clear hab
  refine J0.mono ?_
  rintro e w1 ⟨rfl, k1⟩
  have HK1 := toHid (HK0.out.trans k1)
  have HA1 := toHid (HA0.out.grew k1)
  obtain ⟨c0, c1, c2⟩ := HA1.out.cells
  have k2 : Kept Nought w1 (w1.alloc (.cells #[.int .i64 d, .int .i64 m, .slice vo vn vc] 34)) := (Kept.refl _ _).alloc _
  have J1 := f15Few (.slice none 0 0) _ [] 1 _ _ _ _ _ (Row.nil _ _) (acts_one (World.alloc_heap_new w1 _) (HV.out.grew (HK1.out.trans k2)) HDZ.out)
  have HK2 := toHid (HK1.out.trans k2)
  have HA2 := toHid (HA1.out.grew k2)
  clear J0 k1 k2 HA0 HK0 HA1
  go_wp2_with fail
  refine J1.mono ?_
  rintro e w3 ⟨b, rfl, hF, k3⟩
  have HK3 := toHid (HK2.out.trans k3)
  have HA3 := toHid (HA2.out.grew k3)
  clear J1 k3 HK2 HA2 c0 c1 c2
  cases b with
  | false =>
    go_wp2_with fail
    go_ret
    exact ⟨rfl, below_kept HK3.out (Nat.le_refl _)⟩
  | true =>
    obtain ⟨_, _, h3⟩ := hF rfl
    have hzl : zs.length ≤ 301 := h3 0 (by omega)
    clear hF h3
    have k4 : Kept Nought w3 (w3.alloc (.cells #[.slice none 0 0] 30)) := (Kept.refl _ _).alloc _
    obtain ⟨br, hbr⟩ : ∃ br, br = w3.heap.size := ⟨_, rfl⟩
    obtain ⟨w4, hw4⟩ : ∃ w4, w4 = w3.alloc (.cells #[.slice none 0 0] 30) := ⟨_, rfl⟩
    have HR4 : Hid (ScrAt w4 br w4.heap.size []) := by
      rw [hw4, hbr]
      exact ⟨_, ⟨World.alloc_heap_new w3 _, Row.nil _ _, fun e => absurd rfl e⟩, by simp, fun e => absurd rfl e⟩
    rw [← hw4] at k4
    have HK4 := toHid (HK3.out.trans k4)
    have HA4 := toHid (HA3.out.grew k4)
    have hwb : w.heap.size ≤ br := by rw [hbr]; exact HK3.out.size
    have J1 := xRead none 0 [] m w4 (.inl ⟨rfl, rfl⟩)
    rw [(readNone m).1, (readNone m).2] at J1
    obtain ⟨_, c1, c2⟩ := HA4.out.cells
    rw [hw4] at c1 c2
    have HW4 := toHid hw4
    have HBR := toHid hbr
    clear k4 HA3 HK3 hw4 hbr
    go_wp2_with fail
    rw [← HW4.out, ← HBR.out]
    clear HW4 HBR c1 c2
    refine J1.mono ?_
    rintro e w5 ⟨x, rfl, hx, _, k5⟩
    have L4 : Lsc w4 none 0 [] := .inl ⟨rfl, rfl⟩
    have HR5 := toHid (HR4.out.other L4 k5)
    have HK5 : Hid (Kept Nought w w5) := HK4.out.next k5 (fun _ _ f => by cases f)
    have HA5 := toHid (HA4.out.other L4 k5)
    obtain ⟨_, c1, c2⟩ := HA5.out.cells
    obtain ⟨xo, xn, xc, rfl, hxn, _⟩ := hx.row.open
    obtain rfl : xn = 0 := hxn.out.symm
    have hB5 : w4.heap.size ≤ w5.heap.size := k5.size
    have J2 := r15Read br w4.heap.size [] m w5 HR5.out (by simp)
    rw [(readNone m).1, (readNone m).2] at J2
    clear J1 k5 hx HR4 HK4 HA4 L4 hxn
    go_wp2_with fail
    refine J2.mono ?_
    rintro e w6 ⟨x2, rfl, hx2, hR6, k6⟩
    have HR6 := toHid hR6
    have HK6 : Hid (Kept Nought w w6) := HK5.out.next k6 (fun y hy f => by
      have f' : y = br := f
      omega)
    have HA6 := toHid (HA5.out.plain HR5.out k6)
    obtain ⟨_, c1, c2⟩ := HA6.out.cells
    obtain ⟨yo, yn, yc, rfl, _⟩ := hx2.row.open
    have hB6 : w4.heap.size ≤ w6.heap.size := by
      have := k6.size
      omega
    have J3 := xFilled none 0 [] m w6 (.inl ⟨rfl, rfl⟩) (Nat.zero_le _)
    rw [(filNone m).1, (filNone m).2] at J3
    clear J2 k6 hx2 hR6 HR5 HK5 HA5
    go_wp2_with fail
    refine J3.mono ?_
    rintro e w7 ⟨y, rfl, hy, _, k7⟩
    have L6 : Lsc w6 none 0 [] := .inl ⟨rfl, rfl⟩
    have HR7 := toHid (HR6.out.other L6 k7)
    have HK7 : Hid (Kept Nought w w7) := HK6.out.next k7 (fun _ _ f => by cases f)
    have HA7 := toHid (HA6.out.other L6 k7)
    obtain ⟨_, c1, c2⟩ := HA7.out.cells
    obtain ⟨fo, fn, fc, rfl, hfn, _⟩ := hy.row.open
    obtain rfl : fn = 0 := hfn.out.symm
    have hB7 : w4.heap.size ≤ w7.heap.size := by
      have := k7.size
      omega
    have J4 := r15Filled br w4.heap.size [] m w7 HR7.out (by simp) hB7
    rw [(filNone m).1, (filNone m).2] at J4
    clear J3 k7 hy HR6 HK6 HA6 L6 hfn
    go_wp2_with fail
    refine J4.mono ?_
    rintro e w8 ⟨y2, rfl, hy2, hR8, k8⟩
    have HR8 := toHid hR8
    have HK8 : Hid (Kept Nought w w8) := HK7.out.next k8 (fun y hy f => by
      have f' : y = br := f
      omega)
    have HA8 := toHid (HA7.out.plain HR7.out k8)
    obtain ⟨_, c1, c2⟩ := HA8.out.cells
    obtain ⟨go, gn, gc, rfl, _⟩ := hy2.row.open
    have J5 := xBelowAny none 0 [] zs (.slice vo vn vc) w8 (.inl ⟨rfl, rfl⟩) (Nat.zero_le _) (Digs.nil _) HA8.out.2 HDZ.out (by omega)
    rw [(belNone2 zs).1, (belNone2 zs).2] at J5
    clear J4 k8 hy2 hR8 HR7 HK7 HA7
    go_wp2_with fail
    refine J5.mono ?_
    rintro e w9 ⟨z, rfl, hz, _, k9⟩
    have L8 : Lsc w8 none 0 [] := .inl ⟨rfl, rfl⟩
    have HR9 := toHid (HR8.out.other L8 k9)
    have HK9 : Hid (Kept Nought w w9) := HK8.out.next k9 (fun _ _ f => by cases f)
    have HA9 := toHid (HA8.out.other L8 k9)
    obtain ⟨_, c1, c2⟩ := HA9.out.cells
    obtain ⟨zo, zn, zc, rfl, hzn, _⟩ := hz.open
    obtain rfl : zn = 0 := hzn.out.symm
    have J6 := r15BelowAny br w4.heap.size [] zs (.slice vo vn vc) w9 HR9.out (Digs.nil _) (by simp) HA9.out.2 HDZ.out (by omega)
    rw [(belNone2 zs).1, (belNone2 zs).2] at J6
    clear J5 k9 hz HR8 HK8 HA8 L8 hzn
    go_wp2_with fail
    refine J6.mono ?_
    rintro e w10 ⟨z2, rfl, hz2, hR10, k10⟩
    have HK10 : Hid (Kept Nought w w10) := HK9.out.next k10 (fun y hy f => by
      have f' : y = br := f
      omega)
    obtain ⟨ho, hn, hc, rfl, _⟩ := hz2.open
    have J7 := xLeft none 0 [] w10 (.inl ⟨rfl, rfl⟩)
    clear J6 k10 hz2 hR10 HR9 HK9 HA9
    go_wp2_with fail
    refine J7.mono ?_
    rintro e w11 ⟨rfl, k11⟩
    have HK11 := toHid (HK10.out.trans k11)
    clear J7 k11
    go_wp2_with fail
    go_ret
    exact ⟨rfl, below_kept HK11.out (Nat.le_refl _)⟩

end Go.Proofs.YthcchcahmbpbhaaDoor
