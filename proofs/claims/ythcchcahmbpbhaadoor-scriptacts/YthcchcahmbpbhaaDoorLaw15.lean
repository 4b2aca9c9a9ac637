/- Layer 15's laws: both sides' Below of any number; few, awake. -/
import Derived.Test.YthcchcahmbpbhaaDoorLsc5
import Derived.Test.YthcchcahmbpbhaaDoorOpenActs
namespace Go.Proofs.YthcchcahmbpbhaaDoor
open Go.RowKit

/-- No table is asked. -/
def NoTab (_ : World) : Prop := True

theorem belX_bad {xs bs : List Nat} (h : 300 < xs.length ∨ val 18446744073709551616 xs < 2) : belX xs bs = [] ∧ belK xs bs = 0 ∧ belR xs bs = bs := by
  have e : belE xs bs ≠ 0 := by
    unfold belE
    split
    · omega
    · next h1 =>
      rw [if_pos (by omega)]
      omega
  exact ⟨if_neg e, if_neg e, if_pos h⟩

/-- Below, of any number. -/
theorem xBelowAny (p : Option Addr) (B : Nat) (bs xs : List Nat) (v : Value) (w : World) (h : Lsc w p B bs) (hB : B ≤ w.heap.size) (hbd : Digs 256 bs) (hv : Row .u64 w v xs) (hd : Digs 18446744073709551616 xs) (hl : xs.length ≤ 1000000) :
    Calls Tryd.prog 16 #[.pointer p, v] w fun e w' => ∃ u, e = .returned (.tuple #[u, .int .i64 (belK xs bs : Nat), .int .i64 (belE xs bs : Nat)]) ∧ Row .u64 w' u (belX xs bs) ∧ Lsc w' p B (belR xs bs) ∧ Kept (ofP p) w w' := by
  by_cases hb : 300 < xs.length ∨ val 18446744073709551616 xs < 2
  · obtain ⟨e1, e2, e3⟩ := belX_bad (bs := bs) hb
    rw [e1, e2, e3]
    refine (xBelowBad p B bs xs v w h hv hd hl hb).mono ?_
    rintro e w' ⟨rfl, h1, k1⟩
    exact ⟨_, rfl, Row.nil _ _, h1, k1.any⟩
  · exact xBelow p B bs xs v w h hB hbd hv hd (by omega) (by omega)

/-- The plain Below, of any number. -/
theorem r15BelowAny (b B : Nat) (bs xs : List Nat) (v : Value) (w : World) (h : ScrAt w b B bs) (hbd : Digs 256 bs) (hbl : bs.length ≤ 1000000) (hv : Row .u64 w v xs) (hd : Digs 18446744073709551616 xs) (hl : xs.length ≤ 1000000) :
    Calls Tryd.prog 17 #[.pointer (some ⟨b, 0, none⟩), v] w fun e w' => ∃ u, e = .returned (.tuple #[u, .int .i64 (belK xs bs : Nat), .int .i64 (belE xs bs : Nat)]) ∧ Row .u64 w' u (belX xs bs) ∧ ScrAt w' b B (belR xs bs) ∧ Kept (fun x => x = b) w w' := by
  by_cases hb : 300 < xs.length ∨ val 18446744073709551616 xs < 2
  · obtain ⟨e1, e2, e3⟩ := belX_bad (bs := bs) hb
    rw [e1, e2, e3]
    refine (r15BelowBad b B bs xs v w h hv hd hl hb).mono ?_
    rintro e w' ⟨rfl, h1, k1⟩
    exact ⟨_, rfl, Row.nil _ _, h1, k1.any⟩
  · refine (r15Below b B bs xs v w h hbd hbl hv hd (by omega) (by omega)).mono ?_
    rintro e w' ⟨u, he, h1, _, h2, h3⟩
    exact ⟨u, he, h1, h2, h3⟩

/-- Numbers of some words, or bytes, lie apart from a plain script. -/
theorem ScrAt.apart {k : IntKind} {w : World} {b B : Nat} {bs xs : List Nat} {v : Value} (h : ScrAt w b B bs) (hv : Row k w v xs) (hx : xs ≠ []) : v.ownBlock ≠ some b := by
  obtain ⟨u, h, _⟩ := h
  refine row_apart h.1 ?_ hv hx
  obtain ⟨_, _, rfl, _⟩ := h.2.1
  intro y hy z
  simp at hy
  rw [hy]
  simp

theorem ofP_some {a y : Nat} (h : ofP (some ⟨a, 0, none⟩) y) : y = a := (Option.some.inj h).symm

/-- A script stands while another is read. -/
theorem Lsc.other {w w' : World} {p q : Option Addr} {B C : Nat} {bs cs : List Nat} (h : Lsc w q C cs) (hp : Lsc w p B bs) (k : Kept (ofP p) w w') (hne : ∀ x, ofP p x → ofP q x → False) : Lsc w' q C cs := by
  rcases h with h | ⟨b, v, ps, pl, rfl, e, h1, h2, h3⟩
  · exact .inl h
  · exact .inr ⟨b, v, ps, pl, rfl, e, (k.block b (lt_of_block h1) (fun f => hne b f rfl)).trans h1, h2.kept' k (fun hx => hp.apart h2 hx), h3⟩

theorem ScrAt.noP {w : World} {p : Option Addr} {b B C : Nat} {bs cs : List Nat} (h : ScrAt w b C cs) (hp : Lsc w p B bs) : ¬ ofP p b := by
  obtain ⟨v, ⟨h1, _⟩, _⟩ := h
  intro f
  rcases hp with ⟨rfl, _⟩ | ⟨b', v', ps, pl, rfl, e, h3, _⟩
  · cases f
  · cases f
    have h3' : w.heap[b']? = some (.cells #[v', .int .i64 (pl : Nat)] 58 (0, 0)) := h3
    rw [h3'] at h1
    cases h1

/-- A plain script stands while a script is read, and the other way round. -/
theorem ScrAt.other {w w' : World} {p : Option Addr} {b B C : Nat} {bs cs : List Nat} (h : ScrAt w b C cs) (hp : Lsc w p B bs) (k : Kept (ofP p) w w') : ScrAt w' b C cs := by
  have hn := h.noP hp
  obtain ⟨v, h1, h2, h3⟩ := h
  exact ⟨v, h1.kept k hn (fun hx => hp.apart h1.2.1 hx), h2, h3⟩

theorem Lsc.plain {w w' : World} {p : Option Addr} {b B C : Nat} {bs cs : List Nat} (hp : Lsc w p B bs) (h : ScrAt w b C cs) (k : Kept (fun x => x = b) w w') : Lsc w' p B bs := by
  have hn := h.noP hp
  rcases hp with h' | ⟨b', v, ps, pl, rfl, e, h1, h2, h3⟩
  · exact .inl h'
  · refine .inr ⟨b', v, ps, pl, rfl, e, (k.block b' (lt_of_block h1) (fun f => hn (by rw [f]; rfl))).trans h1, h2.kept' k (fun hx x ex f => h.apart h2 hx (by rw [ex, f])), h3⟩

theorem ActsIn.kept {S : Nat → Prop} {w w' : World} {v : Value} {n : Nat} {D M : Nat → Int} {V : Nat → Value} {xss : Nat → List Nat} (h : ActsIn w v n D M V xss) (k : Kept S w w') (hS : ∀ x, x < w.heap.size → ¬ S x) : ActsIn w' v n D M V xss := by
  obtain ⟨ao, cap, e, h1, h2, h3⟩ := h
  refine ⟨ao, cap, e, h1, h2, fun i hi => ?_⟩
  obtain ⟨⟨b, off, e, c0, c1, c2⟩, hr, hd⟩ := h3 i hi
  have hb := World.block_lt_of_cell? w _ c0
  have hcell : ∀ j, w'.cell? ⟨b, j, none⟩ = w.cell? ⟨b, j, none⟩ := fun j => World.cell?_of_block (k.block b hb (hS b hb))
  refine ⟨⟨b, off, e, (hcell _).trans c0, (hcell _).trans c1, (hcell _).trans c2⟩, hr.kept' k (fun hne x hx => hS x (hr.lt hne x hx)), hd⟩

theorem ActsIn.grew {w w' : World} {v : Value} {n : Nat} {D M : Nat → Int} {V : Nat → Value} {xss : Nat → List Nat} (h : ActsIn w v n D M V xss) (k : Kept Nought w w') : ActsIn w' v n D M V xss := h.kept k fun _ _ f => f

/-- What few says. -/
def Few15 (bs : List Nat) (n : Nat) (xss : Nat → List Nat) : Prop := bs.length ≤ 2000 ∧ n ≤ 40 ∧ ∀ i, i < n → (xss i).length ≤ 301

def FewAns (w : World) (bs : List Nat) (n : Nat) (xss : Nat → List Nat) (e : Ending) (w' : World) : Prop := ∃ b : Bool, e = .returned (.bool b) ∧ (b = true → Few15 bs n xss) ∧ Kept Nought w w'

set_option maxRecDepth 20000 in
set_option maxHeartbeats 1000000 in
/-- few: where it says yes. -/
theorem f15Few (u v : Value) (bs : List Nat) (n : Nat) (D M : Nat → Int) (V : Nat → Value) (xss : Nat → List Nat) (w : World) (hu : Row .u8 w u bs) (hA : ActsIn w v n D M V xss) :
    Calls Tryd.prog 9 #[u, v] w fun e w' => FewAns w bs n xss e w' := by
  obtain ⟨uo, uL, uc, rfl, hL, hLc, hcm, _, _⟩ := hu.open
  have HA := toHid hA
  obtain ⟨ao, cap, rfl, hnc, hcl, hel⟩ := hA
  have hcl' : cap ≤ 9223372036854775807 := by unfold maxLen at hcl; omega
  have HL := toHid hL.out
  clear hu hel hL hcl
  by_cases h1 : 2000 < uL
  · have g1 : (uL : Int) > 2000 := by omega
    have g1' : (2000 : Int) < (uL : Int) := by omega
    go_enter Tryd.func9, Tryd.ntmps9
    go_wp2_with fail
    go_ret
    exact ⟨false, rfl, (fun e => by cases e), Kept.refl _ _⟩
  · have g1 : ¬ (uL : Int) > 2000 := by omega
    have g1' : ¬ (2000 : Int) < (uL : Int) := by omega
    by_cases h2 : 40 < n
    · have g2 : (n : Int) > 40 := by omega
      have g2' : (40 : Int) < (n : Int) := by omega
      go_enter Tryd.func9, Tryd.ntmps9
      go_wp2_with fail
      go_ret
      exact ⟨false, rfl, (fun e => by cases e), Kept.refl _ _⟩
    · have g2 : ¬ (n : Int) > 40 := by omega
      have g2' : ¬ (40 : Int) < (n : Int) := by omega
      go_enter Tryd.func9, Tryd.ntmps9
      go_wp2_with fail
      go_loopw [17] (fun iv wr => ∃ k : Nat, k ≤ n ∧ iv = .int .i64 (k : Int) ∧ Hid (∀ i, i < k → (xss i).length ≤ 301) ∧ Hid (Kept Nought w wr)) (fun iv _ => n - (intOf iv).toNat)
      case atStart => exact ⟨0, Nat.zero_le _, rfl, fun i hi => by omega, Kept.refl _ _⟩
      case round =>
        obtain ⟨k, hk, rfl, HF, HK⟩ := hrel
        by_cases hkn : k < n
        · have g3 : (k : Int) < (n : Int) := by omega
          have g0 : (0 : Int) ≤ (k : Int) := by omega
          obtain ⟨_, _, e, _, _, hel⟩ := HA.out.grew HK.out
          cases e
          obtain ⟨⟨b, off, rfl, c0, c1, c2⟩, hr, hd⟩ := hel k hkn
          obtain ⟨vo, vn, vc, hVk, hvl, _⟩ := hr.open
          rw [hVk] at c2
          rw [← Nat.add_assoc] at c1 c2
          have HVL := toHid hvl.out
          clear hel hr hd hVk hvl
          by_cases h4 : 20 < vn
          · have g4 : (vn : Int) > 20 := by omega
            have g4' : (20 : Int) < (vn : Int) := by omega
            by_cases h5 : vn = 301
            · subst h5
              go_wp2_with fail
              go_roundw
              case rel =>
                refine ⟨k + 1, by omega, by go_num, fun i hi => ?_, HK.out.alloc _⟩
                by_cases e : i < k
                · exact HF.out i e
                · rw [show i = k by omega, HVL.out]
                  omega
              case measure => simp [intOf]; omega
            · have g5 : ¬ (vn : Int) = 301 := by omega
              go_wp2_with fail
              go_ret
              exact ⟨false, rfl, (fun e => by cases e), HK.out.alloc _⟩
          · have g4 : ¬ (vn : Int) > 20 := by omega
            have g4' : ¬ (20 : Int) < (vn : Int) := by omega
            go_wp2_with fail
            go_roundw
            case rel =>
              refine ⟨k + 1, by omega, by go_num, fun i hi => ?_, HK.out.alloc _⟩
              by_cases e : i < k
              · exact HF.out i e
              · rw [show i = k by omega, HVL.out]
                omega
            case measure => simp [intOf]; omega
        · have g3 : ¬ (k : Int) < (n : Int) := by omega
          obtain rfl : k = n := by omega
          go_wp2_with fail
          go_ret
          exact ⟨true, rfl, fun _ => ⟨by rw [HL.out]; omega, by omega, HF.out⟩, HK.out⟩

theorem f15Ex : filE [0, 5, 0, 7] ((2 : Nat) : Int) = 0 ∧ filL [0, 5, 0, 7] ((2 : Nat) : Int) = [5, 7] := by decide +kernel

theorem f15Ex2 : belE [5] [255, 3] = 0 ∧ belX [5] [255, 3] = [3] ∧ belK [5] [255, 3] = 2 := by decide +kernel

set_option maxRecDepth 20000 in
set_option maxHeartbeats 1000000 in
/-- awake. -/
theorem f15Awake (w : World) : Calls Tryd.prog 8 #[] w fun r w' => r = .returned (.bool true) ∧ Kept Nought w w' := by
  have r0 : Row .u8 (w.alloc (.cells #[.int .u8 0, .int .u8 5, .int .u8 0, .int .u8 7] 5)) (.slice (some ⟨w.heap.size, 0, none⟩) 4 4) [0, 5, 0, 7] := Row.of_block (zs := [0, 5, 0, 7]) (World.alloc_heap_new w _) rfl (by unfold maxLen; omega)
  have J0 := xNew _ _ _ r0 (by simp)
  have k0 : Kept Nought w (w.alloc (.cells #[.int .u8 0, .int .u8 5, .int .u8 0, .int .u8 7] 5)) := (Kept.refl _ _).alloc _
  have HK0 := toHid k0
  clear r0 k0
  go_enter Tryd.func8, Tryd.ntmps8
  go_wp2_with fail
  refine J0.mono ?_
  rintro e w1 ⟨a, rfl, ha, hs1, k1⟩
  have r1 : Row .u8 (w1.alloc (.cells #[.int .u8 255, .int .u8 3] 5)) (.slice (some ⟨w1.heap.size, 0, none⟩) 2 2) [255, 3] := Row.of_block (zs := [255, 3]) (World.alloc_heap_new w1 _) rfl (by unfold maxLen; omega)
  have J1 := xNew _ _ _ r1 (by simp)
  have HK1 := toHid (HK0.out.trans k1)
  have HS1 := toHid hs1
  clear J0 r1 hs1 k1
  go_wp2_with fail
  refine J1.mono ?_
  rintro e w2 ⟨b, rfl, hb, hs2, k2⟩
  have k2' : Kept Nought w1 w2 := ((Kept.refl Nought w1).alloc _).trans k2
  have HS1b := toHid (HS1.out.grew k2')
  have HK2 := toHid (HK1.out.trans k2')
  have J2 := xFilled (some ⟨a, 0, none⟩) w1.heap.size [0, 5, 0, 7] ((2 : Nat) : Int) w2 HS1b.out k2'.size
  rw [f15Ex.1, f15Ex.2] at J2
  have HS2 := toHid hs2
  have hab : a ≠ b := by
    have := (HS1.out.inP (x := a) rfl).2
    rw [World.size_alloc] at hb
    omega
  have haw : a < w2.heap.size := (HS1b.out.inP (x := a) rfl).2
  clear J1 hs2 k2 k2'
  go_wp2_with fail
  refine J2.mono ?_
  rintro e w3 ⟨x, rfl, hx, hs3, k3⟩
  have hb2 := (HS2.out.inP (x := b) rfl).2
  have k3' : Kept (fun y => w.heap.size ≤ y) w3 w3 := Kept.refl _ _
  rw [World.size_alloc] at ha hb
  have hw1 := HK1.out.size
  have HK3 : Hid (Kept Nought w w3) := HK2.out.next k3 (fun y hy f => by
    have := ofP_some f
    omega)
  have HS3 := toHid (HS2.out.other HS1b.out k3 (fun y f1 f2 => by cases f1; cases f2; exact hab rfl))
  have r3 : Row .u64 (w3.alloc (.cells #[.int .u64 5] 55)) (.slice (some ⟨w3.heap.size, 0, none⟩) 1 1) [5] := Row.of_block (zs := [5]) (World.alloc_heap_new w3 _) rfl (by unfold maxLen; omega)
  have k4 : Kept Nought w3 (w3.alloc (.cells #[.int .u64 5] 55)) := (Kept.refl _ _).alloc _
  have J3 := xBelowAny (some ⟨b, 0, none⟩) w2.heap.size [255, 3] [5] _ _ (HS3.out.grew k4) (Nat.le_trans k3.size k4.size) (fun d hd => by simp at hd; omega) r3 (Digs.one (by omega)) (by simp)
  rw [f15Ex2.1, f15Ex2.2.1, f15Ex2.2.2] at J3
  have HX := toHid (hx.grew k4)
  have HK4 := toHid (HK3.out.trans k4)
  obtain ⟨xo, xc, rfl⟩ := own_slice hx
  clear J2 k3 k3' hx hs3 k4 r3
  go_wp2_with fail
  refine J3.mono ?_
  rintro e w5 ⟨y, rfl, hy, hs5, k5⟩
  have HX5 : Hid (Row .u8 w5 (.slice xo [5, 7].length xc) [5, 7]) := (HX.out.kept k5 (fun z hz f => by have := ofP_some f; omega)).row
  have HK5 : Hid (Kept Nought w w5) := HK4.out.next k5 (fun z hz f => by
    have := ofP_some f
    omega)
  obtain ⟨_, _, _, e5, _, hxc, _, _, hxn⟩ := HX5.out.open
  cases e5
  obtain ⟨xb, xoff, rfl, cx0⟩ := hxn 0 (by simp)
  obtain ⟨_, _, e6, cx1⟩ := hxn 1 (by simp)
  cases e6
  obtain ⟨yo, yn, yc, rfl, hyl, hyc, _, _, hyn⟩ := hy.open
  obtain rfl : yn = 1 := hyl.out.symm
  obtain ⟨yb, yoff, rfl, cy0⟩ := hyn 0 (by omega)
  have cx0' : w5.cell? ⟨xb, xoff, none⟩ = some (.int .u8 5) := cx0
  have cx1' : w5.cell? ⟨xb, xoff + 1, none⟩ = some (.int .u8 7) := cx1
  have cy0' : w5.cell? ⟨yb, yoff, none⟩ = some (.int .u64 3) := cy0
  clear J3 hxn hyn cx0 cx1 cy0 hy hs5 k5 HX
  go_wp2_with fail
  go_ret
  exact ⟨rfl, HK5.out⟩

end Go.Proofs.YthcchcahmbpbhaaDoor
