/- Package miller: Rounds, from outside. -/
import Derived.Test.YtcjaafmlflonhaaGreatDoorMir7
namespace Go.Proofs.YtcjaafmlflonhaaGreatDoor
open Go.RowKit

theorem Bases.box {w : World} {base b L : Nat} {out u : Value} {t : TypeId} {acc : List (List Nat)} (h : Bases w base out L acc) (hb : Box w b u t) (hu : ∀ z, u ≠ .int .u64 z) (hlt : b < base) (x : Value) : Bases (w.setCell ⟨b, 0, none⟩ x) base out L acc :=
  h.keptS (kept_box w b x) (fun y hy e => by have e' : y = b := e; omega) (fun v zs hr hne y hy e => by
    have e' : y = b := e
    subst e'
    exact row_apart hb (fun q hq z => by simp at hq; rw [hq]; exact hu z) hr hne hy)

theorem Lsc.box {w : World} {p : Option Addr} {B b : Nat} {bs : List Nat} (h : Lsc w p B bs) (hB : B ≤ b) (x : Value) : Lsc (w.setCell ⟨b, 0, none⟩ x) p B bs := h.kept (kept_box w b x) (fun y hy e => by have e' : y = b := e; omega)

set_option maxRecDepth 20000 in
set_option maxHeartbeats 2000000 in
/-- Rounds. -/
theorem yRounds (co p : Option Addr) (L cap B : Nat) (k : Int) (xs cs : List Nat) (r1 : Bool) (r2 : List (List Nat)) (r3 : Nat) (r4 : List Nat) (hRN : rndAll xs k cs = (r1, r2, r3, r4)) (hk0 : -9223372036854775808 ≤ k) (hk1 : k ≤ 9223372036854775807) (w : World)
    (hu : Row .u64 w (.slice co L cap) xs) (hd : Digs 18446744073709551616 xs) (hL : L ≤ 1000000) (hs : Lsc w p B cs) (hB : B ≤ w.heap.size) (hcd : Digs 256 cs) :
    Calls Tryz.prog 40 #[.pointer p, .slice co L cap, .int .i64 k] w fun e w' => ∃ v', e = .returned (.tuple #[.bool r1, v', .int .i64 (r3 : Int)]) ∧ Bases w' w.heap.size v' L r2 ∧ Lsc w' p B r4 ∧ Kept (ofP p) w w' := by
  have hmf : ∀ (fn : Fn) (first cap : Array Value) (w : World), (Instr.makeFunc fn first cap).run Tryz.prog w = .ok (.func fn first cap) w := fun _ _ _ _ => rfl
  have he : ∀ args w, (callFunc 70 args).run Tryz.prog w = .ok (.enter 70 args) w := fun _ _ => by simp [go_sem]
  obtain ⟨W, hW⟩ : ∃ W, W = ((((w.alloc (.cells #[.pointer p] 25)).alloc (.cells #[.slice co L cap] 31)).alloc (.cells #[.int .i64 k] 3)).alloc (.cells #[.bool false] 4)).alloc (.cells #[.slice none 0 0] 62) := ⟨_, rfl⟩
  obtain ⟨k0, x0, x1, x2, x3, x4, hsz⟩ := boxes5 w (.pointer p) (.slice co L cap) (.int .i64 k) (.bool false) (.slice none 0 0) 25 31 3 4 62
  rw [← hW] at k0 x0 x1 x2 x3 x4 hsz
  have k1 := k0.alloc (.cells #[.int .i64 0] 32)
  have xe := Box.new W (.int .i64 0) 32
  have hsz1 : (W.alloc (.cells #[.int .i64 0] 32)).heap.size = W.heap.size + 1 := by simp
  have hno : ∀ b, B ≤ b → ¬ ofP p b := fun b hb e => by have := (hs.inP e).1; omega
  have h1 := yRounds1 co p L cap B (w.heap.size + 1) (w.heap.size + 1 + 1) w.heap.size (w.heap.size + 1 + 1 + 1) (w.heap.size + 1 + 1 + 1 + 1) k xs cs r1 r2 r3 r4 hRN hk0 hk1 _ (hu.grew k1) hd hL (hs.grew k1) hcd (by omega) (by omega) (by omega) (by omega) (by omega) (by omega) (x1.alloc _) (x2.alloc _) (x0.alloc _) (x3.alloc _) (x4.alloc _)
  have hAt := yAttempt 70 #[.pointer (some ⟨w.heap.size + 1, 0, none⟩), .pointer (some ⟨w.heap.size + 1 + 1, 0, none⟩), .pointer (some ⟨w.heap.size, 0, none⟩), .pointer (some ⟨w.heap.size + 1 + 1 + 1, 0, none⟩), .pointer (some ⟨w.heap.size + 1 + 1 + 1 + 1, 0, none⟩)] W
    (fun c W' => c = (r3 : Nat) ∧ Kept (ofP p) w W' ∧ Lsc W' p B r4 ∧ ∃ v, Bases W' (W.heap.size + 1) v L r2 ∧ Box W' (w.heap.size + 1 + 1 + 1) (.bool r1) 4 ∧ Box W' (w.heap.size + 1 + 1 + 1 + 1) v 62) he (h1.mono (by
    rintro e w' (⟨h2, rfl, v, w1, hbs, hsc, kk, rfl⟩ | ⟨h2, rfl, rfl, rfl, hsc, kk⟩)
    · rw [hsz1] at hbs
      have hE1 : Box w1 W.heap.size (.int .i64 0) 32 := xe.kept kk (hno _ (by omega))
      have hI1 := (x3.alloc (.cells #[.int .i64 0] 32)).kept kk (hno _ (by omega))
      have hR1 := (x4.alloc (.cells #[.int .i64 0] 32)).kept kk (hno _ (by omega))
      have hbs2 := hbs.box hI1 (fun z e => by cases e) (by omega) (.bool r1)
      have hI2 := hI1.set (.bool r1)
      have hR2 := hR1.other ⟨w.heap.size + 1 + 1 + 1, 0, none⟩ (by show w.heap.size + 1 + 1 + 1 + 1 ≠ w.heap.size + 1 + 1 + 1; omega) (.bool r1)
      have hE2 := hE1.other ⟨w.heap.size + 1 + 1 + 1, 0, none⟩ (by show W.heap.size ≠ w.heap.size + 1 + 1 + 1; omega) (.bool r1)
      have hbs3 := hbs2.box hR2 (fun z e => by cases e) (by omega) v
      have hI3 := hI2.other ⟨w.heap.size + 1 + 1 + 1 + 1, 0, none⟩ (by show w.heap.size + 1 + 1 + 1 ≠ w.heap.size + 1 + 1 + 1 + 1; omega) v
      have hR3 := hR2.set v
      have hE3 := hE2.other ⟨w.heap.size + 1 + 1 + 1 + 1, 0, none⟩ (by show W.heap.size ≠ w.heap.size + 1 + 1 + 1 + 1; omega) v
      refine ⟨hE3, .inl ⟨rfl, by rw [h2]; rfl, ?_, (hsc.box (by omega) _).box (by omega) _, v, hbs3, hI3, hR3⟩⟩
      exact ((k1.any.trans kk).next (kept_box w1 (w.heap.size + 1 + 1 + 1) (.bool r1)) (fun x hx e => by omega)).next (kept_box _ (w.heap.size + 1 + 1 + 1 + 1) v) (fun x hx e => by omega)
    · have hE1 : Box w' W.heap.size (.int .i64 0) 32 := xe.kept kk (hno _ (by omega))
      have hI1 := (x3.alloc (.cells #[.int .i64 0] 32)).kept kk (hno _ (by omega))
      have hR1 := (x4.alloc (.cells #[.int .i64 0] 32)).kept kk (hno _ (by omega))
      exact ⟨hE1, .inr ⟨_, rfl, rfl, k1.any.trans kk, hsc, .slice none 0 0, Bases.nil _ _ _, hI1, hR1⟩⟩))
  have HW := toHid hW
  have HSZ := toHid hsz
  have HB := toHid hB
  clear h1 hu hd hL hs hB hcd hRN hk0 hk1 hW k0 k1 x0 x1 x2 x3 x4 xe he hsz hsz1 hno
  go_enter Tryz.func40, Tryz.ntmps40
  go_wp2_with (rw [← HW.out])
  refine hAt.mono ?_
  rintro e w' ⟨c, w1, rfl, ⟨⟨rfl, k2, hsc, v, hbs, hI, hR⟩, hbe⟩, rfl⟩
  have hbe' : Box w1 W.heap.size (.int .i64 0) 32 := hbe
  have hs6 : W.heap.size = w.heap.size + 1 + 1 + 1 + 1 + 1 := HSZ.out
  have k4 := k2.next (kept_box w1 W.heap.size (.int .i64 (r3 : Nat))) (fun x hx e => by omega)
  have hbs2 := hbs.box hbe' (fun z e => by cases e) (by omega) (.int .i64 (r3 : Nat))
  have hsc2 := hsc.box (b := W.heap.size) (by have := HB.out; omega) (.int .i64 (r3 : Nat))
  have hI2 := hI.other ⟨W.heap.size, 0, none⟩ (by show w.heap.size + 1 + 1 + 1 ≠ W.heap.size; omega) (.int .i64 (r3 : Nat))
  have hR2 := hR.other ⟨W.heap.size, 0, none⟩ (by show w.heap.size + 1 + 1 + 1 + 1 ≠ W.heap.size; omega) (.int .i64 (r3 : Nat))
  generalize w1.setCell ⟨W.heap.size, 0, none⟩ (.int .i64 (r3 : Nat)) = w2 at *
  obtain ⟨vo, vc, rfl⟩ := hbs2.slice
  have c1 := hI2.cell
  have f1 := hI2.free
  have c2 := hR2.cell
  have f2 := hR2.free
  have hI3 := hI2.set (.bool r1)
  have hR3 := hR2.other ⟨w.heap.size + 1 + 1 + 1, 0, none⟩ (by show w.heap.size + 1 + 1 + 1 + 1 ≠ w.heap.size + 1 + 1 + 1; omega) (.bool r1)
  have hI4 := hI3.other ⟨w.heap.size + 1 + 1 + 1 + 1, 0, none⟩ (by show w.heap.size + 1 + 1 + 1 ≠ w.heap.size + 1 + 1 + 1 + 1; omega) (.slice vo r2.length vc)
  have hR4 := hR3.set (.slice vo r2.length vc)
  have c3 := hI4.cell
  have c4 := hR4.cell
  have HBS := toHid (((hbs2.box hI2 (fun z e => by cases e) (by omega) (.bool r1)).box hR3 (fun z e => by cases e) (by omega) (.slice vo r2.length vc)).base (show w.heap.size ≤ W.heap.size + 1 by omega))
  have HSC := toHid ((hsc2.box (b := w.heap.size + 1 + 1 + 1) (by have := HB.out; omega) (.bool r1)).box (b := w.heap.size + 1 + 1 + 1 + 1) (by have := HB.out; omega) (.slice vo r2.length vc))
  have HK := toHid ((k4.next (kept_box w2 (w.heap.size + 1 + 1 + 1) (.bool r1)) (fun x hx e => by omega)).next (kept_box _ (w.heap.size + 1 + 1 + 1 + 1) (.slice vo r2.length vc)) (fun x hx e => by omega))
  clear hAt hbs hbs2 hsc hsc2 hI hR hI2 hR2 hI3 hR3 hI4 hR4 k2 k4 hbe hbe' hs6
  generalize hr2l : r2.length = ln at *
  clear hr2l
  go_wp2_with fail
  go_region
  all_goals
    go_wp2
    exact bodyPost_ret (v := .tuple #[.bool r1, .slice vo ln vc, .int .i64 (r3 : Nat)]) (by simp [results, Tryz.results40, go_sem, c3, c4]) rfl ⟨_, rfl, HBS.out.grew (Kept.refl _ _).drew, HSC.out.grew (Kept.refl _ _).drew, HK.out.trans (Kept.refl Nought _).drew.any⟩

end Go.Proofs.YtcjaafmlflonhaaGreatDoor
