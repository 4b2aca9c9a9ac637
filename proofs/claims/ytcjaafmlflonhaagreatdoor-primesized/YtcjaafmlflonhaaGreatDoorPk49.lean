/- Put together of: Pri5 Pri6 Law18 Law18b. -/
import Derived.Test.YtcjaafmlflonhaaGreatDoorPk45
import Derived.Test.YtcjaafmlflonhaaGreatDoorPk47
import Derived.Test.YtcjaafmlflonhaaGreatDoorPk48

/- Package prime: what Draw attempts. -/
namespace Go.Proofs.YtcjaafmlflonhaaGreatDoor
open Go.RowKit Go.Shelf

attribute [local go_sem] Oper.semAt_some

theorem PanR.put {p : Option Addr} {B n e r l : Nat} {bs : List Nat} {ch : List PanicEntry} {A : World} {o : Obj} (o' : Obj) (h : PanR p B n e r bs ch A) (hl : A.heap[l]? = some o) (ho : o.isCells = false) : PanR p B n e r bs ch (A.putObj l o') := by
  obtain ⟨E, R, h1, h2, h3, h4⟩ := h
  exact ⟨E, R, h1, h2, h3, h4.put o' hl ho⟩

/-- What a draw leaves that came to a prime. -/
def DrwEnd (w : World) (p : Option Addr) (B bP bM n e r : Nat) (bs : List Nat) (A : World) : Prop :=
  ∃ v P K R, DrawR n e r 100000 bs 1 (P, K, 0, R) ∧ (Row .u64 A v P ∧ ∀ b, v.ownBlock = some b → w.heap.size ≤ b) ∧ Lsc A p B R ∧ (Box A bP v 31 ∧ Box A bM (.int .i64 ((K : Nat) : Int)) 3) ∧ Kept (fun x => ofP p x ∨ x = bP ∨ x = bM) w A

theorem DrwEnd.put {w A : World} {p : Option Addr} {B bP bM n e r l : Nat} {bs : List Nat} {o : Obj} (o' : Obj) (h : DrwEnd w p B bP bM n e r bs A) (hl : A.heap[l]? = some o) (ho : o.isCells = false) (hw : w.heap.size ≤ l) (hP : bP < w.heap.size) (hM : bM < w.heap.size) : DrwEnd w p B bP bM n e r bs (A.putObj l o') := by
  obtain ⟨v, P, K, R, h1, ⟨h2, h3⟩, h4, ⟨h5, h6⟩, h7⟩ := h
  exact ⟨v, P, K, R, h1, ⟨row_put o' h2 hl ho, h3⟩, h4.put o' hl ho, ⟨(World.putObj_heap_other (by omega)).trans h5, (World.putObj_heap_other (by omega)).trans h6⟩, h7.next (kept_put A l o') (fun x hx e => by have e' : x = l := e; omega)⟩

set_option maxRecDepth 100000 in
set_option maxHeartbeats 4000000 in
/-- What Draw attempts. -/
theorem oDraw1 (p : Option Addr) (B bN bE bR bS bP bM n ee r : Nat) (bs : List Nat) (w : World) (hn : 16 ≤ n) (hn2 : n ≤ 4096) (he3 : 3 ≤ ee) (he2 : ee % 2 ≠ 0) (he : ee < 18446744073709551616) (hr1 : 1 ≤ r) (hr2 : r ≤ 100)
    (hs : Lsc w p B bs) (hd : Digs 256 bs) (lN : B ≤ bN) (lE : B ≤ bE) (lR : B ≤ bR) (lS : B ≤ bS) (lP : B ≤ bP) (lM : B ≤ bM) (nPM : bP ≠ bM)
    (hbN : Box w bN (.int .i64 ((n : Nat) : Int)) 3) (hbE : Box w bE (.int .u64 ((ee : Nat) : Int)) 23) (hbR : Box w bR (.int .i64 ((r : Nat) : Int)) 3) (hbS : Box w bS (.pointer p) 25) (hbP : Box w bP (.slice none 0 0) 31) (hbM : Box w bM (.int .i64 0) 3) :
    Calls Tryz.prog 18 #[.pointer (some ⟨bN, 0, none⟩), .pointer (some ⟨bE, 0, none⟩), .pointer (some ⟨bR, 0, none⟩), .pointer (some ⟨bS, 0, none⟩), .pointer (some ⟨bP, 0, none⟩), .pointer (some ⟨bM, 0, none⟩)] w fun e w' =>
      (e = .returned (.tuple #[]) ∧ DrwEnd w p B bP bM n ee r bs w') ∨ ∃ ch, e = .panicked ch ∧ PanR p B n ee r bs ch w' ∧ Kept (ofP p) w w' := by
  have HOP : Hid (∀ x, ofP p x → x < B) := fun x hx => (hs.inP hx).1
  have hno : ∀ b, B ≤ b → ¬ ofP p b := fun b hb e => by have := HOP.out b e; omega
  have JB : Hid (∀ W, Kept (ofP p) w W → W.cell? ⟨bN, 0, none⟩ = some (.int .i64 (n : Int)) ∧ W.cell? ⟨bE, 0, none⟩ = some (.int .u64 (ee : Int)) ∧ W.cell? ⟨bR, 0, none⟩ = some (.int .i64 (r : Int)) ∧ W.cell? ⟨bS, 0, none⟩ = some (.pointer p)) := fun W kk => ⟨(hbN.kept kk (hno _ lN)).cell, (hbE.kept kk (hno _ lE)).cell, (hbR.kept kk (hno _ lR)).cell, (hbS.kept kk (hno _ lS)).cell⟩
  have JO : Hid (∀ W, Kept (ofP p) w W → Box W bP (.slice none 0 0) 31 ∧ Box W bM (.int .i64 0) 3) := fun W kk => ⟨hbP.kept kk (hno _ lP), hbM.kept kk (hno _ lM)⟩
  have HLT : Hid (B ≤ w.heap.size ∧ bP < w.heap.size ∧ bM < w.heap.size ∧ bP ≠ bM ∧ B ≤ bP ∧ B ≤ bM) := ⟨Nat.le_of_lt (Nat.lt_of_le_of_lt lN hbN.lt), hbP.lt, hbM.lt, nPM, lP, lM⟩
  have J0 := pMay (n : Int) true (by symm; exact decide_eq_true ⟨by omega, by omega⟩) w
  have hRf := oRefuseNo 1 w
  have JC := oCands p (n : Int) w
  have HS := toHid hs
  have HD := toHid hd
  have HN : Hid (16 ≤ n ∧ n ≤ 4096) := ⟨hn, hn2⟩
  have HEE : Hid (ee < 18446744073709551616) := he
  have HRR : Hid (1 ≤ r ∧ r ≤ 100) := ⟨hr1, hr2⟩
  obtain ⟨b0, b1, b2, b3⟩ := JB.out _ (Kept.refl _ w)
  have g3 : ¬ (ee : Int) < 3 := by omega
  have g4 : ¬ (ee : Int) % 2 = 0 := by omega
  have g4' : ¬ (ee : Int).tmod 2 = 0 := by rw [Int.tmod_eq_emod_of_nonneg (by omega)]; omega
  have g5 : ¬ (r : Int) < 1 := by omega
  have g6 : ¬ (r : Int) > 100 := by omega
  have g6' : ¬ (100 : Int) < (r : Int) := by omega
  have d3 : decide ((ee : Int) < 3) = false := decide_eq_false g3
  have d4 : ((ee : Int) % 2 == 0) = false := by simp; omega
  have d5 : decide ((r : Int) < 1) = false := decide_eq_false g5
  have d6 : decide ((r : Int) > 100) = false := decide_eq_false g6
  have d6' : decide ((100 : Int) < (r : Int)) = false := decide_eq_false g6'
  clear hno hs hd hn hn2 he3 he2 he hr1 hr2 lN lE lR lS lP lM nPM hbN hbE hbR hbS hbP hbM
  refine (callsIn_wide (n := 9)).1 ?_
  refine callsIn_of_wpF Tryz.func18 rfl ?_
  simp only [Tryz.ntmps18, List.size_toArray, List.length_cons, List.length_nil, Nat.reduceAdd, Nat.reduceSub, Array.replicate_succ, Array.replicate_zero, List.push_toArray, List.append_toArray, List.nil_append, List.cons_append]
  refine wpF_seq (n := 9) fun K hK => ?_
  refine wpIn_wide.2 ?_
  go_wp2_with fail
  refine J0.mono ?_
  rintro e w1 ⟨rfl, rfl⟩
  go_wp2_with fail
  refine hRf.mono ?_
  rintro e w2 ⟨rfl, rfl⟩
  go_wp2_with fail
  clear J0
  refine wpF_seq (n := 9) fun K hK => ?_
  refine wpIn_wide.2 ?_
  go_wp2_with fail
  try rw [d3]
  try rw [d4]
  refine hRf.mono ?_
  rintro e w3 ⟨rfl, rfl⟩
  go_wp2_with fail
  refine wpF_seq (n := 9) fun K hK => ?_
  refine wpIn_wide.2 ?_
  go_wp2_with fail
  try rw [d5]
  try rw [d6]
  refine hRf.mono ?_
  rintro e w4 ⟨rfl, rfl⟩
  go_wp2_with fail
  clear hRf g3 g4 g4' g5 g6 g6' d3 d4 d5 d6 d6'
  refine wpF_seq (n := 9) fun K hK => ?_
  refine wpIn_wide.2 ?_
  go_wp2_with fail
  refine JC.mono ?_
  rintro e W2 ⟨rfl, q0, q1, k2, s2⟩
  have HK2 := toHid k2
  have HS2 := toHid (HS.out.grew k2)
  have HZ2 := toHid s2
  have HQ0 := toHid q0
  have HQ1 := toHid q1
  clear JC k2 s2 q0 q1
  go_wp2_with fail
  clear b0 b1 b2 b3
  refine wpF_block ?_
  refine wpF_range (n := 9) Tryz.func18 (gf := 36) (lb := #[.pointer (some ⟨w4.heap.size, 0, none⟩), .pointer (some ⟨w4.heap.size + 1, 0, none⟩)]) rfl (enters_of Tryz.func36 (by kernel_rfl) rfl)
    (oCands1 8 (by omega) p B n ee r w4.heap.size (w4.heap.size + 1) bs W2 HN.out.1 HN.out.2 HS2.out HQ0.out HQ1.out ?q0 ?q1 ?q2) (fun _ => rfl) ?hT (Sb := fun b => ofP p b ∨ b = bP ∨ b = bM) ?hSb (fun _ _ _ _ _ o' hx hl ho => hx.put o' hl ho)
    (fun A => Kept (ofP p) w4 A) (DrwEnd w4 p B bP bM n ee r bs) (fun ch A => PanR p B n ee r bs ch A ∧ Kept (ofP p) w4 A) ?low ?lowx ?lows HK2.out.any ?st0 ?act ?assign ?body ?stop ?pan
  case q0 => have := HZ2.out; have := HLT.out; omega
  case q1 => exact HLT.out.1
  case q2 => have := HLT.out; omega
  case hT =>
    intro b hb
    have := HOP.out b hb
    have := HLT.out
    have := HZ2.out
    omega
  case hSb =>
    have := HLT.out
    have := HZ2.out
    rintro b (hb | rfl | rfl)
    · have := HOP.out b hb
      omega
    · omega
    · omega
  case low =>
    intro A C h k
    exact h.next k (fun x hx e => by
      rcases e with e | e
      · exact e
      · have := HZ2.out
        omega)
  case lowx =>
    intro A l o o' h hl hA ho
    have := HLT.out
    have := HZ2.out
    exact h.put o' hA ho (by omega) (by omega) (by omega)
  case lows =>
    rintro s A l o o' ⟨h1, h2⟩ hl hA ho
    exact ⟨h1.put o' hA ho, h2⟩
  case st0 =>
    intro W k
    exact ⟨HS2.out.grew k, HD.out, Nxt.first _ _ _ _, by show 1 ≤ 100001; omega⟩
  case assign =>
    intro l x W K hK
    gi_wp2
    exact hK
  case stop =>
    intro D W hD h hDD
    have hF := h.put (.deferred none) hDD rfl (by have := HZ2.out; omega) HLT.out.2.1 HLT.out.2.2.1
    refine ⟨by simp, .inl ⟨_, _, rfl, run_takeDeferred hDD, ?_⟩⟩
    refine ⟨.tuple #[], ?_, .inl ⟨rfl, hF⟩⟩
    simp [results, Tryz.f18, go_sem]
  case pan =>
    intro D ch W hD h hDD
    have h' : PanR p B n ee r bs ch W ∧ Kept (ofP p) w4 W := by
      rcases h with h | ⟨_, h1, h2⟩
      · exact h
      · exact ⟨h1, h2⟩
    refine ⟨by simp, .inl ⟨_, _, rfl, run_takeDeferred hDD, ?_⟩⟩
    exact .inr ⟨ch, rfl, h'.1.put _ hDD rfl, h'.2.next (kept_put W D _) (fun x hx e => by have e' : x = D := e; have := HZ2.out; omega)⟩
  case body =>
    rintro l ⟨k, ds⟩ ⟨k', xv⟩ W hsz hI ⟨hkk, hk1, hzl, hnx, hdd, ⟨hrow, hnew⟩, hscr⟩
    obtain rfl : k' = k := hkk
    have hcd : Digs 18446744073709551616 (candL ds n) := digs_digs (by omega) _ _
    have hcv := candL_val ds HN.out.1
    have hcl : (candL ds n).length = (n + 63) / 64 := digs_length _ _ _
    obtain ⟨xo, xn, xc, rfl, hxl, _⟩ := hrow.open
    have hxb : xn ≤ 999999 := by have h1 : (candL ds n).length = xn := hxl.out; rw [hcl] at h1; have := HN.out; omega
    obtain ⟨c0, c1, c2, c3⟩ := JB.out _ hI
    have HI := toHid hI
    have HROW := toHid hrow
    have HSCR := toHid hscr
    have HNEW := toHid hnew
    have HDS := toHid hdd
    have HCD := toHid hcd
    have HWZ := toHid hsz
    by_cases hg : goodN (candN (ds.take ((n + 7) / 8)) n) ee
    · have hG := pGood xo xn xc (candL ds n) ee HEE.out true (by rw [hcv]; simp [hg]) W hrow hcd hxb
      obtain ⟨r1, r2, r3, r4, hRN⟩ : ∃ r1 r2 r3 r4, rndAll (candL ds n) (r : Int) (ds.drop ((n + 7) / 8)) = (r1, r2, r3, r4) := ⟨_, _, _, _, rfl⟩
      obtain ⟨rr4, hd4⟩ := rndAll_rest (candL ds n) (r : Int) (ds.drop ((n + 7) / 8))
      rw [hRN] at hd4
      have HD4 : Hid (Digs 256 r4) := by
        have e4 : r4 = (ds.drop ((n + 7) / 8)).drop rr4 := hd4
        unfold Hid
        rw [e4]
        exact (hdd.drop _).drop _
      have HNX := toHid (hnx.good hk1 hzl hg hRN)
      have HRN := toHid hRN
      clear hI hrow hscr hnew hdd hcd hsz hnx hg hcv hcl hxl hRN hzl hd4
      gi_wp2_with fail
      refine ⟨trivial, ?_⟩
      refine (CallsIn.inRound l (callsIn_wide.2 hG)).mono ?_
      rintro e w5 ⟨rfl, k5⟩
      have HI5 := toHid (HI.out.trans k5.any)
      have HK5 := toHid k5
      obtain ⟨d0, d1, d2, d3⟩ := JB.out _ HI5.out
      have hPs := oPasses xo p xn xc B (r : Int) (candL ds n) (ds.drop ((n + 7) / 8)) r1 r2 r3 r4 HRN.out (by omega) (by have := HRR.out; omega) w5 (HROW.out.grew k5) HCD.out (by omega) (HSCR.out.grew k5) (by have := HI5.out.size; have := HLT.out; omega) (HDS.out.drop _)
      clear hG k5 c0 c1 c2 c3
      gi_wp2_with fail
      refine ⟨trivial, ?_⟩
      refine (CallsIn.inRound l (callsIn_wide.2 hPs)).mono ?_
      rintro e w6 ⟨(⟨hr3, rfl⟩ | ⟨hr3, rfl⟩), hs6, k6⟩
      · have HS6 := toHid hs6
        have HK6 := toHid k6
        have HI6 := toHid (HI5.out.trans k6)
        have HR3 := toHid hr3
        clear hPs hs6 k6 d0 d1 d2 d3 hr3
        cases r1 with
        | true =>
          have hBx := JO.out _ HI6.out
          have cI := hBx.1.cell
          have fI := hBx.1.free
          have hR2 := hBx.2.other ⟨bP, 0, none⟩ (fun e => HLT.out.2.2.2.1 e.symm) (.slice xo xn xc)
          have cR := hR2.cell
          have fR := hR2.free
          have cR0 := hBx.2.cell
          have fR0 := hBx.2.free
          have hRow6 := ((HROW.out.grew HK5.out).kept' HK6.out (fun _ x hx e => by have := HOP.out x e; have := HNEW.out x hx; have := HZ2.out; have := HLT.out; omega))
          have hRow7 := (hRow6.kept' (kept_box w6 bP (.slice xo xn xc)) (fun _ x hx e => by have e' : x = bP := e; have := HNEW.out x hx; have := HZ2.out; have := HLT.out; omega)).kept' (kept_box _ bM (.int .i64 (k' : Int))) (fun _ x hx e => by have e' : x = bM := e; have := HNEW.out x hx; have := HZ2.out; have := HLT.out; omega)
          have hS7 := (HS6.out.box (b := bP) HLT.out.2.2.2.2.1 (.slice xo xn xc)).box (b := bM) HLT.out.2.2.2.2.2 (.int .i64 (k' : Int))
          have hP7 := (hBx.1.set (.slice xo xn xc)).other ⟨bM, 0, none⟩ HLT.out.2.2.2.1 (.int .i64 (k' : Int))
          have hM7 := hR2.set (.int .i64 (k' : Int))
          have hK7 : ∀ A, Kept (ofP p) A w6 → Kept (fun x => ofP p x ∨ x = bP ∨ x = bM) A ((w6.setCell ⟨bP, 0, none⟩ (.slice xo xn xc)).setCell ⟨bM, 0, none⟩ (.int .i64 (k' : Int))) := fun A kk => ((kk.mono (fun _ _ e => .inl e)).next (kept_box w6 bP (.slice xo xn xc)) (fun _ _ e => .inr (.inl e))).next (kept_box _ bM (.int .i64 (k' : Int))) (fun _ _ e => .inr (.inr e))
          have HF : Hid (Kept (fun x => ofP p x ∨ x = bP ∨ x = bM) W ((w6.setCell ⟨bP, 0, none⟩ (.slice xo xn xc)).setCell ⟨bM, 0, none⟩ (.int .i64 (k' : Int))) ∧ DrwEnd w4 p B bP bM n ee r bs ((w6.setCell ⟨bP, 0, none⟩ (.slice xo xn xc)).setCell ⟨bM, 0, none⟩ (.int .i64 (k' : Int)))) :=
            ⟨hK7 _ (HK5.out.any.trans HK6.out), _, _, _, _, HNX.out.2.1 HR3.out (by first | rfl | trivial), ⟨hRow7, fun b hb => by have := HNEW.out b hb; have := HZ2.out; omega⟩, hS7, ⟨hP7, hM7⟩, hK7 _ HI6.out⟩
          clear hBx hR2 hRow6 hRow7 hS7 hP7 hM7 hK7
          gi_wp2_with fail
          exact HF.out
        | false =>
          gi_wp2_with fail
          exact ⟨HK5.out.any.trans HK6.out, (k' + 1, r4), rfl, HS6.out, HD4.out, HNX.out.2.2 HR3.out (by first | rfl | trivial), by show k' + 1 ≤ 100001; omega⟩
      · exact ⟨rfl, (HK5.out.any.trans k6).mono (fun _ _ e => .inl e), ⟨r3, r4, rfl, hr3, HNX.out.1 hr3, hs6⟩, HI5.out.trans k6⟩
    · have hG := pGood xo xn xc (candL ds n) ee HEE.out false (by rw [hcv]; simp [hg]) W hrow hcd hxb
      have HNX := toHid (hnx.bad hk1 hzl hg)
      clear hI hrow hscr hnew hdd hcd hsz hnx hg hcv hcl hxl hzl
      gi_wp2_with fail
      refine ⟨trivial, ?_⟩
      refine (CallsIn.inRound l (callsIn_wide.2 hG)).mono ?_
      rintro e w5 ⟨rfl, k5⟩
      have HK5 := toHid k5
      clear hG k5 c0 c1 c2 c3
      gi_wp2_with fail
      refine ⟨trivial, ?_⟩
      gi_wp2_with fail
      exact ⟨HK5.out.any, (k' + 1, ds.drop ((n + 7) / 8)), rfl, HSCR.out.grew HK5.out, HDS.out.drop _, HNX.out, by show k' + 1 ≤ 100001; omega⟩

end Go.Proofs.YtcjaafmlflonhaaGreatDoor


/- Package prime: Draw, from outside. -/
namespace Go.Proofs.YtcjaafmlflonhaaGreatDoor
open Go.RowKit Go.Shelf

set_option maxRecDepth 20000 in
set_option maxHeartbeats 2000000 in
/-- What Draw attempts, where an argument may not be. -/
theorem oDraw1Bad (bN bE bR bS bP bM : Nat) (n r : Int) (ee : Nat) (w : World) (hbad : n < 16 ∨ 4096 < n ∨ ee < 3 ∨ ee % 2 = 0 ∨ r < 1 ∨ 100 < r)
    (b0 : w.cell? ⟨bN, 0, none⟩ = some (.int .i64 n)) (b1 : w.cell? ⟨bE, 0, none⟩ = some (.int .u64 (ee : Int))) (b2 : w.cell? ⟨bR, 0, none⟩ = some (.int .i64 r)) :
    Calls Tryz.prog 18 #[.pointer (some ⟨bN, 0, none⟩), .pointer (some ⟨bE, 0, none⟩), .pointer (some ⟨bR, 0, none⟩), .pointer (some ⟨bS, 0, none⟩), .pointer (some ⟨bP, 0, none⟩), .pointer (some ⟨bM, 0, none⟩)] w fun e w' => e = .panicked [refusal 1] ∧ w' = w := by
  have hRf := oRefuseNo 1 w
  have hRy := oRefuseYes 1 w
  by_cases h1 : 16 ≤ n ∧ n ≤ 4096
  · have J0 := pMay n true (by symm; exact decide_eq_true h1) w
    have hbad2 : ee < 3 ∨ ee % 2 = 0 ∨ r < 1 ∨ 100 < r := by omega
    clear hbad h1
    by_cases h2 : ee < 3 ∨ ee % 2 = 0
    · clear hbad2
      refine (callsIn_wide (n := 9)).1 ?_
      refine callsIn_of_wpF Tryz.func18 rfl ?_
      simp only [Tryz.ntmps18, List.size_toArray, List.length_cons, List.length_nil, Nat.reduceAdd, Nat.reduceSub, Array.replicate_succ, Array.replicate_zero, List.push_toArray, List.append_toArray, List.nil_append, List.cons_append]
      refine wpF_seq (n := 9) fun K hK => ?_
      refine wpIn_wide.2 ?_
      go_wp2_with fail
      refine J0.mono ?_
      rintro e w1 ⟨rfl, rfl⟩
      go_wp2_with fail
      refine hRf.mono ?_
      rintro e w2 ⟨rfl, rfl⟩
      go_wp2_with fail
      clear J0 hRf
      refine wpF_seq (n := 9) fun K hK => ?_
      refine wpIn_wide.2 ?_
      clear hK
      rcases Nat.lt_or_ge ee 3 with h3 | h3
      · have g3 : (ee : Int) < 3 := by omega
        clear h2
        go_wp2_with fail
        refine hRy.mono ?_
        rintro e w3 ⟨rfl, rfl⟩
        exact ⟨rfl, rfl⟩
      · have g3 : ¬ (ee : Int) < 3 := by omega
        have g4 : (ee : Int) % 2 = 0 := by omega
        have g4' : (ee : Int).tmod 2 = 0 := by rw [Int.tmod_eq_emod_of_nonneg (by omega)]; omega
        clear h2 h3
        go_wp2_with fail
        refine hRy.mono ?_
        rintro e w3 ⟨rfl, rfl⟩
        exact ⟨rfl, rfl⟩
    · have g3 : ¬ (ee : Int) < 3 := by omega
      have g4 : ¬ (ee : Int) % 2 = 0 := by omega
      have g4' : ¬ (ee : Int).tmod 2 = 0 := by rw [Int.tmod_eq_emod_of_nonneg (by omega)]; omega
      have h5 : r < 1 ∨ 100 < r := by omega
      have d3 : decide ((ee : Int) < 3) = false := decide_eq_false g3
      have d4 : ((ee : Int) % 2 == 0) = false := by simp; omega
      clear h2 hbad2
      refine (callsIn_wide (n := 9)).1 ?_
      refine callsIn_of_wpF Tryz.func18 rfl ?_
      simp only [Tryz.ntmps18, List.size_toArray, List.length_cons, List.length_nil, Nat.reduceAdd, Nat.reduceSub, Array.replicate_succ, Array.replicate_zero, List.push_toArray, List.append_toArray, List.nil_append, List.cons_append]
      refine wpF_seq (n := 9) fun K hK => ?_
      refine wpIn_wide.2 ?_
      go_wp2_with fail
      refine J0.mono ?_
      rintro e w1 ⟨rfl, rfl⟩
      go_wp2_with fail
      refine hRf.mono ?_
      rintro e w2 ⟨rfl, rfl⟩
      go_wp2_with fail
      clear J0
      refine wpF_seq (n := 9) fun K hK => ?_
      refine wpIn_wide.2 ?_
      go_wp2_with fail
      refine hRf.mono ?_
      rintro e w3 ⟨rfl, rfl⟩
      go_wp2_with fail
      clear hRf g3 g4 g4' d3 d4
      refine wpF_seq (n := 9) fun K hK => ?_
      refine wpIn_wide.2 ?_
      clear hK
      by_cases h6 : r < 1
      · clear h5
        go_wp2_with fail
        refine hRy.mono ?_
        rintro e w4 ⟨rfl, rfl⟩
        exact ⟨rfl, rfl⟩
      · have h7 : r > 100 := by omega
        have h7' : 100 < r := by omega
        clear h5
        go_wp2_with fail
        refine hRy.mono ?_
        rintro e w4 ⟨rfl, rfl⟩
        exact ⟨rfl, rfl⟩
  · have J0 := pMay n false (by symm; exact decide_eq_false h1) w
    clear hbad h1 hRf
    refine (callsIn_wide (n := 9)).1 ?_
    refine callsIn_of_wpF Tryz.func18 rfl ?_
    simp only [Tryz.ntmps18, List.size_toArray, List.length_cons, List.length_nil, Nat.reduceAdd, Nat.reduceSub, Array.replicate_succ, Array.replicate_zero, List.push_toArray, List.append_toArray, List.nil_append, List.cons_append]
    refine wpF_seq (n := 9) fun K hK => ?_
    refine wpIn_wide.2 ?_
    clear hK
    go_wp2_with fail
    refine J0.mono ?_
    rintro e w1 ⟨rfl, rfl⟩
    go_wp2_with fail
    refine hRy.mono ?_
    rintro e w2 ⟨rfl, rfl⟩
    exact ⟨rfl, rfl⟩

/-- Whether Draw's arguments may not be. -/
def drwBad (n r : Int) (ee : Nat) : Prop := n < 16 ∨ 4096 < n ∨ ee < 3 ∨ ee % 2 = 0 ∨ r < 1 ∨ 100 < r

/-- What Draw answers. -/
def drwSays (n r : Int) (ee : Nat) (bs P : List Nat) (K E : Nat) (R : List Nat) : Prop := (drwBad n r ee ∧ P = [] ∧ K = 0 ∧ E = 1 ∧ R = bs) ∨ (¬ drwBad n r ee ∧ DrawR n.toNat ee r.toNat 100000 bs 1 (P, K, E, R))

set_option maxRecDepth 20000 in
set_option maxHeartbeats 2000000 in
/-- Draw. -/
theorem oDraw (p : Option Addr) (B : Nat) (n r : Int) (ee : Nat) (bs : List Nat) (he : ee < 18446744073709551616) (w : World) (hs : Lsc w p B bs) (hB : B ≤ w.heap.size) (hd : Digs 256 bs) :
    Calls Tryz.prog 7 #[.pointer p, .int .i64 n, .int .u64 (ee : Int), .int .i64 r] w fun e w' => ∃ v K E, e = .returned (.tuple #[v, .int .i64 ((K : Nat) : Int), .int .i64 ((E : Nat) : Int)]) ∧ ∃ P R, drwSays n r ee bs P K E R ∧ (Row .u64 w' v P ∧ ∀ b, v.ownBlock = some b → w.heap.size ≤ b) ∧ Lsc w' p B R ∧ Kept (ofP p) w w' := by
  have hmf : ∀ (fn : Fn) (first cap : Array Value) (w : World), (Instr.makeFunc fn first cap).run Tryz.prog w = .ok (.func fn first cap) w := fun _ _ _ _ => rfl
  have hee : ∀ args w, (callFunc 18 args).run Tryz.prog w = .ok (.enter 18 args) w := fun _ _ => by simp [go_sem]
  obtain ⟨W, hW⟩ : ∃ W, W = (((((w.alloc (.cells #[.pointer p] 25)).alloc (.cells #[.int .i64 n] 3)).alloc (.cells #[.int .u64 (ee : Int)] 23)).alloc (.cells #[.int .i64 r] 3)).alloc (.cells #[.slice none 0 0] 31)).alloc (.cells #[.int .i64 0] 3) := ⟨_, rfl⟩
  obtain ⟨k0, x0, x1, x2, x3, x4, x5, hsz⟩ := boxes6 w (.pointer p) (.int .i64 n) (.int .u64 (ee : Int)) (.int .i64 r) (.slice none 0 0) (.int .i64 0) 25 3 23 3 31 3
  rw [← hW] at k0 x0 x1 x2 x3 x4 x5 hsz
  have k1 := k0.alloc (.cells #[.int .i64 0] 32)
  have xe := Box.new W (.int .i64 0) 32
  have hsz1 : (W.alloc (.cells #[.int .i64 0] 32)).heap.size = W.heap.size + 1 := by simp
  have hno : ∀ b, B ≤ b → ¬ ofP p b := fun b hb e => by have := (hs.inP e).1; omega
  have hAt := oAttempt 18 #[.pointer (some ⟨w.heap.size + 1, 0, none⟩), .pointer (some ⟨w.heap.size + 1 + 1, 0, none⟩), .pointer (some ⟨w.heap.size + 1 + 1 + 1, 0, none⟩), .pointer (some ⟨w.heap.size, 0, none⟩), .pointer (some ⟨w.heap.size + 1 + 1 + 1 + 1, 0, none⟩), .pointer (some ⟨w.heap.size + 1 + 1 + 1 + 1 + 1, 0, none⟩)] W
    (fun c W' => ∃ v P K R E, c = ((E : Nat) : Int) ∧ drwSays n r ee bs P K E R ∧ (Row .u64 W' v P ∧ ∀ b, v.ownBlock = some b → W.heap.size < b) ∧ Lsc W' p B R ∧ (Box W' (w.heap.size + 1 + 1 + 1 + 1) v 31 ∧ Box W' (w.heap.size + 1 + 1 + 1 + 1 + 1) (.int .i64 ((K : Nat) : Int)) 3) ∧ Kept (ofP p) w W') hee (by
    by_cases hbad : drwBad n r ee
    · refine (oDraw1Bad _ _ _ _ _ _ n r ee _ hbad (x1.alloc _).cell (x2.alloc _).cell (x3.alloc _).cell).mono ?_
      rintro e w' ⟨rfl, rfl⟩
      exact ⟨xe, .inr ⟨1, rfl, .slice none 0 0, [], 0, bs, 1, rfl, .inl ⟨hbad, rfl, rfl, rfl, rfl⟩, ⟨Row.nil _ _, fun b hb => by cases hb⟩, hs.grew k1, ⟨x4.alloc _, x5.alloc _⟩, k1.any⟩⟩
    · have hb2 : ¬ (n < 16 ∨ 4096 < n ∨ ee < 3 ∨ ee % 2 = 0 ∨ r < 1 ∨ 100 < r) := hbad
      obtain ⟨n', rfl⟩ : ∃ n' : Nat, n = (n' : Int) := ⟨n.toNat, by omega⟩
      obtain ⟨r', rfl⟩ : ∃ r' : Nat, r = (r' : Int) := ⟨r.toNat, by omega⟩
      refine (oDraw1 p B (w.heap.size + 1) (w.heap.size + 1 + 1) (w.heap.size + 1 + 1 + 1) w.heap.size (w.heap.size + 1 + 1 + 1 + 1) (w.heap.size + 1 + 1 + 1 + 1 + 1) n' ee r' bs _ (by omega) (by omega) (by omega) (by omega) he (by omega) (by omega) (hs.grew k1) hd (by omega) (by omega) (by omega) (by omega) (by omega) (by omega) (by omega) (x1.alloc _) (x2.alloc _) (x3.alloc _) (x0.alloc _) (x4.alloc _) (x5.alloc _)).mono ?_
      rintro e w' (⟨rfl, v, P, K, R, h1, ⟨h2, h3⟩, h4, ⟨h5, h6⟩, h7⟩ | ⟨ch, rfl, ⟨E, R, rfl, hE, h1, h2⟩, h3⟩)
      · rw [hsz1] at h3
        refine ⟨xe.kept h7 (fun e => ?_), .inl ⟨rfl, v, P, K, R, 0, rfl, .inr ⟨hbad, h1⟩, ⟨h2, fun b hb => by have := h3 b hb; omega⟩, h4, ⟨h5, h6⟩, ?_⟩⟩
        · rcases e with e | e | e
          · exact hno _ (by omega) e
          · omega
          · omega
        · exact (k1.any.next h7 (fun x hx e => by
            rcases e with e | e | e
            · exact e
            · omega
            · omega))
      · exact ⟨xe.kept h3 (hno _ (by omega)), .inr ⟨_, rfl, .slice none 0 0, [], 0, R, E, rfl, .inr ⟨hbad, h1⟩, ⟨Row.nil _ _, fun b hb => by cases hb⟩, h2, ⟨(x4.alloc (.cells #[.int .i64 0] 32)).kept h3 (hno _ (by omega)), (x5.alloc (.cells #[.int .i64 0] 32)).kept h3 (hno _ (by omega))⟩, k1.any.trans h3⟩⟩)
  have HW := toHid hW
  have HSZ := toHid hsz
  have HB := toHid hB
  clear hd hs hB he hW k0 k1 x0 x1 x2 x3 x4 x5 xe hee hsz hsz1 hno
  go_enter Tryz.func7, Tryz.ntmps7
  go_wp2_with (rw [← HW.out])
  refine hAt.mono ?_
  rintro e w' ⟨c, w1, rfl, ⟨⟨v, P, K, R, E, rfl, hsays, ⟨hrow, hnew⟩, hsc, ⟨hP, hM⟩, k2⟩, hbe⟩, rfl⟩
  have hbe' : Box w1 W.heap.size (.int .i64 0) 32 := hbe
  have hs6 : W.heap.size = w.heap.size + 1 + 1 + 1 + 1 + 1 + 1 := HSZ.out
  have k4 := k2.next (kept_box w1 W.heap.size (.int .i64 (E : Int))) (fun x hx e => by omega)
  have hrow2 := hrow.kept' (kept_box w1 W.heap.size (.int .i64 (E : Int))) (fun _ x hx e => by have := hnew x hx; have e' : x = W.heap.size := e; omega)
  have hsc2 := hsc.box (b := W.heap.size) (by have := HB.out; omega) (.int .i64 (E : Int))
  have hP2 := hP.other ⟨W.heap.size, 0, none⟩ (by show w.heap.size + 1 + 1 + 1 + 1 ≠ W.heap.size; omega) (.int .i64 (E : Int))
  have hM2 := hM.other ⟨W.heap.size, 0, none⟩ (by show w.heap.size + 1 + 1 + 1 + 1 + 1 ≠ W.heap.size; omega) (.int .i64 (E : Int))
  generalize w1.setCell ⟨W.heap.size, 0, none⟩ (.int .i64 (E : Int)) = w2 at *
  obtain ⟨vo, vn, vc, rfl, _⟩ := hrow.open
  have c1 := hP2.cell
  have f1 := hP2.free
  have c2 := hM2.cell
  have f2 := hM2.free
  have hP3 := hP2.set (.slice vo vn vc)
  have hM3 := hM2.other ⟨w.heap.size + 1 + 1 + 1 + 1, 0, none⟩ (by show w.heap.size + 1 + 1 + 1 + 1 + 1 ≠ w.heap.size + 1 + 1 + 1 + 1; omega) (.slice vo vn vc)
  have hP4 := hP3.other ⟨w.heap.size + 1 + 1 + 1 + 1 + 1, 0, none⟩ (by show w.heap.size + 1 + 1 + 1 + 1 ≠ w.heap.size + 1 + 1 + 1 + 1 + 1; omega) (.int .i64 (K : Int))
  have hM4 := hM3.set (.int .i64 (K : Int))
  have c3 := hP4.cell
  have c4 := hM4.cell
  have HSC := toHid ((hsc2.box (b := w.heap.size + 1 + 1 + 1 + 1) (by have := HB.out; omega) (.slice vo vn vc)).box (b := w.heap.size + 1 + 1 + 1 + 1 + 1) (by have := HB.out; omega) (.int .i64 (K : Int)))
  have HK := toHid ((k4.next (kept_box w2 (w.heap.size + 1 + 1 + 1 + 1) (.slice vo vn vc)) (fun x hx e => by omega)).next (kept_box _ (w.heap.size + 1 + 1 + 1 + 1 + 1) (.int .i64 (K : Int))) (fun x hx e => by omega))
  have HR := toHid ((hrow2.kept' (kept_box w2 (w.heap.size + 1 + 1 + 1 + 1) (.slice vo vn vc)) (fun _ x hx e => by have := hnew x hx; have e' : x = w.heap.size + 1 + 1 + 1 + 1 := e; omega)).kept' (kept_box _ (w.heap.size + 1 + 1 + 1 + 1 + 1) (.int .i64 (K : Int))) (fun _ x hx e => by have := hnew x hx; have e' : x = w.heap.size + 1 + 1 + 1 + 1 + 1 := e; omega))
  have HNW : Hid (∀ b, (Value.slice vo vn vc).ownBlock = some b → w.heap.size ≤ b) := fun b hb => by have := hnew b hb; omega
  have HSA := toHid hsays
  clear hAt hrow hrow2 hnew hsc hsc2 hP hM hP2 hM2 hP3 hM3 hP4 hM4 k2 k4 hbe hbe' hs6 hsays
  go_wp2_with fail
  go_region
  all_goals
    go_wp2
    exact bodyPost_ret (v := .tuple #[.slice vo vn vc, .int .i64 (K : Int), .int .i64 (E : Int)]) (by simp [results, Tryz.results7, go_sem, c3, c4]) rfl ⟨_, K, E, rfl, P, R, HSA.out, ⟨HR.out.grew (Kept.refl _ _).drew, HNW.out⟩, HSC.out.grew (Kept.refl _ _).drew, HK.out.trans (Kept.refl Nought _).drew.any⟩

end Go.Proofs.YtcjaafmlflonhaaGreatDoor


/- What the laws of layer 18 ask first: awake. -/
namespace Go.Proofs.YtcjaafmlflonhaaGreatDoor
open Go.RowKit

theorem row18 (W : World) (z : Nat) : Row .u64 (W.alloc (.cells #[.int .u64 (z : Nat)] 23)) (.slice (some ⟨W.heap.size, 0, none⟩) 1 1) [z] :=
  Row.of_own (base := W.heap.size) (e := 23) (World.ownsRow_lit W #[.int .u64 (z : Nat)] 1 (Nat.le_refl _) (by unfold maxLen; omega) rfl)

theorem row18b (W : World) : Row .u8 (W.alloc (.cells #[.int .u8 0, .int .u8 0] 5)) (.slice (some ⟨W.heap.size, 0, none⟩) 2 2) [0, 0] :=
  Row.of_own (base := W.heap.size) (e := 5) (World.ownsRow_lit W #[.int .u8 0, .int .u8 0] 2 (Nat.le_refl _) (by unfold maxLen; omega) rfl)

theorem pass23A : (List.range 23).all (fun p => decide (p < 2) || decide (23 % p ≠ 0)) = true := by decide +kernel

theorem good23 : goodN (val 18446744073709551616 [23]) 3 := by
  rw [show val 18446744073709551616 [23] = 23 from rfl]
  refine ⟨by omega, by omega, ⟨by omega, 23, .inr ⟨by decide +kernel, by omega, by omega, fun p hp hlt => ?_⟩, .inr rfl⟩, by decide⟩
  have h := List.all_eq_true.1 pass23A p (List.mem_range.2 (by omega))
  have h2 := hp.1
  rw [decide_eq_false (by omega), Bool.false_or, decide_eq_true_iff] at h
  exact h

theorem good31 : ¬ goodN (val 18446744073709551616 [31]) 3 := fun h => by
  have h2 : Nat.gcd 30 3 = 1 := h.2.2.2
  exact absurd h2 (by decide)

set_option maxRecDepth 20000 in
set_option maxHeartbeats 1000000 in
/-- awake. -/
theorem f18Awake (w : World) : Calls Tryz.prog 5 #[] w fun r w' => r = .returned (.bool true) ∧ Kept Nought w w' := by
  have J1 := pCand (.slice (some ⟨w.heap.size, 0, none⟩) 2 2) [0, 0] 16 (by omega) (by omega) 0 [49153] (by decide +kernel) (by decide +kernel) _ (row18b w) (fun d hd => by simp at hd; omega)
  have K1 := (Kept.refl Nought w).alloc (.cells #[.int .u8 0, .int .u8 0] 5)
  have HK1 := toHid K1
  clear K1
  go_enter Tryz.func5, Tryz.ntmps5
  go_wp2_with fail
  refine J1.mono ?_
  rintro e w1 ⟨v, rfl, hr, _, k1⟩
  obtain ⟨ao, L, cap, rfl, hL, hLc, hcm, hnn, hnum⟩ := hr.open
  obtain rfl : 1 = L := hL.out
  obtain ⟨b, off, rfl, c0⟩ := hnum 0 (by omega)
  have c0' : w1.cell? ⟨b, off, none⟩ = some (.int .u64 49153) := c0
  have HK2 := toHid (HK1.out.trans k1)
  have J2 := pGood _ 1 1 [23] 3 (by omega) true (by simp [good23]) _ (row18 w1 23) (Digs.one (by omega)) (by omega)
  have HK3 := toHid (HK2.out.alloc (.cells #[.int .u64 (23 : Nat)] 23))
  clear J1 hr hL hnum c0 k1 hnn
  go_wp2_with fail
  refine J2.mono ?_
  rintro e w2 ⟨rfl, k2⟩
  have HK4 := toHid (HK3.out.trans k2)
  have J3 := pGood _ 1 1 [31] 3 (by omega) false (by simp [good31]) _ (row18 w2 31) (Digs.one (by omega)) (by omega)
  have HK5 := toHid (HK4.out.alloc (.cells #[.int .u64 (31 : Nat)] 23))
  clear J2 k2 c0'
  go_wp2_with fail
  refine J3.mono ?_
  rintro e w3 ⟨rfl, k3⟩
  have HK6 := toHid (HK5.out.trans k3)
  clear J3 k3
  go_wp2_with fail
  go_ret
  exact ⟨rfl, HK6.out⟩

end Go.Proofs.YtcjaafmlflonhaaGreatDoor


/- Layer 18: the plain draw at any arguments; what is drawn is one. -/
namespace Go.Proofs.YtcjaafmlflonhaaGreatDoor
open Go.RowKit

theorem drwSays.uniq {n r : Int} {ee : Nat} {bs P P' : List Nat} {K K' E E' : Nat} {R R' : List Nat} (h : drwSays n r ee bs P K E R) (h' : drwSays n r ee bs P' K' E' R') : P' = P ∧ K' = K ∧ E' = E ∧ R' = R := by
  rcases h with ⟨h1, rfl, rfl, rfl, rfl⟩ | ⟨h1, h2⟩
  · rcases h' with ⟨_, rfl, rfl, rfl, rfl⟩ | ⟨g1, _⟩
    · exact ⟨rfl, rfl, rfl, rfl⟩
    · exact absurd h1 g1
  · rcases h' with ⟨g1, _⟩ | ⟨_, g2⟩
    · exact absurd g1 h1
    · have := DrawR.uniq g2 h2
      simp only [Prod.mk.injEq] at this
      exact this

/-- The plain draw, at any arguments. -/
theorem rDrawAny (b B : Nat) (bs : List Nat) (n r : Int) (ee : Nat) (he : ee < 18446744073709551616) (w : World) (h : ScrAt w b B bs) (hB : B ≤ w.heap.size) (hbd : Digs 256 bs) (hbl : bs.length ≤ 1000000) :
    Calls Tryz.prog 8 #[.pointer (some ⟨b, 0, none⟩), .int .i64 n, .int .u64 (ee : Int), .int .i64 r] w fun q w' => ∃ v K E, q = .returned (.tuple #[v, .int .i64 ((K : Nat) : Int), .int .i64 ((E : Nat) : Int)]) ∧ ∃ P R, drwSays n r ee bs P K E R ∧ Row .u64 w' v P ∧ ScrAt w' b B R ∧ Kept (fun x => x = b) w w' := by
  by_cases hbad : drwBad n r ee
  · refine (r18DrawBad b n r ee he w hbad).mono ?_
    rintro q w' ⟨rfl, rfl⟩
    exact ⟨_, 0, 1, rfl, [], bs, .inl ⟨hbad, rfl, rfl, rfl, rfl⟩, Row.nil _ _, h, Kept.refl _ _⟩
  · have hb2 : ¬ (n < 16 ∨ 4096 < n ∨ ee < 3 ∨ ee % 2 = 0 ∨ r < 1 ∨ 100 < r) := hbad
    obtain ⟨n', rfl⟩ : ∃ n' : Nat, n = (n' : Int) := ⟨n.toNat, by omega⟩
    obtain ⟨r', rfl⟩ : ∃ r' : Nat, r = (r' : Int) := ⟨r.toNat, by omega⟩
    refine (r18Draw b B bs n' ee r' (by omega) (by omega) (by omega) (by omega) he (by omega) (by omega) w h hB hbd hbl).mono ?_
    rintro q w' ⟨v, P, K, E, R, rfl, h1, h2, _, h3, _, h4⟩
    exact ⟨v, K, E, rfl, P, R, .inr ⟨hbad, h1⟩, h2, h3, h4⟩

end Go.Proofs.YtcjaafmlflonhaaGreatDoor

