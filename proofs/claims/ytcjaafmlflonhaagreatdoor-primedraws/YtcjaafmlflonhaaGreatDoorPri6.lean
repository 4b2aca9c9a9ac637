/- Package prime: Draw, from outside. -/
import Derived.Test.YtcjaafmlflonhaaGreatDoorPri5
namespace Go.Proofs.YtcjaafmlflonhaaGreatDoor
open Go.RowKit Go.Shelf

set_option maxRecDepth 20000 in
set_option maxHeartbeats 2000000 in
/-- What Draw attempts, where an argument may not be. -/
theorem oDraw1Bad (bN bE bR bS bP bM : Nat) (n r : Int) (ee : Nat) (w : World) (hbad : n < 16 ∨ 4096 < n ∨ ee < 3 ∨ ee % 2 = 0 ∨ r < 1 ∨ 100 < r)
    (b0 : w.cell? ⟨bN, 0, none⟩ = some (.int .i64 n)) (b1 : w.cell? ⟨bE, 0, none⟩ = some (.int .u64 (ee : Int))) (b2 : w.cell? ⟨bR, 0, none⟩ = some (.int .i64 r)) :
    Calls Tryz.prog 18 #[.pointer (some ⟨bN, 0, none⟩), .pointer (some ⟨bE, 0, none⟩), .pointer (some ⟨bR, 0, none⟩), .pointer (some ⟨bS, 0, none⟩), .pointer (some ⟨bP, 0, none⟩), .pointer (some ⟨bM, 0, none⟩)] w fun e w' => e = .panicked [refusal 1] ∧ w' = w := by
  have hRf := oRefuseNo 1 w
  have hRy := oRefuseYes 1 w
  by_cases h1 : 16 ≤ n ∧ n ≤ 4096
  · have J0 := pMay n true (by symm; exact decide_eq_true h1) w
    have hbad2 : ee < 3 ∨ ee % 2 = 0 ∨ r < 1 ∨ 100 < r := by omega
    clear hbad h1
    by_cases h2 : ee < 3 ∨ ee % 2 = 0
    · clear hbad2
      refine (callsIn_wide (n := 9)).1 ?_
      refine callsIn_of_wpF Tryz.func18 rfl ?_
      simp only [Tryz.ntmps18, List.size_toArray, List.length_cons, List.length_nil, Nat.reduceAdd, Nat.reduceSub, Array.replicate_succ, Array.replicate_zero, List.push_toArray, List.append_toArray, List.nil_append, List.cons_append]
      refine wpF_seq (n := 9) fun K hK => ?_
      refine wpIn_wide.2 ?_
      go_wp2_with fail
      refine J0.mono ?_
      rintro e w1 ⟨rfl, rfl⟩
      go_wp2_with fail
      refine hRf.mono ?_
      rintro e w2 ⟨rfl, rfl⟩
      go_wp2_with fail
      clear J0 hRf
      refine wpF_seq (n := 9) fun K hK => ?_
      refine wpIn_wide.2 ?_
      clear hK
      rcases Nat.lt_or_ge ee 3 with h3 | h3
      · have g3 : (ee : Int) < 3 := by omega
        clear h2
        go_wp2_with fail
        refine hRy.mono ?_
        rintro e w3 ⟨rfl, rfl⟩
        exact ⟨rfl, rfl⟩
      · have g3 : ¬ (ee : Int) < 3 := by omega
        have g4 : (ee : Int) % 2 = 0 := by omega
        have g4' : (ee : Int).tmod 2 = 0 := by rw [Int.tmod_eq_emod_of_nonneg (by omega)]; omega
        clear h2 h3
        go_wp2_with fail
        refine hRy.mono ?_
        rintro e w3 ⟨rfl, rfl⟩
        exact ⟨rfl, rfl⟩
    · have g3 : ¬ (ee : Int) < 3 := by omega
      have g4 : ¬ (ee : Int) % 2 = 0 := by omega
      have g4' : ¬ (ee : Int).tmod 2 = 0 := by rw [Int.tmod_eq_emod_of_nonneg (by omega)]; omega
      have h5 : r < 1 ∨ 100 < r := by omega
      have d3 : decide ((ee : Int) < 3) = false := decide_eq_false g3
      have d4 : ((ee : Int) % 2 == 0) = false := by simp; omega
      clear h2 hbad2
      refine (callsIn_wide (n := 9)).1 ?_
      refine callsIn_of_wpF Tryz.func18 rfl ?_
      simp only [Tryz.ntmps18, List.size_toArray, List.length_cons, List.length_nil, Nat.reduceAdd, Nat.reduceSub, Array.replicate_succ, Array.replicate_zero, List.push_toArray, List.append_toArray, List.nil_append, List.cons_append]
      refine wpF_seq (n := 9) fun K hK => ?_
      refine wpIn_wide.2 ?_
      go_wp2_with fail
      refine J0.mono ?_
      rintro e w1 ⟨rfl, rfl⟩
      go_wp2_with fail
      refine hRf.mono ?_
      rintro e w2 ⟨rfl, rfl⟩
      go_wp2_with fail
      clear J0
      refine wpF_seq (n := 9) fun K hK => ?_
      refine wpIn_wide.2 ?_
      go_wp2_with fail
      refine hRf.mono ?_
      rintro e w3 ⟨rfl, rfl⟩
      go_wp2_with fail
      clear hRf g3 g4 g4' d3 d4
      refine wpF_seq (n := 9) fun K hK => ?_
      refine wpIn_wide.2 ?_
      clear hK
      by_cases h6 : r < 1
      · clear h5
        go_wp2_with fail
        refine hRy.mono ?_
        rintro e w4 ⟨rfl, rfl⟩
        exact ⟨rfl, rfl⟩
      · have h7 : r > 100 := by omega
        have h7' : 100 < r := by omega
        clear h5
        go_wp2_with fail
        refine hRy.mono ?_
        rintro e w4 ⟨rfl, rfl⟩
        exact ⟨rfl, rfl⟩
  · have J0 := pMay n false (by symm; exact decide_eq_false h1) w
    clear hbad h1 hRf
    refine (callsIn_wide (n := 9)).1 ?_
    refine callsIn_of_wpF Tryz.func18 rfl ?_
    simp only [Tryz.ntmps18, List.size_toArray, List.length_cons, List.length_nil, Nat.reduceAdd, Nat.reduceSub, Array.replicate_succ, Array.replicate_zero, List.push_toArray, List.append_toArray, List.nil_append, List.cons_append]
    refine wpF_seq (n := 9) fun K hK => ?_
    refine wpIn_wide.2 ?_
    clear hK
    go_wp2_with fail
    refine J0.mono ?_
    rintro e w1 ⟨rfl, rfl⟩
    go_wp2_with fail
    refine hRy.mono ?_
    rintro e w2 ⟨rfl, rfl⟩
    exact ⟨rfl, rfl⟩

/-- Whether Draw's arguments may not be. -/
def drwBad (n r : Int) (ee : Nat) : Prop := n < 16 ∨ 4096 < n ∨ ee < 3 ∨ ee % 2 = 0 ∨ r < 1 ∨ 100 < r

/-- What Draw answers. -/
def drwSays (n r : Int) (ee : Nat) (bs P : List Nat) (K E : Nat) (R : List Nat) : Prop := (drwBad n r ee ∧ P = [] ∧ K = 0 ∧ E = 1 ∧ R = bs) ∨ (¬ drwBad n r ee ∧ DrawR n.toNat ee r.toNat 100000 bs 1 (P, K, E, R))

set_option maxRecDepth 20000 in
set_option maxHeartbeats 2000000 in
/-- Draw. -/
theorem oDraw (p : Option Addr) (B : Nat) (n r : Int) (ee : Nat) (bs : List Nat) (he : ee < 18446744073709551616) (w : World) (hs : Lsc w p B bs) (hB : B ≤ w.heap.size) (hd : Digs 256 bs) :
    Calls Tryz.prog 7 #[.pointer p, .int .i64 n, .int .u64 (ee : Int), .int .i64 r] w fun e w' => ∃ v K E, e = .returned (.tuple #[v, .int .i64 ((K : Nat) : Int), .int .i64 ((E : Nat) : Int)]) ∧ ∃ P R, drwSays n r ee bs P K E R ∧ (Row .u64 w' v P ∧ ∀ b, v.ownBlock = some b → w.heap.size ≤ b) ∧ Lsc w' p B R ∧ Kept (ofP p) w w' := by
  have hmf : ∀ (fn : Fn) (first cap : Array Value) (w : World), (Instr.makeFunc fn first cap).run Tryz.prog w = .ok (.func fn first cap) w := fun _ _ _ _ => rfl
  have hee : ∀ args w, (callFunc 18 args).run Tryz.prog w = .ok (.enter 18 args) w := fun _ _ => by simp [go_sem]
  obtain ⟨W, hW⟩ : ∃ W, W = (((((w.alloc (.cells #[.pointer p] 25)).alloc (.cells #[.int .i64 n] 3)).alloc (.cells #[.int .u64 (ee : Int)] 23)).alloc (.cells #[.int .i64 r] 3)).alloc (.cells #[.slice none 0 0] 31)).alloc (.cells #[.int .i64 0] 3) := ⟨_, rfl⟩
  obtain ⟨k0, x0, x1, x2, x3, x4, x5, hsz⟩ := boxes6 w (.pointer p) (.int .i64 n) (.int .u64 (ee : Int)) (.int .i64 r) (.slice none 0 0) (.int .i64 0) 25 3 23 3 31 3
  rw [← hW] at k0 x0 x1 x2 x3 x4 x5 hsz
  have k1 := k0.alloc (.cells #[.int .i64 0] 32)
  have xe := Box.new W (.int .i64 0) 32
  have hsz1 : (W.alloc (.cells #[.int .i64 0] 32)).heap.size = W.heap.size + 1 := by simp
  have hno : ∀ b, B ≤ b → ¬ ofP p b := fun b hb e => by have := (hs.inP e).1; omega
  have hAt := oAttempt 18 #[.pointer (some ⟨w.heap.size + 1, 0, none⟩), .pointer (some ⟨w.heap.size + 1 + 1, 0, none⟩), .pointer (some ⟨w.heap.size + 1 + 1 + 1, 0, none⟩), .pointer (some ⟨w.heap.size, 0, none⟩), .pointer (some ⟨w.heap.size + 1 + 1 + 1 + 1, 0, none⟩), .pointer (some ⟨w.heap.size + 1 + 1 + 1 + 1 + 1, 0, none⟩)] W
    (fun c W' => ∃ v P K R E, c = ((E : Nat) : Int) ∧ drwSays n r ee bs P K E R ∧ (Row .u64 W' v P ∧ ∀ b, v.ownBlock = some b → W.heap.size < b) ∧ Lsc W' p B R ∧ (Box W' (w.heap.size + 1 + 1 + 1 + 1) v 31 ∧ Box W' (w.heap.size + 1 + 1 + 1 + 1 + 1) (.int .i64 ((K : Nat) : Int)) 3) ∧ Kept (ofP p) w W') hee (by
    by_cases hbad : drwBad n r ee
    · refine (oDraw1Bad _ _ _ _ _ _ n r ee _ hbad (x1.alloc _).cell (x2.alloc _).cell (x3.alloc _).cell).mono ?_
      rintro e w' ⟨rfl, rfl⟩
      exact ⟨xe, .inr ⟨1, rfl, .slice none 0 0, [], 0, bs, 1, rfl, .inl ⟨hbad, rfl, rfl, rfl, rfl⟩, ⟨Row.nil _ _, fun b hb => by cases hb⟩, hs.grew k1, ⟨x4.alloc _, x5.alloc _⟩, k1.any⟩⟩
    · have hb2 : ¬ (n < 16 ∨ 4096 < n ∨ ee < 3 ∨ ee % 2 = 0 ∨ r < 1 ∨ 100 < r) := hbad
      obtain ⟨n', rfl⟩ : ∃ n' : Nat, n = (n' : Int) := ⟨n.toNat, by omega⟩
      obtain ⟨r', rfl⟩ : ∃ r' : Nat, r = (r' : Int) := ⟨r.toNat, by omega⟩
      refine (oDraw1 p B (w.heap.size + 1) (w.heap.size + 1 + 1) (w.heap.size + 1 + 1 + 1) w.heap.size (w.heap.size + 1 + 1 + 1 + 1) (w.heap.size + 1 + 1 + 1 + 1 + 1) n' ee r' bs _ (by omega) (by omega) (by omega) (by omega) he (by omega) (by omega) (hs.grew k1) hd (by omega) (by omega) (by omega) (by omega) (by omega) (by omega) (by omega) (x1.alloc _) (x2.alloc _) (x3.alloc _) (x0.alloc _) (x4.alloc _) (x5.alloc _)).mono ?_
      rintro e w' (⟨rfl, v, P, K, R, h1, ⟨h2, h3⟩, h4, ⟨h5, h6⟩, h7⟩ | ⟨ch, rfl, ⟨E, R, rfl, hE, h1, h2⟩, h3⟩)
      · rw [hsz1] at h3
        refine ⟨xe.kept h7 (fun e => ?_), .inl ⟨rfl, v, P, K, R, 0, rfl, .inr ⟨hbad, h1⟩, ⟨h2, fun b hb => by have := h3 b hb; omega⟩, h4, ⟨h5, h6⟩, ?_⟩⟩
        · rcases e with e | e | e
          · exact hno _ (by omega) e
          · omega
          · omega
        · exact (k1.any.next h7 (fun x hx e => by
            rcases e with e | e | e
            · exact e
            · omega
            · omega))
      · exact ⟨xe.kept h3 (hno _ (by omega)), .inr ⟨_, rfl, .slice none 0 0, [], 0, R, E, rfl, .inr ⟨hbad, h1⟩, ⟨Row.nil _ _, fun b hb => by cases hb⟩, h2, ⟨(x4.alloc (.cells #[.int .i64 0] 32)).kept h3 (hno _ (by omega)), (x5.alloc (.cells #[.int .i64 0] 32)).kept h3 (hno _ (by omega))⟩, k1.any.trans h3⟩⟩)
  have HW := toHid hW
  have HSZ := toHid hsz
  have HB := toHid hB
  clear hd hs hB he hW k0 k1 x0 x1 x2 x3 x4 x5 xe hee hsz hsz1 hno
  go_enter Tryz.func7, Tryz.ntmps7
  go_wp2_with (rw [← HW.out])
  refine hAt.mono ?_
  rintro e w' ⟨c, w1, rfl, ⟨⟨v, P, K, R, E, rfl, hsays, ⟨hrow, hnew⟩, hsc, ⟨hP, hM⟩, k2⟩, hbe⟩, rfl⟩
  have hbe' : Box w1 W.heap.size (.int .i64 0) 32 := hbe
  have hs6 : W.heap.size = w.heap.size + 1 + 1 + 1 + 1 + 1 + 1 := HSZ.out
  have k4 := k2.next (kept_box w1 W.heap.size (.int .i64 (E : Int))) (fun x hx e => by omega)
  have hrow2 := hrow.kept' (kept_box w1 W.heap.size (.int .i64 (E : Int))) (fun _ x hx e => by have := hnew x hx; have e' : x = W.heap.size := e; omega)
  have hsc2 := hsc.box (b := W.heap.size) (by have := HB.out; omega) (.int .i64 (E : Int))
  have hP2 := hP.other ⟨W.heap.size, 0, none⟩ (by show w.heap.size + 1 + 1 + 1 + 1 ≠ W.heap.size; omega) (.int .i64 (E : Int))
  have hM2 := hM.other ⟨W.heap.size, 0, none⟩ (by show w.heap.size + 1 + 1 + 1 + 1 + 1 ≠ W.heap.size; omega) (.int .i64 (E : Int))
  generalize w1.setCell ⟨W.heap.size, 0, none⟩ (.int .i64 (E : Int)) = w2 at *
  obtain ⟨vo, vn, vc, rfl, _⟩ := hrow.open
  have c1 := hP2.cell
  have f1 := hP2.free
  have c2 := hM2.cell
  have f2 := hM2.free
  have hP3 := hP2.set (.slice vo vn vc)
  have hM3 := hM2.other ⟨w.heap.size + 1 + 1 + 1 + 1, 0, none⟩ (by show w.heap.size + 1 + 1 + 1 + 1 + 1 ≠ w.heap.size + 1 + 1 + 1 + 1; omega) (.slice vo vn vc)
  have hP4 := hP3.other ⟨w.heap.size + 1 + 1 + 1 + 1 + 1, 0, none⟩ (by show w.heap.size + 1 + 1 + 1 + 1 ≠ w.heap.size + 1 + 1 + 1 + 1 + 1; omega) (.int .i64 (K : Int))
  have hM4 := hM3.set (.int .i64 (K : Int))
  have c3 := hP4.cell
  have c4 := hM4.cell
  have HSC := toHid ((hsc2.box (b := w.heap.size + 1 + 1 + 1 + 1) (by have := HB.out; omega) (.slice vo vn vc)).box (b := w.heap.size + 1 + 1 + 1 + 1 + 1) (by have := HB.out; omega) (.int .i64 (K : Int)))
  have HK := toHid ((k4.next (kept_box w2 (w.heap.size + 1 + 1 + 1 + 1) (.slice vo vn vc)) (fun x hx e => by omega)).next (kept_box _ (w.heap.size + 1 + 1 + 1 + 1 + 1) (.int .i64 (K : Int))) (fun x hx e => by omega))
  have HR := toHid ((hrow2.kept' (kept_box w2 (w.heap.size + 1 + 1 + 1 + 1) (.slice vo vn vc)) (fun _ x hx e => by have := hnew x hx; have e' : x = w.heap.size + 1 + 1 + 1 + 1 := e; omega)).kept' (kept_box _ (w.heap.size + 1 + 1 + 1 + 1 + 1) (.int .i64 (K : Int))) (fun _ x hx e => by have := hnew x hx; have e' : x = w.heap.size + 1 + 1 + 1 + 1 + 1 := e; omega))
  have HNW : Hid (∀ b, (Value.slice vo vn vc).ownBlock = some b → w.heap.size ≤ b) := fun b hb => by have := hnew b hb; omega
  have HSA := toHid hsays
  clear hAt hrow hrow2 hnew hsc hsc2 hP hM hP2 hM2 hP3 hM3 hP4 hM4 k2 k4 hbe hbe' hs6 hsays
  go_wp2_with fail
  go_region
  all_goals
    go_wp2
    exact bodyPost_ret (v := .tuple #[.slice vo vn vc, .int .i64 (K : Int), .int .i64 (E : Int)]) (by simp [results, Tryz.results7, go_sem, c3, c4]) rfl ⟨_, K, E, rfl, P, R, HSA.out, ⟨HR.out.grew (Kept.refl _ _).drew, HNW.out⟩, HSC.out.grew (Kept.refl _ _).drew, HK.out.trans (Kept.refl Nought _).drew.any⟩

end Go.Proofs.YtcjaafmlflonhaaGreatDoor
