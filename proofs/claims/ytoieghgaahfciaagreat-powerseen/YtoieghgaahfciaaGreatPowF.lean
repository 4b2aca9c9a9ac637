/- Package power: standIns, haveLengths. -/
import Derived.Test.YtoieghgaahfciaaGreatPowE
import Derived.Test.YtoieghgaahfciaaGreatLaw6
namespace Go.Proofs.YtoieghgaahfciaaGreat
open Go.RowKit

/-- What is new lies apart from an elder trace. -/
theorem fresh_rowT {W w' : World} {o : Tr} {v : Value} {zs : List Nat} (hF : Fresh W v) (ht : TrIn W o) (hr : Row .u64 w' v zs) : RowT w' o v zs :=
  ⟨hr, fun _ b hb f => by have h1 := hF b hb; have h2 := ht.foot b f; omega⟩

theorem val_max (n : Nat) : val 18446744073709551616 (List.replicate n 18446744073709551615) + 1 = 18446744073709551616 ^ n := by
  induction n with
  | zero => rfl
  | succ n ih =>
    rw [List.replicate_succ, val, Nat.pow_succ]
    omega

/-- The modulus that stands in. -/
theorem stand_ok {n V : Nat} (hn0 : 0 < n) (hn : n ≤ 130) (hV : V + 1 = 18446744073709551616 ^ n) : montE V = 0 ∧ wordsN V = n := by
  have h1 : wordsN V ≤ n := (wordsN_le V n).2 (by omega)
  have h2 : ¬ wordsN V ≤ n - 1 := fun h => by
    have h3 := (wordsN_le V (n - 1)).1 h
    have h4 : 18446744073709551616 ^ (n - 1) * 18446744073709551616 = 18446744073709551616 ^ n := by rw [← Nat.pow_succ, show (n - 1).succ = n by omega]
    omega
  have hw : wordsN V = n := by omega
  have h5 : 18446744073709551616 ^ n = 2 * (9223372036854775808 * 18446744073709551616 ^ (n - 1)) := by
    have h4 : 18446744073709551616 ^ (n - 1) * 18446744073709551616 = 18446744073709551616 ^ n := by rw [← Nat.pow_succ, show (n - 1).succ = n by omega]
    omega
  have h6 : 0 < 18446744073709551616 ^ (n - 1) := Nat.pow_pos (by omega)
  refine ⟨?_, hw⟩
  unfold montE
  rw [if_neg (by omega), if_neg (by omega), if_neg (by omega)]

set_option maxHeartbeats 1000000 in
/-- haveLengths. -/
theorem wHave (ao bo eo : Option Addr) (n l mcap rcap L ecap : Nat) (K : Int) (R : Bool) (hR : R = decide ((0 < n ∧ n ≤ 130) ∧ L ≤ 300)) (w : World) :
    Calls Tryz.prog 51 #[.agg #[.slice ao n mcap, .int .u64 K, .slice bo l rcap], .slice eo L ecap] w fun e w' => e = .returned (.bool R) ∧ Kept Nought w w' := by
  have k0 : Kept Nought w (w.alloc (.cells #[.slice ao n mcap, .int .u64 K, .slice bo l rcap] 26)) := (Kept.refl Nought w).alloc _
  by_cases h1 : 0 < n
  · by_cases h2 : n ≤ 130
    · by_cases h3 : L ≤ 300
      · obtain rfl : R = true := by rw [hR]; exact decide_eq_true ⟨⟨h1, h2⟩, h3⟩
        have g1' : (0 : Int) < (n : Int) := by omega
        have g2' : (n : Int) ≤ 130 := by omega
        have g3' : (L : Int) ≤ 300 := by omega
        clear hR
        go_enter Tryz.func51, Tryz.ntmps51
        go_wp2
        go_ret
        exact ⟨by simp, k0⟩
      · obtain rfl : R = false := by rw [hR]; exact decide_eq_false (fun h => h3 h.2)
        have g1' : (0 : Int) < (n : Int) := by omega
        have g2' : (n : Int) ≤ 130 := by omega
        have g3' : ¬ (L : Int) ≤ 300 := by omega
        clear hR
        go_enter Tryz.func51, Tryz.ntmps51
        go_wp2
        go_ret
        exact ⟨by simp, k0⟩
    · obtain rfl : R = false := by rw [hR]; exact decide_eq_false (fun h => h2 h.1.2)
      have g1' : (0 : Int) < (n : Int) := by omega
      have g2' : ¬ (n : Int) ≤ 130 := by omega
      clear hR
      go_enter Tryz.func51, Tryz.ntmps51
      go_wp2
      go_ret
      exact ⟨rfl, k0⟩
  · obtain rfl : R = false := by rw [hR]; exact decide_eq_false (fun h => h1 h.1.1)
    obtain rfl : n = 0 := by omega
    clear hR
    go_enter Tryz.func51, Tryz.ntmps51
    go_wp2
    go_ret
    exact ⟨rfl, k0⟩

set_option maxRecDepth 20000 in
set_option maxHeartbeats 2000000 in
/-- standIns. -/
theorem wStand (n : Nat) (hn0 : 0 < n) (hn : n ≤ 130) (w : World) :
    Calls Tryz.prog 53 #[.int .i64 (n : Nat)] w fun e w' => ∃ (ao bo xo : Option Addr) (mc rc xc K : Nat), e = .returned (.tuple #[.agg #[.slice ao n mc, .int .u64 (K : Nat), .slice bo n rc], .slice xo n xc]) ∧ ∃ ms rs : List Nat, (Row .u64 w' (.slice ao n mc) ms ∧ Row .u64 w' (.slice bo n rc) rs) ∧ (Digs 18446744073709551616 ms ∧ Digs 18446744073709551616 rs ∧ K < 18446744073709551616 ∧ okMod ms K rs) ∧ (Row .u64 w' (.slice xo n xc) (List.replicate n 0) ∧ U64s w' (.slice xo n xc)) ∧ (Fresh w (.slice ao n mc) ∧ Fresh w (.slice bo n rc) ∧ Fresh w (.slice xo n xc)) ∧ Kept Nought w w' := by
  obtain ⟨i0, hi0, hz0, hz1, hz2⟩ := info_parts Tryz.info24
  obtain ⟨W, hW⟩ : ∃ W, W = (w.alloc (.cells #[.slice none 0 0, .int .u64 0, .slice none 0 0] 26)).alloc (.cells #[.int .u64 18446744073709551615] 24) := ⟨_, rfl⟩
  have k0 : Kept Nought w W := by rw [hW]; exact ((Kept.refl Nought w).alloc _).alloc _
  have hsz : W.heap.size = w.heap.size + 1 + 1 := by rw [hW]; simp
  have hO0 : W.heap[w.heap.size]? = some (.cells #[.slice none 0 0, .int .u64 0, .slice none 0 0] 26 (0, 0)) := by rw [hW]; exact heapAt_alloc (heap_alloc_new _ _)
  have hL0 : W.cell? ⟨w.heap.size + 1, 0, none⟩ = some (.int .u64 ((18446744073709551615 : Nat) : Int)) := by
    rw [hW]
    have := Box.new (w.alloc (.cells #[.slice none 0 0, .int .u64 0, .slice none 0 0] 26)) (.int .u64 18446744073709551615) 24
    rw [World.size_alloc] at this
    exact this.cell
  have hRep := sRepeat (w.heap.size + 1) 18446744073709551615 n W hL0 hn0 (by omega)
  obtain ⟨V, hV⟩ : ∃ V, V = val 18446744073709551616 (List.replicate n 18446744073709551615) := ⟨_, rfl⟩
  have hV1 := val_max n
  rw [← hV] at hV1
  obtain ⟨hE, hwn⟩ := stand_ok hn0 hn hV1
  have HSet : Hid (∀ W' g, Row .u64 W' (.slice (some ⟨g, 0, none⟩) n n) (List.replicate n 18446744073709551615) → Calls Tryz.prog 73 #[.slice (some ⟨g, 0, none⟩) n n] W' fun e w' => ∃ (ao bo : Option Addr) (mc rc K : Nat), e = .returned (.tuple #[.agg #[.slice ao n mc, .int .u64 (K : Nat), .slice bo n rc], .int .i64 0]) ∧ (Row .u64 w' (.slice ao n mc) (modM V) ∧ Row .u64 w' (.slice bo n rc) (modR V)) ∧ isKf V K ∧ (Fresh W' (.slice ao n mc) ∧ Fresh W' (.slice bo n rc)) ∧ Kept Nought W' w') := fun W' g hr => by
    refine (mSetupF (some ⟨g, 0, none⟩) n n _ V 0 hV hE.symm W' hr (fun d hd => by rw [(List.mem_replicate.1 hd).2]; omega) (by omega)).mono ?_
    rintro e w' ⟨a, K, b, rfl, h1, h2, h3, ⟨h4, h5⟩, h6⟩
    obtain ⟨_, s2, s3, _⟩ := setup_ok hE h3
    obtain ⟨ao, an, ac, rfl, hl, _⟩ := h1.open
    obtain ⟨bo, bn, bc, rfl, hl2, _⟩ := h2.open
    obtain rfl : an = n := by rw [← hl.out, s2, hwn]
    obtain rfl : bn = an := by rw [← hl2.out, s3, hwn]
    exact ⟨ao, bo, ac, bc, K, rfl, ⟨h1, h2⟩, h3, ⟨h4, h5⟩, h6⟩
  have HOk : Hid (∀ K, isKf V K → Digs 18446744073709551616 (modM V) ∧ Digs 18446744073709551616 (modR V) ∧ K < 18446744073709551616 ∧ okMod (modM V) K (modR V)) := fun K h => by
    obtain ⟨s1, _, _, _, s5, s6⟩ := setup_ok hE h
    exact ⟨s5, s6, h.1, s1⟩
  have HW := toHid hW
  have HK0 := toHid k0
  have HO := toHid hO0
  clear hW k0 hO0 hL0 hV hV1 hE hwn hsz
  go_enter Tryz.func53, Tryz.ntmps53
  go_wp2_with (rw [← HW.out])
  refine hRep.mono ?_
  rintro e w1 ⟨rfl, ho1, k1⟩
  have hS := HSet.out w1 _ (own_row' ho1 (by simp))
  clear hRep ho1
  go_wp2_with fail
  refine hS.mono ?_
  rintro e w2 ⟨ao, bo, mc, rc, K, rfl, hrow, hKf, ⟨fa, fb⟩, k2⟩
  obtain ⟨W3, hW3⟩ : ∃ W3, W3 = w2.alloc (.cells #[.slice ao n mc, .int .u64 (K : Nat), .slice bo n rc] 26) := ⟨_, rfl⟩
  have k3 : Kept Nought w2 W3 := by rw [hW3]; exact (Kept.refl Nought w2).alloc _
  have hm3 : W3.heap[w2.heap.size]? = some (.cells #[.slice ao n mc, .int .u64 (K : Nat), .slice bo n rc] 26 (0, 0)) := by rw [hW3]; exact heap_alloc_new _ _
  have hO3 : W3.heap[w.heap.size]? = some (.cells #[.slice none 0 0, .int .u64 0, .slice none 0 0] 26 (0, 0)) := (((k1.trans k2).trans k3).block _ (lt_of_block HO.out) (fun f => f)).trans HO.out
  have hlt : w.heap.size < w2.heap.size := by have := lt_of_block HO.out; have := (k1.trans k2).size; omega
  have hRef := wRefuseNo W3
  obtain ⟨CL, hCL⟩ : ∃ CL, CL = madeCells #[Value.int .u64 0] n := ⟨_, rfl⟩
  have hmk : ∀ W, (Instr.makeSlice 23 (.int .i64 (n : Int)) (.int .i64 (n : Int))).run Tryz.prog W = .ok (.slice (some ⟨W.heap.size, 0, none⟩) n n) (W.alloc (.cells CL 24)) := fun W => by rw [hCL]; exact run_make_row (P := Tryz.prog) _ _ i0 _ Tryz.underlying23 hi0 hz0 hz1 rfl _ _ n (by rw [hz2]; omega) (by omega) W
  have HRow := toHid hrow
  have HKf := toHid hKf
  have HF : Hid (Fresh W (.slice ao n mc) ∧ Fresh W (.slice bo n rc)) := ⟨fa.after k1, fb.after k1⟩
  have HK3 := toHid ((k1.trans k2).trans k3)
  have HK23 := toHid k3
  have HW3 := toHid hW3
  have HCL := toHid hCL
  obtain ⟨c0, c1, c2⟩ := cells3 hm3
  obtain ⟨q0, q1, q2⟩ := cells3 hO3
  obtain ⟨f0, f1, f2⟩ := frees3 hO3
  obtain ⟨c3, c4, c5⟩ := cells3 (heapAt_alloc (o := .cells CL 24) hm3)
  obtain ⟨q3, q4, q5⟩ := cells3 (heapAt_alloc (o := .cells CL 24) hO3)
  obtain ⟨f3, f4, f5⟩ := frees3 (heapAt_alloc (o := .cells CL 24) hO3)
  have HO3 := toHid hO3
  clear hS hrow hKf fa fb k1 k2 k3 hW3 hm3 hO3 hCL HSet
  go_wp2_with (rw [← HW3.out])
  refine hRef.mono ?_
  rintro e W4 ⟨rfl, rfl⟩
  clear hRef
  go_wp2_with fail
  have hCLa : CL = ((List.replicate n 0).map fun z : Nat => Value.int .u64 (z : Int)).toArray := by
    have h := zeros_map .u64 n
    rw [Nat.mul_one] at h
    rw [← h, HCL.out]
    simp [Value.cells]
  have hW4 : w.heap.size < W4.heap.size := lt_of_block HO3.out
  have hWs : w.heap.size < W.heap.size := lt_of_block HO.out
  have HFin : Hid (∀ w' : World, w'.heap[W4.heap.size]? = some (.cells CL 24 (0, 0)) → Row .u64 w' (.slice ao n mc) (modM V) → Row .u64 w' (.slice bo n rc) (modR V) → Kept Nought w w' → ∃ ms rs : List Nat, (Row .u64 w' (.slice ao n mc) ms ∧ Row .u64 w' (.slice bo n rc) rs) ∧ (Digs 18446744073709551616 ms ∧ Digs 18446744073709551616 rs ∧ K < 18446744073709551616 ∧ okMod ms K rs) ∧ (Row .u64 w' (.slice (some ⟨W4.heap.size, 0, none⟩) n n) (List.replicate n 0) ∧ U64s w' (.slice (some ⟨W4.heap.size, 0, none⟩) n n)) ∧ (Fresh w (.slice ao n mc) ∧ Fresh w (.slice bo n rc) ∧ Fresh w (.slice (some ⟨W4.heap.size, 0, none⟩) n n)) ∧ Kept Nought w w') := fun w' hb r1 r2 k => by
    rw [hCLa] at hb
    have hown : OwnN .u64 24 w' W4.heap.size (.slice (some ⟨W4.heap.size, 0, none⟩) n n) n (List.replicate n 0) := own_of_block hb (by simp) (by unfold maxLen; omega) (Nat.le_refl _)
    refine ⟨_, _, ⟨r1, r2⟩, HOk.out K HKf.out, ⟨own_row' hown (by simp), U64s.own hown⟩, ⟨HF.out.1.after HK0.out, HF.out.2.after HK0.out, fun x hx => ?_⟩, k⟩
    have e' : W4.heap.size = x := by simpa [Value.ownBlock] using hx
    omega
  clear hCLa
  go_region
  · have kp := kept3 W4 w.heap.size (.slice ao n mc) (.int .u64 (K : Int)) (.slice bo n rc)
    have hsz : ((((W4).setCell ⟨w.heap.size, 0, none⟩ (.slice ao n mc)).setCell ⟨w.heap.size, 1, none⟩ (.int .u64 (K : Int))).setCell ⟨w.heap.size, 2, none⟩ (.slice bo n rc)).heap.size = W4.heap.size := by simp
    have hP := heapAt_alloc (o := .cells CL 24) (put3 HO3.out (.slice ao n mc) (.int .u64 (K : Int)) (.slice bo n rc))
    have hnew := heap_alloc_new ((((W4).setCell ⟨w.heap.size, 0, none⟩ (.slice ao n mc)).setCell ⟨w.heap.size, 1, none⟩ (.int .u64 (K : Int))).setCell ⟨w.heap.size, 2, none⟩ (.slice bo n rc)) (.cells CL 24)
    rw [hsz] at hnew
    have kB : Kept Nought ((((W4).setCell ⟨w.heap.size, 0, none⟩ (.slice ao n mc)).setCell ⟨w.heap.size, 1, none⟩ (.int .u64 (K : Int))).setCell ⟨w.heap.size, 2, none⟩ (.slice bo n rc)) (((((W4).setCell ⟨w.heap.size, 0, none⟩ (.slice ao n mc)).setCell ⟨w.heap.size, 1, none⟩ (.int .u64 (K : Int))).setCell ⟨w.heap.size, 2, none⟩ (.slice bo n rc)).alloc (.cells CL 24)) := (Kept.refl Nought _).alloc _
    have HF5 := toHid (HFin.out _ (heapAt_drew hnew) ((((HRow.out.1.grew HK23.out).kept kp (fun x hx e => by have := HF.out.1 x hx; omega)).grew kB).grew (Kept.refl Nought _).drew) ((((HRow.out.2.grew HK23.out).kept kp (fun x hx e => by have := HF.out.2 x hx; omega)).grew kB).grew (Kept.refl Nought _).drew) ((((HK0.out.trans HK3.out).next kp (fun x hx e => by omega)).trans kB).drew))
    obtain ⟨d0, d1, d2⟩ := cells3 hP
    go_wp2_with fail
    exact bodyPost_ret (v := .tuple #[.agg #[.slice ao n mc, .int .u64 (K : Nat), .slice bo n rc], .slice (some ⟨W4.heap.size, 0, none⟩) n n]) (by simp [results, Tryz.results53, go_sem, d0, d1, d2]) rfl ⟨_, _, _, _, _, _, _, rfl, HF5.out⟩

end Go.Proofs.YtoieghgaahfciaaGreat
