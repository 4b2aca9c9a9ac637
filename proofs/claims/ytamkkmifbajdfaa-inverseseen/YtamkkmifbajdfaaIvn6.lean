/- Package inverse: what stands ahead of all steps; how many there are. -/
import Derived.Test.YtamkkmifbajdfaaIvn5
import Derived.Test.YtamkkmifbajdfaaNatB
import Derived.Test.YtamkkmifbajdfaaRef10A
namespace Go.Proofs.Ytamkkmifbajdfaa
open Go.RowKit

set_option maxHeartbeats 400000 in
/-- Steps. -/
theorem iSteps (b : Int) (w : World) : Calls Try.prog 8 #[.int .i64 b] w fun e w' => e = .returned (.int .i64 (stepsN b)) ∧ w' = w := by
  have h0 : 1 ≤ stepBits b := by unfold stepBits; omega
  have h1 : stepBits b ≤ 8320 := by unfold stepBits; omega
  have hb : min (max b 1) 8320 = stepBits b := rfl
  unfold stepsN
  generalize stepBits b = c at *
  by_cases h : c < 46
  · rw [if_pos h]
    go_enter Try.func8, Try.ntmps8
    go_wp2
    go_ret
    exact ⟨rfl, rfl⟩
  · rw [if_neg h]
    go_enter Try.func8, Try.ntmps8
    go_wp2
    go_ret
    exact ⟨rfl, rfl⟩

theorem steps_stp {n : Nat} (h0 : 0 < n) (hn : n ≤ 130) : stepsN (64 * (n : Int)) = ((stp n : Nat) : Int) := by
  unfold stepsN stepBits stp
  have e : min (max (64 * (n : Int)) 1) 8320 = 64 * (n : Int) := by omega
  rw [e, if_neg (by omega)]
  omega

set_option maxHeartbeats 400000 in
/-- Word, with the block that it lies in. -/
theorem nWordO (x : Nat) (hx : x < 18446744073709551616) (n : Int) (m : Nat) (hm : clampN n = m + 1) (w : World) :
    Calls Try.prog 65 #[.int .u64 x, .int .i64 n] w fun r w' => r = .returned (.slice (some ⟨w.heap.size, 0, none⟩) (m + 1) (m + 1)) ∧ OwnN .u64 27 w' w.heap.size (.slice (some ⟨w.heap.size, 0, none⟩) (m + 1) (m + 1)) (m + 1) (digs 18446744073709551616 x (m + 1)) ∧ Kept Nought w w' := by
  obtain ⟨i0, hi0, hz0, hz1, hz2⟩ := info_parts Try.info27
  have hb : m + 1 ≤ 300 := by rw [← hm]; unfold clampN; omega
  have hc : min (max n 1) 300 = ((m + 1 : Nat) : Int) := by rw [← hm]; unfold clampN; omega
  rw [word_digs x m hx]
  clear hm
  go_enter Try.func65, Try.ntmps65
  go_wp2_with (at_make; refine wpList_make_full _ rfl _ _ 26 rfl w.heap.size 27 i0 _ 1 Try.underlying26 hi0 hz0 hz1 _ _ _ _ (m + 1) rfl rfl (by first | exact hc | rfl) (by first | exact hc | rfl) (by rw [hz2]; omega) (by unfold maxLen; omega) (Nat.le_refl _) ?_; intro w1 ho1 hg1; rw [zeros_map] at ho1; have k1 := grown_kept hg1; have hc1 : w1.cell? ⟨w.heap.size, 0, none⟩ = some (.int .u64 0) := (by rw [World.ownsRow.cellAt ho1 0 (by omega)]; rfl); have hf := World.ownsRow.frozenAt ho1 0; have hst := (World.ownsRow.stored ho1 0 (.int .u64 (x : Nat))).1)
  go_ret
  refine ⟨rfl, ?_, k1.setCell _ (fun h => by simp at h) _⟩
  simpa [OwnN, List.replicate_succ] using hst

theorem nWordU (x : Nat) (hx : x < 18446744073709551616) (n : Nat) (hn0 : 0 < n) (hn : n ≤ 300) (w : World) :
    Calls Try.prog 65 #[.int .u64 x, .int .i64 (n : Nat)] w fun r w' => r = .returned (.slice (some ⟨w.heap.size, 0, none⟩) n n) ∧ OwnN .u64 27 w' w.heap.size (.slice (some ⟨w.heap.size, 0, none⟩) n n) n (digs 18446744073709551616 x n) ∧ Kept Nought w w' := by
  obtain ⟨m, rfl⟩ : ∃ m, n = m + 1 := ⟨n - 1, by omega⟩
  exact nWordO x hx _ m (by unfold clampN; omega) w

theorem NumN.grew {w w' : World} {o : Tr} {v : Value} {n X : Nat} (h : NumN w o v n X) (k : Kept Nought w w') : NumN w' o v n X := ⟨h.1.grew k, h.2.grew k⟩

theorem keepA {W : World} {a : Addr} {O : Obj} {v : Value} (h : W.cell? a = some v) : (W.alloc O).cell? a = some v := ((Kept.refl Nought W).alloc O).cellN h

theorem keepD {W : World} {a : Addr} {v : Value} (h : W.cell? a = some v) : W.drew.cell? a = some v := ((Kept.refl Nought W).drew).cellN h

/-- Noughts that were made lie in a block of words. -/
theorem made_num {W : World} {g n : Nat} {CL : Array Value} (hCL : CL = madeCells #[Value.int .u64 0] n) (h : W.heap[g]? = some (.cells CL 27 (0, 0))) (hn : n ≤ 1000) (o : Tr) (ti : TrIn W o) : NumN W o (.slice (some ⟨g, 0, none⟩) n n) n 0 := by
  have hCLa : CL = ((List.replicate n 0).map fun z : Nat => Value.int .u64 (z : Int)).toArray := by
    have h := zeros_map .u64 n
    rw [Nat.mul_one] at h
    rw [← h, hCL]
    simp [Value.cells]
  rw [hCLa] at h
  have hz : digs 18446744073709551616 0 n = List.replicate n 0 := by
    have := fill_digs (ys := []) (V := 0) (m := n) (Digs.nil _) rfl (Nat.zero_le _)
    simpa using this
  have hown : OwnN .u64 27 W g (.slice (some ⟨g, 0, none⟩) n n) n (digs 18446744073709551616 0 n) := by rw [hz]; exact own_of_block h (by simp) (by unfold maxLen; omega) (Nat.le_refl _)
  exact NumN.own hown (Nat.pow_pos (by omega)) ti

set_option maxRecDepth 40000 in
set_option maxHeartbeats 8000000 in
/-- beginning. -/
theorem iBeg (n M A : Nat) (ao bo xo : Option Addr) (mcap l K rcap xc : Nat) (w : World) (o : Tr) (ti : TrIn w o) (hm : NumT w o (.slice ao n mcap) n M) (hx : NumT w o (.slice xo n xc) n A) (hn0 : 0 < n) (hn : n ≤ 130) :
    Calls Try.prog 42 #[.agg #[.slice ao n mcap, .int .u64 (K : Nat), .slice bo l rcap], .slice xo n xc] w fun e w' => ∃ (uo : Option Addr) (uc : Nat) (vo : Option Addr) (vc : Nat) (fo : Option Addr) (fc : Nat) (go : Option Addr) (gc : Nat), e = .returned (.agg #[.slice uo n uc, .slice vo n vc, .slice fo (n + 1) fc, .slice go (n + 1) gc, .int .u64 1]) ∧ NumN w' o (.slice uo n uc) n 0 ∧ NumN w' o (.slice vo n vc) n 1 ∧ NumN w' o (.slice fo (n + 1) fc) (n + 1) M ∧ NumN w' o (.slice go (n + 1) gc) (n + 1) A ∧ Kept Nought w w' := by
  obtain ⟨i0, hi0, hz0, hz1, hz2⟩ := info_parts Try.info27
  obtain ⟨L, hL⟩ : ∃ L, L = n + 1 := ⟨_, rfl⟩
  have hLw : IntKind.i64.wrap ((n : Int) + 1) = (L : Int) := by rw [hL]; simp [IntKind.wrap, IntKind.bits, IntKind.signed]; omega
  have hLb : L ≤ 131 := by omega
  have lM : M < 18446744073709551616 ^ L := by have := hm.2; rw [hL, Nat.pow_succ]; omega
  have lA : A < 18446744073709551616 ^ L := by have := hx.2; rw [hL, Nat.pow_succ]; omega
  have l1 : 1 < 18446744073709551616 ^ n := Nat.one_lt_pow (by omega) (by omega)
  rw [← hL]
  obtain ⟨W, hW⟩ : ∃ W, W = (w.alloc (.cells #[.slice ao n mcap, .int .u64 (K : Nat), .slice bo l rcap] 29)).alloc (.cells #[.slice none 0 0, .slice none 0 0, .slice none 0 0, .slice none 0 0, .int .u64 0] 81) := ⟨_, rfl⟩
  have k0 : Kept Nought w W := by rw [hW]; exact ((Kept.refl Nought w).alloc _).alloc _
  have b1 : W.heap[w.heap.size]? = some (.cells #[.slice ao n mcap, .int .u64 (K : Nat), .slice bo l rcap] 29 (0, 0)) := by rw [hW]; exact heapAt_alloc (heap_alloc_new _ _)
  have b2 : W.heap[w.heap.size + 1]? = some (.cells #[.slice none 0 0, .slice none 0 0, .slice none 0 0, .slice none 0 0, .int .u64 0] 81 (0, 0)) := by
    rw [hW]
    have := heap_alloc_new (w.alloc (.cells #[.slice ao n mcap, .int .u64 (K : Nat), .slice bo l rcap] 29)) (.cells #[.slice none 0 0, .slice none 0 0, .slice none 0 0, .slice none 0 0, .int .u64 0] 81)
    simpa using this
  obtain ⟨CL, hCL⟩ : ∃ CL, CL = madeCells #[Value.int .u64 0] n := ⟨_, rfl⟩
  have hmk : ∀ W, (Instr.makeSlice 26 (.int .i64 (n : Int)) (.int .i64 (n : Int))).run Try.prog W = .ok (.slice (some ⟨W.heap.size, 0, none⟩) n n) (W.alloc (.cells CL 27)) := fun W => by rw [hCL]; exact run_make_row (P := Try.prog) _ _ i0 _ Try.underlying26 hi0 hz0 hz1 rfl _ _ n (by rw [hz2]; omega) (by omega) W
  have c0 := (cells3 b1).1
  have JC : Hid (∀ W', Kept Nought W W' → W'.cell? ⟨w.heap.size, 0, none⟩ = some (.slice ao n mcap)) := fun W' k => k.cellN c0
  have JB : Hid (∀ W', Kept Nought W W' → W'.heap[w.heap.size + 1]? = some (.cells #[.slice none 0 0, .slice none 0 0, .slice none 0 0, .slice none 0 0, .int .u64 0] 81 (0, 0))) := fun W' k => (k.block _ (lt_of_block b2) (fun f => f)).trans b2
  have J1 : Hid (∀ W', Kept Nought W W' → Calls Try.prog 65 #[.int .u64 1, .int .i64 (n : Nat)] W' fun r w' => ∃ vo vc, r = .returned (.slice vo n vc) ∧ NumN w' o (.slice vo n vc) n 1 ∧ Kept Nought W' w' ∧ Kept Nought W w') := fun W' k => by
    refine (nWordU 1 (by omega) n hn0 (by omega) W').mono ?_
    rintro e w' ⟨rfl, ho, k'⟩
    exact ⟨_, _, rfl, NumN.own ho l1 (ti.grew (k0.trans (k.trans k'))), k', k.trans k'⟩
  have J2 : Hid (∀ W', Kept Nought W W' → Calls Try.prog 20 #[.slice ao n mcap, .int .i64 (L : Nat)] W' fun r w' => ∃ fo fc, r = .returned (.slice fo L fc) ∧ NumN w' o (.slice fo L fc) L M ∧ Kept Nought W' w' ∧ Kept Nought W w') := fun W' k => by
    refine (iFit _ _ L W' (hm.1.1.grew (k0.trans k)) (digs_digs (by omega) _ _) (by omega)).mono ?_
    rintro e w' ⟨rfl, ho, k'⟩
    rw [num_val hm.2] at ho
    exact ⟨_, _, rfl, NumN.own ho lM (ti.grew (k0.trans (k.trans k'))), k', k.trans k'⟩
  have J3 : Hid (∀ W', Kept Nought W W' → Calls Try.prog 20 #[.slice xo n xc, .int .i64 (L : Nat)] W' fun r w' => ∃ fo fc, r = .returned (.slice fo L fc) ∧ NumN w' o (.slice fo L fc) L A ∧ Kept Nought W' w' ∧ Kept Nought W w') := fun W' k => by
    refine (iFit _ _ L W' (hx.1.1.grew (k0.trans k)) (digs_digs (by omega) _ _) (by omega)).mono ?_
    rintro e w' ⟨rfl, ho, k'⟩
    rw [num_val hx.2] at ho
    exact ⟨_, _, rfl, NumN.own ho lA (ti.grew (k0.trans (k.trans k'))), k', k.trans k'⟩
  have JM : Hid (∀ W' g, Kept Nought W W' → W'.heap[g]? = some (.cells CL 27 (0, 0)) → NumN W' o (.slice (some ⟨g, 0, none⟩) n n) n 0) := fun W' g k h => made_num hCL h (by omega) o (ti.grew (k0.trans k))
  have JF : Hid (∀ (W' : World) uo uc vo vc fo fc go gc, Kept Nought W W' → NumN W' o (.slice uo n uc) n 0 → NumN W' o (.slice vo n vc) n 1 → NumN W' o (.slice fo L fc) L M → NumN W' o (.slice go L gc) L A → ∃ W2, W2 = ((((W'.setCell ⟨w.heap.size + 1, 0, none⟩ (.slice uo n uc)).setCell ⟨w.heap.size + 1, 1, none⟩ (.slice vo n vc)).setCell ⟨w.heap.size + 1, 2, none⟩ (.slice fo L fc)).setCell ⟨w.heap.size + 1, 3, none⟩ (.slice go L gc)).setCell ⟨w.heap.size + 1, 4, none⟩ (.int .u64 1) ∧ (W2.heap[w.heap.size + 1]? = some (.cells #[.slice uo n uc, .slice vo n vc, .slice fo L fc, .slice go L gc, .int .u64 1] 81 (0, 0))) ∧ Hid (NumN W2 o (.slice uo n uc) n 0 ∧ NumN W2 o (.slice vo n vc) n 1 ∧ NumN W2 o (.slice fo L fc) L M ∧ NumN W2 o (.slice go L gc) L A ∧ Kept Nought w W2)) := fun W' uo uc vo vc fo fc go gc k h1 h2 h3 h4 => by
    have hb := JB.out W' k
    have kp := kept5 W' (w.heap.size + 1) (.slice uo n uc) (.slice vo n vc) (.slice fo L fc) (.slice go L gc) (.int .u64 1)
    exact ⟨_, rfl, put5 hb _ _ _ _ _, h1.put hb (by decide) kp, h2.put hb (by decide) kp, h3.put hb (by decide) kp, h4.put hb (by decide) kp, (k0.trans k).next kp (fun x hx e => by omega)⟩
  have HW := toHid hW
  clear hm hx hW k0 b1 b2 lM lA l1 ti hi0 hz0 hz1 hz2 hL hCL
  go_enter Try.func42, Try.ntmps42
  go_wp2_with fail
  rw [← HW.out]
  go_region_held3 (fun w' => w'.cell? ⟨w.heap.size, 0, none⟩ = some (.slice ao n mcap))
    (((try dsimp only); first | (with_reducible assumption) | (with_reducible refine keep5 ?_ ?_; (with_reducible assumption); (dsimp only; omega)) | (with_reducible refine keepA ?_; first | (with_reducible assumption) | (with_reducible refine keepD ?_; (with_reducible assumption))) | (with_reducible refine keepD ?_; (with_reducible assumption)) | (go_keep; done)))
    (first
    | (go_at_call 65; refine (J1.out _ ?_).mono ?_; (first | exact kdrew (kself _) | exact kalloc _ (kdrew (kself _))); rintro e w2 ⟨vo, vc, rfl, n2, k2, K2⟩; have p2 := JC.out w2 K2)
    | (go_at_call_of 20 (Value.slice ao n mcap); refine (J2.out _ ?_).mono ?_; (first | exact K2 | exact kalloc _ K2); rintro e w3 ⟨fo, fc, rfl, n3, k3, K3⟩; have p3 := JC.out w3 K3)
    | (go_at_call_of 20 (Value.slice xo n xc); refine (J3.out _ ?_).mono ?_; (first | exact K3 | exact kalloc _ K3); rintro e w4 ⟨go, gc, rfl, n4, k4, K4⟩; have p4 := JC.out w4 K4; have hB4 := JB.out w4 K4; have hB5 := JB.out (w4.alloc (.cells CL 27)) (kalloc _ K4); obtain ⟨f0, f1, f2, f3, f4⟩ := frees5 hB4; obtain ⟨g0, g1, g2, g3, g4⟩ := cells5 hB4; obtain ⟨F0, F1, F2, F3, F4⟩ := frees5 hB5; obtain ⟨G0, G1, G2, G3, G4⟩ := cells5 hB5))
  · have hz0 : (W.drew.alloc (.cells CL 27)).heap[W.heap.size]? = some (.cells CL 27 (0, 0)) := heap_alloc_new W.drew _
    have hz := ((k2.trans (k3.trans k4)).block _ (lt_of_block hz0) (fun f => f)).trans hz0
    have nz := JM.out w4 _ K4 hz
    obtain ⟨W2, hW2, hB2, HN⟩ := JF.out w4 _ _ _ _ _ _ _ _ K4 nz (n2.grew (k3.trans k4)) (n3.grew k4) n4
    obtain ⟨y0, y1, y2, y3, y4⟩ := cells5 hB2
    rw [← hW2]
    clear hW2
    go_wp2_with fail
    exact bodyPost_ret (v := .agg #[.slice (some ⟨W.heap.size, 0, none⟩) n n, .slice vo n vc, .slice fo L fc, .slice go L gc, .int .u64 1]) (by simp [results, Try.results42, go_sem, y0, y1, y2, y3, y4]) rfl ⟨_, _, _, _, _, _, _, _, rfl, HN.out⟩
  · have hz0 := heap_alloc_new w2 (.cells CL 27)
    have hz := ((k3.trans k4).block _ (lt_of_block hz0) (fun f => f)).trans hz0
    have kA := (Kept.refl Nought w2).alloc (.cells CL 27)
    have nz := JM.out w4 _ K4 hz
    obtain ⟨W2, hW2, hB2, HN⟩ := JF.out w4 _ _ _ _ _ _ _ _ K4 nz (n2.grew (kA.trans (k3.trans k4))) (n3.grew k4) n4
    obtain ⟨y0, y1, y2, y3, y4⟩ := cells5 hB2
    rw [← hW2]
    clear hW2
    go_wp2_with fail
    exact bodyPost_ret (v := .agg #[.slice (some ⟨w2.heap.size, 0, none⟩) n n, .slice vo n vc, .slice fo L fc, .slice go L gc, .int .u64 1]) (by simp [results, Try.results42, go_sem, y0, y1, y2, y3, y4]) rfl ⟨_, _, _, _, _, _, _, _, rfl, HN.out⟩
  · have hz0 := heap_alloc_new w3 (.cells CL 27)
    have hz := (k4.block _ (lt_of_block hz0) (fun f => f)).trans hz0
    have kA := (Kept.refl Nought w3).alloc (.cells CL 27)
    have nz := JM.out w4 _ K4 hz
    obtain ⟨W2, hW2, hB2, HN⟩ := JF.out w4 _ _ _ _ _ _ _ _ K4 nz (n2.grew (k3.trans (kA.trans k4))) (n3.grew (kA.trans k4)) n4
    obtain ⟨y0, y1, y2, y3, y4⟩ := cells5 hB2
    rw [← hW2]
    clear hW2
    go_wp2_with fail
    exact bodyPost_ret (v := .agg #[.slice (some ⟨w3.heap.size, 0, none⟩) n n, .slice vo n vc, .slice fo L fc, .slice go L gc, .int .u64 1]) (by simp [results, Try.results42, go_sem, y0, y1, y2, y3, y4]) rfl ⟨_, _, _, _, _, _, _, _, rfl, HN.out⟩
  · have hz := heap_alloc_new w4 (.cells CL 27)
    have kA := (Kept.refl Nought w4).alloc (.cells CL 27)
    have nz := JM.out (w4.alloc (.cells CL 27)) _ (kalloc _ K4) hz
    obtain ⟨W2, hW2, hB2, HN⟩ := JF.out (w4.alloc (.cells CL 27)) _ _ _ _ _ _ _ _ (kalloc _ K4) nz (n2.grew (k3.trans (k4.trans kA))) (n3.grew (k4.trans kA)) (n4.grew kA)
    obtain ⟨y0, y1, y2, y3, y4⟩ := cells5 hB2
    rw [← hW2]
    clear hW2
    go_wp2_with fail
    exact bodyPost_ret (v := .agg #[.slice (some ⟨w4.heap.size, 0, none⟩) n n, .slice vo n vc, .slice fo L fc, .slice go L gc, .int .u64 1]) (by simp [results, Try.results42, go_sem, y0, y1, y2, y3, y4]) rfl ⟨_, _, _, _, _, _, _, _, rfl, HN.out⟩

end Go.Proofs.Ytamkkmifbajdfaa
