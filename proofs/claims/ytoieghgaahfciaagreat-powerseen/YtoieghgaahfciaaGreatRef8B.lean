/- The plain side of layer 8: the table of powers. -/
import Derived.Test.YtoieghgaahfciaaGreatRef8A
import Derived.Test.YtoieghgaahfciaaGreatGro1
namespace Go.Proofs.YtoieghgaahfciaaGreat
open Go.RowKit

/-- Power number j, in Montgomery's form. -/
def powJ (X V L j : Nat) : List Nat := digs 18446744073709551616 (2 ^ (64 * L) * (X ^ j % V) % V) L

set_option maxRecDepth 40000 in
set_option maxHeartbeats 2000000 in
theorem q8Table (ao bo co : Option Addr) (L M N1 cap dap eap1 K : Nat) (ms rs xs : List Nat) (hok : okMod ms K rs) (h1 : N1 = L ∧ val 18446744073709551616 xs < val 18446744073709551616 ms) (w : World)
    (hu : Row .u64 w (.slice ao L cap) ms) (hv : Row .u64 w (.slice bo M dap) rs) (hx : Row .u64 w (.slice co N1 eap1) xs) (hd : Digs 18446744073709551616 ms) (hdx : Digs 18446744073709551616 xs) (hL : L ≤ 1000000) :
    Calls Tryz.prog 13 #[.agg #[.slice ao L cap, .int .u64 (K : Nat), .slice bo M dap], .slice co N1 eap1] w fun e w' => ∃ v', e = .returned (.tuple #[v', .int .i64 0]) ∧ (∃ A C, Grows w' w.heap.size v' L 16 A C (powJ (val 18446744073709551616 xs) (val 18446744073709551616 ms) L)) ∧ Kept Nought w w' := by
  obtain ⟨i0, hi0, hz0, hz1, hz2⟩ := info_parts Tryz.infoN23
  have k0 : Kept Nought w (w.alloc (.cells #[.slice ao L cap, .int .u64 (K : Nat), .slice bo M dap] 26)) := (Kept.refl Nought w).alloc _
  have hx0 : (w.alloc (.cells #[.slice ao L cap, .int .u64 (K : Nat), .slice bo M dap] 26)).heap[w.heap.size]? = some (.cells #[.slice ao L cap, .int .u64 (K : Nat), .slice bo M dap] 26 (0, 0)) := heap_alloc_new _ _
  have hsl := slot1_new (w.alloc (.cells #[.slice ao L cap, .int .u64 (K : Nat), .slice bo M dap] 26)) _ co N1 eap1 rfl
  have k0' := k0.alloc (.cells #[.slice co N1 eap1] 23)
  have hx0' := (((Kept.refl Nought (w.alloc (.cells #[.slice ao L cap, .int .u64 (K : Nat), .slice bo M dap] 26))).alloc (.cells #[.slice co N1 eap1] 23)).block _ (lt_of_block hx0) (fun f => f)).trans hx0
  have hMs1 := q7Members ao bo L M cap dap K ms rs _ 1 1 _ _ _ (fun _ => xs) true ⟨fun _ => ⟨hok, fun _ _ => h1⟩, fun _ => rfl⟩ _ (hu.grew k0') (hv.grew k0') hd hL hsl (fun _ _ => hx.grew k0') (fun _ _ => hdx) (by omega)
  have hsz : (w.alloc (.cells #[.slice ao L cap, .int .u64 (K : Nat), .slice bo M dap] 26)).heap.size = w.heap.size + 1 := by simp
  rw [hsz] at hMs1
  obtain ⟨o1, o2, o3, o4⟩ := hok.len
  have lm : ms.length = L := by obtain ⟨_, _, _, e, h, _⟩ := hu.open; cases e; exact h.out
  rw [lm] at o1 o2
  have hmlt : val 18446744073709551616 ms < 18446744073709551616 ^ L := by rw [← lm]; exact val_lt (by omega) hd
  have hL0 : 0 < L := by
    rcases Nat.eq_zero_or_pos L with h | h
    · rw [h] at hmlt; simp at hmlt; omega
    · exact h
  obtain ⟨V, hV⟩ : ∃ V, V = val 18446744073709551616 ms := ⟨_, rfl⟩
  obtain ⟨X, hX⟩ : ∃ X, X = val 18446744073709551616 xs := ⟨_, rfl⟩
  have hpl : ∀ j, X ^ j % V < 18446744073709551616 ^ L := fun j => by
    refine Nat.lt_trans (Nat.mod_lt _ ?_) ?_
    · rw [hV]; omega
    · rw [hV]; exact hmlt
  have hpv : ∀ j, val 18446744073709551616 (digs 18446744073709551616 (X ^ j % V) L) = X ^ j % V := fun j => by rw [val_digs, Nat.mod_eq_of_lt (hpl j)]
  have hEn : Hid (∀ W j po pc, Kept Nought w W → Row .u64 W (.slice po L pc) (digs 18446744073709551616 (X ^ j % V) L) → Calls Tryz.prog 33 #[.agg #[.slice ao L cap, .int .u64 (K : Nat), .slice bo M dap], .slice po L pc] W fun e w' => ∃ v', e = .returned (.tuple #[v', .int .i64 0]) ∧ Row .u64 w' v' (powJ X V L j) ∧ NewIn W v' ∧ Kept Nought W w') := fun W j po pc k hr =>
    q6Enter ao bo po L M L cap dap pc K ms rs _ hok 0 (by rw [if_pos ⟨rfl, by rw [hpv, hV]; exact Nat.mod_lt _ (by omega)⟩]) (powJ X V L j) (by rw [if_pos rfl, hpv, ← hV]; rfl) W (hu.grew k) (hv.grew k) hr hd (digs_digs (by omega) _ _)
  have hMu : Hid (∀ W j po pc, Kept Nought w W → Row .u64 W (.slice po L pc) (digs 18446744073709551616 (X ^ j % V) L) → Calls Tryz.prog 18 #[.agg #[.slice ao L cap, .int .u64 (K : Nat), .slice bo M dap], .slice po L pc, .slice co N1 eap1] W fun e w' => ∃ v', e = .returned (.tuple #[v', .int .i64 0]) ∧ Row .u64 w' v' (digs 18446744073709551616 (X ^ (j + 1) % V) L) ∧ NewIn W v' ∧ Kept Nought W w') := fun W j po pc k hr =>
    q7Mul ao bo po co L M L N1 cap dap pc eap1 K ms rs _ xs 0 (.inl ⟨rfl, hok, ⟨rfl, by rw [hpv, hV]; exact Nat.mod_lt _ (by omega)⟩, h1⟩) (digs 18446744073709551616 (X ^ (j + 1) % V) L) (by rw [if_pos rfl, hpv, ← hV, ← hX, Nat.mod_mul_mod, ← Nat.pow_succ]) W (hu.grew k) (hv.grew k) hr (hx.grew k) hd (digs_digs (by omega) _ _) hdx hL
  have hNa0 := fun W v (h : IsBig W v 1) => rNat v 1 L W h (by omega)
  have h1m : (1 : Nat) % V = 1 := Nat.mod_eq_of_lt (by rw [hV]; omega)
  have HD1 : Hid (digs 18446744073709551616 1 L = digs 18446744073709551616 (X ^ 0 % V) L) := by unfold Hid; rw [Nat.pow_zero, h1m]
  have hfn : Hid (∀ j, powJ X V L j ≠ []) := fun j h => by
    have := congrArg List.length h
    unfold powJ at this
    rw [digs_length] at this
    simp at this
    omega
  have hdl : Hid (∀ j, digs 18446744073709551616 (X ^ j % V) L ≠ []) := fun j h => by
    have := congrArg List.length h
    rw [digs_length] at this
    simp at this
    omega
  rw [← hV, ← hX]
  have HN1 := toHid h1.1
  clear hu hv hx hd hdx hsl hok h1 lm o2 o4 hsz hmlt hpl hpv hV hX h1m o3
  go_enter Tryz.func13, Tryz.ntmps13
  go_wp2_with fail
  refine hMs1.mono ?_
  rintro e w1 ⟨rfl, k1⟩
  have hx1 := (k1.block _ (lt_of_block hx0') (fun f => f)).trans hx0'
  obtain ⟨p0, p1, p2⟩ := box3 hx1
  have kw := k0'.trans k1
  have hSm : ∀ W, Kept Nought w1 W → Calls Tryz.prog 32 #[.int .u64 1] W fun e w' => ∃ v', e = .returned v' ∧ IsBig w' v' 1 ∧ Kept Nought w1 w' := fun W k => by
    refine (rSmall 1 (by omega) W).mono ?_
    rintro e w' ⟨v', rfl, hb, _, kk⟩
    exact ⟨v', rfl, hb, k.trans kk⟩
  have hNa : ∀ W v, Kept Nought w1 W → IsBig W v 1 → Calls Tryz.prog 28 #[v, .int .i64 (L : Nat)] W fun e w' => ∃ v', e = .returned v' ∧ Row .u64 w' v' (digs 18446744073709551616 (X ^ 0 % V) L) ∧ Kept Nought w1 w' := fun W v k h => by
    refine (hNa0 W v h).mono ?_
    rintro e w' ⟨v', rfl, hr, _, kk⟩
    rw [HD1.out] at hr
    exact ⟨v', rfl, hr, k.trans kk⟩
  have HX1 := toHid hx1
  have HKW := toHid kw
  clear hMs1 k0 k0' k1 hx0 hx0' hx1 hNa0 kw HD1
  go_wp2_with fail
  go_region_held3 (fun w' => w'.cell? ⟨w.heap.size, 0, none⟩ = some (.slice ao L cap))
    (first | (go_keep; done) | assumption)
    (first
    | (go_at_call 32; refine (hSm _ ?_).mono ?_; (exact kdrew (kself _)); rintro e w2 ⟨v2, rfl, hb2, k2⟩; have q2 := k2.cellN p0)
    | (go_at_call 28; refine (hNa _ _ ?_ ?_).mono ?_; (exact k2); (exact hb2); rintro e w3 ⟨v3, rfl, hr3, k3⟩; have q3 := k3.cellN p0))
  have HR3 := toHid hr3
  have HK3 := toHid k3
  clear hSm hNa p0 p1 p2 q2 q3 hb2 k2 hr3 k3
  obtain ⟨po, pc, rfl⟩ := row_slice HR3.out (digs_length _ _ _)
  go_wp2_with fail
  go_loopw [6, 7, 8] (fun out x ii wr => ∃ (k : Nat), k ≤ 16 ∧ ii = .int .i64 (k : Int) ∧ Hid (∃ A C, Grows wr w1.heap.size out L k A C (powJ X V L)) ∧ (∃ qo qc, x = .slice qo L qc ∧ Hid (Row .u64 wr (.slice qo L qc) (digs 18446744073709551616 (X ^ k % V) L) ∧ ∀ b, (Value.slice qo L qc).ownBlock = some b → out.ownBlock ≠ some b)) ∧ Kept Nought w1 wr) (fun _ _ ii _ => 16 - (intOf ii).toNat)
  case atStart => exact ⟨0, Nat.zero_le _, rfl, ⟨fun _ => none, fun _ => 0, Grows.nil _ _ _ _ _ _⟩, ⟨po, pc, rfl, HR3.out, fun b _ e => by cases e⟩, HK3.out⟩
  case round =>
    obtain ⟨k, hk, rfl, hG, ⟨qo, qc, rfl, hq⟩, hkp⟩ := hrel
    have hxr := (hkp.block _ (lt_of_block HX1.out) (fun f => f)).trans HX1.out
    obtain ⟨p0, p1, p2⟩ := box3 hxr
    clear hxr
    by_cases hk16 : k < 16
    · have g1 : (k : Int) < 16 := by omega
      have hE := hEn.out wr k qo qc (HKW.out.trans hkp) hq.out.1
      clear hEn HR3 HK3
      go_wp2_with fail
      refine hE.mono ?_
      rintro e w4 ⟨v4, rfl, hr4, n4, k4⟩
      obtain ⟨yo, yc, rfl⟩ := row_slice hr4 (show (powJ X V L k).length = L from digs_length _ _ _)
      obtain ⟨A, C, hG0⟩ := hG.out
      have hG4 := hG0.grew (k4.alloc (.cells #[.slice yo L yc] 23))
      have hout := World.ownsRow.lt hG0.1
      have ho4 := hG4.1
      have hsz4 := k4.size
      have hszr := hkp.size
      clear hE p0 p1 p2 hG
      go_wp2_with (at_builtin; refine wpList_append_lies _ rfl _ _ 35 rfl w1.heap.size 23 i0 _ 1 24 Tryz.underlying35 hi0 hz0 hz1 hz2 rfl (by omega) _ _ _ rfl ho4 ⟨w4.heap.size, 0, none⟩ 1 1 [.slice yo L yc] rfl rfl (new1_cells w4 _ _) (by simp [Value.oneCell']) (by omega) (by unfold maxLen; omega) (by omega) (by simp; omega) (w4.heap.size + 1) (by simp) ?_; intro gg c' w5 ho5 hg hat hgl; have k5 : Kept Nought w1 w5 := ((hkp.trans k4).alloc _).grown hg (fun b hb hlt => by have := (hout b hb).1; omega); obtain ⟨p0, p1, p2⟩ := box3 ((k5.block _ (lt_of_block HX1.out) (fun f => f)).trans HX1.out); have hg' : (w4.alloc (.cells #[.slice yo L yc] 23)).grownBy w5 u6.ownBlock := hg; have hat' : u6.ownBlock = some gg ∨ gg = (w4.alloc (.cells #[.slice yo L yc] 23)).heap.size := (show u6.ownBlock = some gg ∨ gg = w4.heap.size + 1 from hat).imp id (fun h => by simpa using h); have HO5 := toHid ho5; clear hg hat ho5)
      have G5 := toHid (hG4.push hfn.out (hr4.grew ((Kept.refl _ _).alloc _)) (fun b hb e => by have := n4 b hb; have := (hout b e).2; omega) HO5.out hg' hat')
      have hQ := append_apart (n := k + 1) (cap := c') (hq.out.1.grew (k4.alloc _)) (hdl.out k) hq.out.2 hg' hat'
      have hM := hMu.out w5 k qo qc (HKW.out.trans k5) hQ.1
      clear hg' hat' HO5 hG4 hG0 ho4 hr4 n4 hout hQ hMu
      refine hM.mono ?_
      rintro e w6 ⟨v6, rfl, hr6, n6, k6⟩
      obtain ⟨zo, zc, rfl⟩ := row_slice hr6 (digs_length _ _ _)
      clear hM p0 p1 p2
      go_wp2_with fail
      go_roundw
      case rel => exact ⟨k + 1, by omega, by go_num, ⟨_, _, G5.out.grew k6⟩, ⟨zo, zc, rfl, hr6, fun b hb e => by
        have h1 := n6 b hb
        have e' : gg = b := by simpa [Value.ownBlock] using e
        omega⟩, k5.trans k6⟩
      case measure => simp [intOf]; omega
    · have g1 : ¬ (k : Int) < 16 := by omega
      obtain rfl : k = 16 := by omega
      clear hEn hMu HR3 HK3
      obtain ⟨A, C, hG0⟩ := hG.out
      have HG0 := toHid hG0
      clear hG hG0
      go_wp2_with fail
      go_ret2
      exact ⟨_, rfl, ⟨A, C, HG0.out.base HKW.out.size⟩, HKW.out.trans hkp⟩

set_option maxRecDepth 40000 in
set_option maxHeartbeats 2000000 in
theorem q8TableBad (ao bo co : Option Addr) (L M N1 cap dap eap1 K : Nat) (ms rs xs : List Nat) (hbad : ¬ (okMod ms K rs ∧ N1 = L ∧ val 18446744073709551616 xs < val 18446744073709551616 ms)) (w : World)
    (hu : Row .u64 w (.slice ao L cap) ms) (hv : Row .u64 w (.slice bo M dap) rs) (hx : Row .u64 w (.slice co N1 eap1) xs) (hd : Digs 18446744073709551616 ms) (hdx : Digs 18446744073709551616 xs) (hL : L ≤ 1000000) :
    Calls Tryz.prog 13 #[.agg #[.slice ao L cap, .int .u64 (K : Nat), .slice bo M dap], .slice co N1 eap1] w fun e w' => e = .returned (.tuple #[.slice none 0 0, .int .i64 1]) ∧ Kept Nought w w' := by
  have k0 : Kept Nought w (w.alloc (.cells #[.slice ao L cap, .int .u64 (K : Nat), .slice bo M dap] 26)) := (Kept.refl Nought w).alloc _
  have hsl := slot1_new (w.alloc (.cells #[.slice ao L cap, .int .u64 (K : Nat), .slice bo M dap] 26)) _ co N1 eap1 rfl
  have k0' := k0.alloc (.cells #[.slice co N1 eap1] 23)
  have hMs1 := q7Members ao bo L M cap dap K ms rs _ 1 1 _ _ _ (fun _ => xs) false ⟨fun h => absurd h (by decide), fun h => absurd ⟨h.1, h.2 0 (by omega)⟩ hbad⟩ _ (hu.grew k0') (hv.grew k0') hd hL hsl (fun _ _ => hx.grew k0') (fun _ _ => hdx) (by omega)
  have hsz : (w.alloc (.cells #[.slice ao L cap, .int .u64 (K : Nat), .slice bo M dap] 26)).heap.size = w.heap.size + 1 := by simp
  rw [hsz] at hMs1
  clear hu hv hx hd hdx hsl hbad hsz
  go_enter Tryz.func13, Tryz.ntmps13
  go_wp2_with fail
  refine hMs1.mono ?_
  rintro e w1 ⟨rfl, k1⟩
  go_wp2_with fail
  go_ret2
  exact ⟨rfl, k0'.trans k1⟩

end Go.Proofs.YtoieghgaahfciaaGreat
