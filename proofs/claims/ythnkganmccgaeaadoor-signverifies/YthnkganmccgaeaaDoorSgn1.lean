/- The plain side of layer 25 (package sconceref23): Sign, Signed. -/
import Derived.Test.YthnkganmccgaeaaDoorOae1
namespace Go.Proofs.YthnkganmccgaeaaDoor
open Go.RowKit

/-- What stands behind the padding of a signature. -/
def siT (h : Int) (ms : List Nat) : List Nat := preN h ++ hshN h ms

/-- What Sign answers. -/
def siE (h : Int) (ms : List Nat) (k : Int) : Nat := if hszN h = 0 then 130 else if k < 0 ∨ 1024 < k then 1 else if k < ((siT h ms).length : Int) + 11 then 232 else 0
def siL (h : Int) (ms : List Nat) (k : Int) : List Nat := if siE h ms k = 0 then [0, 1] ++ List.replicate (k.toNat - 3 - (siT h ms).length) 255 ++ [0] ++ siT h ms else []

theorem preN_length {h : Int} (hz : hszN h ≠ 0) : (preN h).length = 19 := by unfold preN; rw [if_neg hz]; rfl

theorem hshE_bad {h : Int} (hz : hszN h = 0) : hshE h = 130 := by
  rcases hsz_cases h with ⟨_, e⟩ | ⟨_, e⟩ | ⟨_, e⟩ | ⟨h1, h2, h3, _⟩
  · omega
  · omega
  · omega
  · unfold hshE
    rw [if_neg (by omega)]

theorem siT_digs (h : Int) (ms : List Nat) : Digs 256 (siT h ms) := (preN_digs h).app (hshN_digs h ms)

theorem siL_digs (h : Int) (ms : List Nat) (k : Int) : Digs 256 (siL h ms k) := by
  unfold siL
  split
  · refine (((?_ : Digs 256 [0, 1]).app ?_).app ?_).app (siT_digs h ms)
    · intro d hd
      simp at hd
      omega
    · intro d hd
      rw [List.eq_of_mem_replicate hd]
      omega
    · intro d hd
      simp at hd
      omega
  · exact Digs.nil _

set_option maxRecDepth 20000 in
set_option maxHeartbeats 2000000 in
/-- Sign. -/
theorem r23Sign (h : Int) (v : Value) (ms : List Nat) (k : Int) (w : World) (hm : Row .u8 w v ms) (dm : Digs 256 ms) (hM : ms.length ≤ 1000000) :
    Calls Tryd.prog 8 #[.int .i64 h, v, .int .i64 k] w fun e w' => ∃ u, e = .returned (.tuple #[u, .int .i64 (siE h ms k : Nat)]) ∧ OwnB w' w.heap.size u (siL h ms k) ∧ Kept Nought w w' := by
  have J1 := r13Sum h v ms w hm dm hM
  obtain ⟨mo, M, mc, rfl, -, -, -, -, -⟩ := hm.open
  clear hm dm hM
  by_cases c1 : hszN h = 0
  · have HE : Hid (siE h ms k = 130) := by unfold Hid siE; rw [if_pos c1]
    have HL0 : Hid (siL h ms k = []) := by unfold Hid siL; rw [HE.out]; rfl
    rw [hshE_bad c1] at J1
    go_enter Tryd.func8, Tryd.ntmps8
    go_wp2_with fail
    refine J1.mono ?_
    rintro e w1 ⟨u1, rfl, o1, k1⟩
    obtain ⟨xo, xc, rfl⟩ := own_slice o1
    clear J1 o1
    go_wp2_with fail
    go_ret2
    exact ⟨_, by rw [HE.out]; rfl, by rw [HL0.out]; exact OwnB.nil _ _, k1⟩
  rw [(hsh_ok c1).1] at J1
  by_cases c2 : k < 0 ∨ 1024 < k
  · have HE : Hid (siE h ms k = 1) := by unfold Hid siE; rw [if_neg c1, if_pos c2]
    have HL0 : Hid (siL h ms k = []) := by unfold Hid siL; rw [HE.out]; rfl
    by_cases c3 : k < 0
    · clear c2
      go_enter Tryd.func8, Tryd.ntmps8
      go_wp2_with fail
      refine J1.mono ?_
      rintro e w1 ⟨u1, rfl, o1, k1⟩
      obtain ⟨xo, xc, rfl⟩ := own_slice o1
      clear J1 o1
      go_wp2_with fail
      go_ret2
      exact ⟨_, by rw [HE.out]; rfl, by rw [HL0.out]; exact OwnB.nil _ _, k1⟩
    · have g1 : k > 1024 := by omega
      have g2 : (1024 : Int) < k := by omega
      clear c2
      go_enter Tryd.func8, Tryd.ntmps8
      go_wp2_with fail
      refine J1.mono ?_
      rintro e w1 ⟨u1, rfl, o1, k1⟩
      obtain ⟨xo, xc, rfl⟩ := own_slice o1
      clear J1 o1
      go_wp2_with fail
      go_ret2
      exact ⟨_, by rw [HE.out]; rfl, by rw [HL0.out]; exact OwnB.nil _ _, k1⟩
  have a1 : ¬ k < 0 := fun e => c2 (.inl e)
  have a2 : ¬ k > 1024 := fun e => c2 (.inr e)
  have a3 : ¬ (1024 : Int) < k := a2
  have JP := toHid fun W => r13Prefix h W
  have HPL := toHid (preN_length c1)
  have hz64 := hsz_le h
  have HHL := toHid (hshN_length h ms)
  have HE : Hid (siE h ms k = if k < ((siT h ms).length : Int) + 11 then 232 else 0) := by unfold Hid siE; rw [if_neg c1, if_neg c2]
  have HLL : Hid (siL h ms k = if siE h ms k = 0 then [0, 1] ++ List.replicate (k.toNat - 3 - (siT h ms).length) 255 ++ [0] ++ siT h ms else []) := rfl
  have HT : Hid (siT h ms = preN h ++ hshN h ms) := rfl
  generalize hszN h = s at *
  generalize hshN h ms = hs0 at *
  generalize preN h = pr at *
  generalize siT h ms = T at *
  clear c2
  go_enter Tryd.func8, Tryd.ntmps8
  go_wp2_with fail
  refine J1.mono ?_
  rintro e w1 ⟨u1, rfl, o1, k1⟩
  have HK1 := toHid k1
  have HR1 := toHid o1.row
  obtain ⟨xo, xn, xc, rfl, -, -, -, -, -⟩ := o1.row.open
  have hP := JP.out w1
  clear J1 o1 k1 JP
  go_wp2_with fail
  refine hP.mono ?_
  rintro e w2 ⟨u2, rfl, o2, k2⟩
  have HK2 := toHid (HK1.out.trans k2)
  have HO2 := toHid o2
  have HR2 := toHid (HR1.out.grew k2)
  have hw2 := k2.size
  obtain ⟨po, pn, pc, rfl, -, -, -, -, -⟩ := o2.row.open
  clear hP o2 k2 HR1
  go_wp2_with (at_builtin; refine wpList_append_nm rfl _ _ rfl w1.heap.size _ pr rfl HO2.out _ rfl hs0 HR2.out ?qa hw2 ?_)
  case qa => have := HPL.out; have := HHL.out; omega
  intro l3 ao3 n3 c3 w3 e3 f3 ho3 kk3
  have k3 : Kept Nought w w3 := HK2.out.next kk3 (fun x hx (h : w1.heap.size ≤ x) => by have := HK1.out.size; omega)
  obtain rfl : l3 = T := by rw [e3.out, HT.out]
  have HK3 := toHid k3
  have HR3 := toHid ho3.row
  have hn3 : n3 ≤ 83 := by have h1 := f3.out; rw [e3.out, List.length_append, HPL.out, HHL.out] at h1; omega
  rw [f3.out] at HE HLL
  clear ho3 kk3 k3 HO2 HR2
  by_cases c4 : k < (n3 : Int) + 11
  · have HE1 : Hid (siE h ms k = 232) := by unfold Hid; rw [HE.out, if_pos c4]
    have HL1 : Hid (siL h ms k = []) := by unfold Hid; rw [HLL.out, HE1.out]; rfl
    go_wp2_with fail
    go_ret2
    exact ⟨_, by rw [HE1.out]; rfl, by rw [HL1.out]; exact OwnB.nil _ _, HK3.out⟩
  have HE1 : Hid (siE h ms k = 0) := by unfold Hid; rw [HE.out, if_neg c4]
  obtain ⟨J, hJ⟩ : ∃ J : Nat, k - 1 - (n3 : Int) = (J : Int) + 2 := ⟨(k - 3 - (n3 : Int)).toNat, by omega⟩
  have hJb : J ≤ 1024 := by omega
  have HL1 : Hid (siL h ms k = [0, 1] ++ List.replicate J 255 ++ [0] ++ l3) := by
    unfold Hid
    rw [HLL.out, if_pos HE1.out, show k.toNat - 3 - n3 = J by omega]
  obtain ⟨A1, hA1⟩ : ∃ A1 : List Nat, A1 = [0, 1] := ⟨_, rfl⟩
  obtain ⟨A2, hA2⟩ : ∃ A2 : List Nat, A2 = [0] := ⟨_, rfl⟩
  obtain ⟨A3, hA3⟩ : ∃ A3 : List Nat, A3 = [255] := ⟨_, rfl⟩
  have HO1 : Hid (OwnB (w3.alloc (.cells #[.int .u8 0, .int .u8 1] 5)) w3.heap.size (.slice (some ⟨w3.heap.size, 0, none⟩) 2 2) A1) := own_lit8 w3 A1 _ (by rw [hA1]; rfl) 2 (by rw [hA1]; rfl) (by omega) (by omega)
  have HN2 : Hid (∀ W : World, OwnB (W.alloc (.cells #[.int .u8 0] 5)) W.heap.size (.slice (some ⟨W.heap.size, 0, none⟩) 1 1) A2) := fun W => own_lit8 W A2 _ (by rw [hA2]; rfl) 1 (by rw [hA2]; rfl) (by omega) (by omega)
  have HN3 : Hid (∀ W : World, OwnB (W.alloc (.cells #[.int .u8 255] 5)) W.heap.size (.slice (some ⟨W.heap.size, 0, none⟩) 1 1) A3) := fun W => own_lit8 W A3 _ (by rw [hA3]; rfl) 1 (by rw [hA3]; rfl) (by omega) (by omega)
  have HAL : Hid (A1.length = 2 ∧ A2.length = 1 ∧ A3.length = 1) := by unfold Hid; rw [hA1, hA2, hA3]; exact ⟨rfl, rfl, rfl⟩
  have HA3 : Hid (∀ j, List.replicate j 255 ++ A3 = List.replicate (j + 1) 255) := fun j => by rw [hA3, List.replicate_succ']
  rw [← hA1, ← hA2] at HL1
  have hka : Kept Nought w3 (w3.alloc (.cells #[.int .u8 0, .int .u8 1] 5)) := (Kept.refl Nought w3).alloc _
  have HKA := toHid hka
  clear hA1 hA2 hA3 HE HLL hka
  go_wp2_with fail
  go_loopw [11] (fun ov wr => ∃ (j : Nat) (ls : List Nat) (ao : Option Addr) (n cap : Nat), ov = .slice ao n cap ∧ j ≤ J ∧ n = j + 2 ∧ Hid (ls = A1 ++ List.replicate j 255) ∧ Hid (ls.length = n) ∧ Hid (OwnB wr w3.heap.size (.slice ao n cap) ls) ∧ Hid (Kept Nought w3 wr)) (fun ov _ => J + 3 - sliceLen ov)
  case atStart => exact ⟨0, A1, _, 2, 2, rfl, Nat.zero_le _, rfl, (by unfold Hid; simp), HAL.out.1, HO1.out, HKA.out⟩
  case round =>
    clear HO1 HKA
    obtain ⟨j, ls, ao, n, cap, rfl, hj, hn, Hls, Hln, HO, HK⟩ := hrel
    have hlw := HK.out.size
    by_cases c5 : j < J
    · have g5 : (n : Int) < k - 1 - (n3 : Int) := by omega
      have g5' : (n : Int) < (J : Int) + 2 := by omega
      have HNN := toHid hn
      clear hn
      go_wp2_with (at_builtin; refine wpList_append_nm rfl _ _ rfl w3.heap.size _ ls rfl (HO.out.grew ((Kept.refl Nought wr).alloc _)) _ rfl A3 (HN3.out wr).row ?qa ?qb ?_)
      case qa => have := Hln.out; have := HAL.out; have := HNN.out; omega
      case qb => first | (simp; omega) | omega
      intro l4 ao4 n4 c4' w4 e4 f4 ho4 kk4
      have k4 : Kept Nought w3 w4 := (HK.out.alloc _).next kk4 (fun x hx (h : w3.heap.size ≤ x) => by omega)
      have HO4 := toHid ho4
      have HL4 : Hid (l4 = A1 ++ List.replicate (j + 1) 255) := by unfold Hid; rw [e4.out, Hls.out, List.append_assoc, HA3.out]
      have hn4 : n4 = j + 1 + 2 := by have h1 := f4.out; rw [e4.out, List.length_append, Hln.out, HAL.out.2.2, HNN.out] at h1; omega
      have HN4 := toHid hn4
      clear ho4 kk4 hn4
      go_wp2_with fail
      go_roundw
      case rel => exact ⟨j + 1, l4, ao4, n4, c4', rfl, by omega, HN4.out, HL4.out, f4.out, HO4.out, k4⟩
      case measure => simp [sliceLen]; have := HN4.out; have := HNN.out; omega
    · have g5 : ¬ (n : Int) < k - 1 - (n3 : Int) := by omega
      have g5' : ¬ (n : Int) < (J : Int) + 2 := by omega
      have HNN := toHid hn
      obtain rfl : j = J := by omega
      clear hn
      go_wp2_with (at_builtin; refine wpList_append_nm rfl _ _ rfl w3.heap.size _ ls rfl (HO.out.grew ((Kept.refl Nought wr).alloc _)) _ rfl A2 (HN2.out wr).row ?qa ?qb ?_)
      case qa => have := Hln.out; have := HAL.out; have := HNN.out; omega
      case qb => first | (simp; omega) | omega
      intro l4 ao4 n4 c4' w4 e4 f4 ho4 kk4
      have k4 : Kept Nought w3 w4 := (HK.out.alloc _).next kk4 (fun x hx (h : w3.heap.size ≤ x) => by omega)
      have HO4 := toHid ho4
      have HK4 := toHid k4
      have hs4 := k4.size
      have hn4 : n4 = n + 1 := by have h1 := f4.out; rw [e4.out, List.length_append, Hln.out, HAL.out.2.1] at h1; omega
      have HN4 := toHid hn4
      clear ho4 kk4 k4 hn4
      go_wp2_with (at_builtin; refine wpList_append_nm rfl _ _ rfl w3.heap.size _ l4 rfl HO4.out _ rfl l3 (HR3.out.grew HK4.out) ?qc hs4 ?_)
      case qc => have := f4.out; have := f3.out; have := HN4.out; have := HNN.out; omega
      intro l5 ao5 n5 c5' w5 e5 f5 ho5 kk5
      have k5 : Kept Nought w3 w5 := HK4.out.next kk5 (fun x hx (h : w3.heap.size ≤ x) => by omega)
      have HF : Hid (OwnB w5 w.heap.size (.slice ao5 n5 c5') (siL h ms k)) := by
        unfold Hid
        rw [HL1.out, ← Hls.out, ← e4.out, ← e5.out]
        exact ho5.base HK3.out.size
      clear ho5 kk5
      go_wp2_with fail
      go_ret2
      exact ⟨_, by rw [HE1.out]; rfl, HF.out, HK3.out.trans k5⟩

set_option maxRecDepth 20000 in
/-- Signed. -/
theorem r23Signed (h : Int) (v : Value) (ms : List Nat) (eo : Option Addr) (L ec : Nat) (em : List Nat) (R : Bool) (hR : R = decide (siE h ms (L : Int) = 0 ∧ siL h ms (L : Int) = em)) (w : World) (hm : Row .u8 w v ms) (dm : Digs 256 ms) (hM : ms.length ≤ 1000000) (he : Row .u8 w (.slice eo L ec) em) (de : Digs 256 em) :
    Calls Tryd.prog 11 #[.int .i64 h, v, .slice eo L ec] w fun e w' => e = .returned (.bool R) ∧ Kept Nought w w' := by
  have J1 := r23Sign h v ms (L : Int) w hm dm hM
  obtain ⟨mo, M, mc, rfl, -, -, -, -, -⟩ := hm.open
  have JS := toHid fun W (k : Kept Nought w W) (u : Value) (hu : Row .u8 W u (siL h ms (L : Int))) => r13Same u (.slice eo L ec) (siL h ms (L : Int)) em W hu (he.grew k) (siL_digs _ _ _) de
  obtain ⟨_, _, _, e1, -, hLc, hcm, -, -⟩ := he.open
  cases e1
  clear hm dm hM he de
  generalize siE h ms (L : Int) = E at *
  generalize siL h ms (L : Int) = sl at *
  go_enter Tryd.func11, Tryd.ntmps11
  go_wp2_with fail
  refine J1.mono ?_
  rintro e w1 ⟨u1, rfl, o1, k1⟩
  have HK1 := toHid k1
  have hS := JS.out w1 k1 u1 o1.row
  obtain ⟨xo, xn, xc, rfl, -, -, -, -, -⟩ := o1.row.open
  clear J1 o1 k1 JS
  by_cases c1 : E = 0
  · subst c1
    have HR : Hid (R = decide (sl = em)) := by unfold Hid; rw [hR]; simp
    clear hR
    generalize decide (sl = em) = b at *
    go_wp2_with fail
    refine hS.mono ?_
    rintro e w2 ⟨rfl, rfl⟩
    go_wp2_with fail
    go_ret
    exact ⟨by rw [HR.out]; rfl, HK1.out⟩
  · have HR : Hid (R = false) := by unfold Hid; rw [hR, decide_eq_false (fun h => c1 h.1)]
    have g1 : ((E : Int) == 0) = false := by simp; omega
    have g1' : ¬ (E : Int) = 0 := by omega
    clear hR c1 hS
    go_wp2_with fail
    go_ret
    exact ⟨by rw [HR.out]; first | rfl | simp [g1], HK1.out⟩

end Go.Proofs.YthnkganmccgaeaaDoor
