/- Put together of: Scr1 Oae1 Sgn1 Law25 Sgn4 WSgnEncodes LSignEncodes. -/
import Derived.Test.YthnkganmccgaeaaDoorPk1
import Derived.Test.YthnkganmccgaeaaDoorPk4
import Derived.Test.YthnkganmccgaeaaDoorPk20
import Derived.Test.YthnkganmccgaeaaDoorPk21
import Derived.BigRegion
import Derived.Lib.AppendZerosOnto

/- The plain side of layer 15 (package sconceref15): a script in memory; Read. -/
namespace Go.Proofs.YthnkganmccgaeaaDoor
open Go.RowKit

/-- The first n bytes that are not 0, what is left, whether there were so many. -/
def filN : List Nat → Nat → List Nat × List Nat × Bool
  | bs, 0 => ([], bs, true)
  | [], _ + 1 => ([], [], false)
  | x :: bs, n + 1 => if x = 0 then filN bs (n + 1) else (x :: (filN bs n).1, (filN bs n).2)

/-- Filled's state while it goes on: acc is found, rest is left. -/
def FilS (bs : List Nat) (n : Nat) (acc rest : List Nat) : Prop := acc.length ≤ n ∧ filN bs n = (acc ++ (filN rest (n - acc.length)).1, (filN rest (n - acc.length)).2)

theorem FilS.start (bs : List Nat) (n : Nat) : FilS bs n [] bs := ⟨Nat.zero_le _, by simp⟩

theorem FilS.none {bs acc rest : List Nat} {n : Nat} (h : FilS bs n acc (0 :: rest)) (hn : acc.length < n) : FilS bs n acc rest := by
  obtain ⟨d, hd⟩ : ∃ d, n - acc.length = d + 1 := ⟨n - acc.length - 1, by omega⟩
  refine ⟨h.1, ?_⟩
  rw [h.2, hd]
  rfl

theorem FilS.one {bs acc rest : List Nat} {n x : Nat} (h : FilS bs n acc (x :: rest)) (hn : acc.length < n) (hx : x ≠ 0) : FilS bs n (acc ++ [x]) rest := by
  obtain ⟨d, hd⟩ : ∃ d, n - acc.length = d + 1 := ⟨n - acc.length - 1, by omega⟩
  refine ⟨by rw [List.length_append]; simp; omega, ?_⟩
  have e : n - (acc ++ [x]).length = d := by rw [List.length_append]; simp; omega
  have e2 : filN (x :: rest) (d + 1) = (x :: (filN rest d).1, (filN rest d).2) := by
    rw [filN, if_neg hx]
  rw [h.2, hd, e, e2]
  simp

theorem FilS.done {bs acc rest : List Nat} {n : Nat} (h : FilS bs n acc rest) (hn : ¬ acc.length < n) : filN bs n = (acc, rest, true) := by
  have := h.1
  have e : filN rest 0 = ([], rest, true) := by cases rest <;> rfl
  rw [h.2, show n - acc.length = 0 by omega, e]
  simp

end Go.Proofs.YthnkganmccgaeaaDoor


/- The plain side of layer 24 (package sconceref23): Room, Seal. -/
namespace Go.Proofs.YthnkganmccgaeaaDoor
open Go.RowKit

theorem hsh_ok {h : Int} (hz : hszN h ≠ 0) : hshE h = 0 ∧ ∀ n : Nat, n ≤ 10000 → mskE h (n : Int) = 0 := by
  rcases hsz_cases h with ⟨rfl, _⟩ | ⟨rfl, _⟩ | ⟨rfl, _⟩ | ⟨_, _, _, e⟩
  · exact ⟨rfl, fun n hn => by unfold mskE; rw [if_neg hz, if_neg (by omega), if_neg (by omega)]⟩
  · exact ⟨rfl, fun n hn => by unfold mskE; rw [if_neg hz, if_neg (by omega), if_neg (by omega)]⟩
  · exact ⟨rfl, fun n hn => by unfold mskE; rw [if_neg hz, if_neg (by omega), if_neg (by omega)]⟩
  · exact absurd e hz

end Go.Proofs.YthnkganmccgaeaaDoor


/- The plain side of layer 25 (package sconceref23): Sign, Signed. -/
namespace Go.Proofs.YthnkganmccgaeaaDoor
open Go.RowKit

/-- What stands behind the padding of a signature. -/
def siT (h : Int) (ms : List Nat) : List Nat := preN h ++ hshN h ms

/-- What Sign answers. -/
def siE (h : Int) (ms : List Nat) (k : Int) : Nat := if hszN h = 0 then 130 else if k < 0 ∨ 1024 < k then 1 else if k < ((siT h ms).length : Int) + 11 then 232 else 0
def siL (h : Int) (ms : List Nat) (k : Int) : List Nat := if siE h ms k = 0 then [0, 1] ++ List.replicate (k.toNat - 3 - (siT h ms).length) 255 ++ [0] ++ siT h ms else []

theorem preN_length {h : Int} (hz : hszN h ≠ 0) : (preN h).length = 19 := by unfold preN; rw [if_neg hz]; rfl

theorem hshE_bad {h : Int} (hz : hszN h = 0) : hshE h = 130 := by
  rcases hsz_cases h with ⟨_, e⟩ | ⟨_, e⟩ | ⟨_, e⟩ | ⟨h1, h2, h3, _⟩
  · omega
  · omega
  · omega
  · unfold hshE
    rw [if_neg (by omega)]

theorem siT_digs (h : Int) (ms : List Nat) : Digs 256 (siT h ms) := (preN_digs h).app (hshN_digs h ms)

theorem siL_digs (h : Int) (ms : List Nat) (k : Int) : Digs 256 (siL h ms k) := by
  unfold siL
  split
  · refine (((?_ : Digs 256 [0, 1]).app ?_).app ?_).app (siT_digs h ms)
    · intro d hd
      simp at hd
      omega
    · intro d hd
      rw [List.eq_of_mem_replicate hd]
      omega
    · intro d hd
      simp at hd
      omega
  · exact Digs.nil _

set_option maxRecDepth 20000 in
set_option maxHeartbeats 2000000 in
/-- Sign. -/
theorem r23Sign (h : Int) (v : Value) (ms : List Nat) (k : Int) (w : World) (hm : Row .u8 w v ms) (dm : Digs 256 ms) (hM : ms.length ≤ 1000000) :
    Calls Tryd.prog 8 #[.int .i64 h, v, .int .i64 k] w fun e w' => ∃ u, e = .returned (.tuple #[u, .int .i64 (siE h ms k : Nat)]) ∧ OwnB w' w.heap.size u (siL h ms k) ∧ Kept Nought w w' := by
  have J1 := r13Sum h v ms w hm dm hM
  obtain ⟨mo, M, mc, rfl, -, -, -, -, -⟩ := hm.open
  clear hm dm hM
  by_cases c1 : hszN h = 0
  · have HE : Hid (siE h ms k = 130) := by unfold Hid siE; rw [if_pos c1]
    have HL0 : Hid (siL h ms k = []) := by unfold Hid siL; rw [HE.out]; rfl
    rw [hshE_bad c1] at J1
    go_enter Tryd.func8, Tryd.ntmps8
    go_wp2_with fail
    refine J1.mono ?_
    rintro e w1 ⟨u1, rfl, o1, k1⟩
    obtain ⟨xo, xc, rfl⟩ := own_slice o1
    clear J1 o1
    go_wp2_with fail
    go_ret2
    exact ⟨_, by rw [HE.out]; rfl, by rw [HL0.out]; exact OwnB.nil _ _, k1⟩
  rw [(hsh_ok c1).1] at J1
  by_cases c2 : k < 0 ∨ 1024 < k
  · have HE : Hid (siE h ms k = 1) := by unfold Hid siE; rw [if_neg c1, if_pos c2]
    have HL0 : Hid (siL h ms k = []) := by unfold Hid siL; rw [HE.out]; rfl
    by_cases c3 : k < 0
    · clear c2
      go_enter Tryd.func8, Tryd.ntmps8
      go_wp2_with fail
      refine J1.mono ?_
      rintro e w1 ⟨u1, rfl, o1, k1⟩
      obtain ⟨xo, xc, rfl⟩ := own_slice o1
      clear J1 o1
      go_wp2_with fail
      go_ret2
      exact ⟨_, by rw [HE.out]; rfl, by rw [HL0.out]; exact OwnB.nil _ _, k1⟩
    · have g1 : k > 1024 := by omega
      have g2 : (1024 : Int) < k := by omega
      clear c2
      go_enter Tryd.func8, Tryd.ntmps8
      go_wp2_with fail
      refine J1.mono ?_
      rintro e w1 ⟨u1, rfl, o1, k1⟩
      obtain ⟨xo, xc, rfl⟩ := own_slice o1
      clear J1 o1
      go_wp2_with fail
      go_ret2
      exact ⟨_, by rw [HE.out]; rfl, by rw [HL0.out]; exact OwnB.nil _ _, k1⟩
  have a1 : ¬ k < 0 := fun e => c2 (.inl e)
  have a2 : ¬ k > 1024 := fun e => c2 (.inr e)
  have a3 : ¬ (1024 : Int) < k := a2
  have JP := toHid fun W => r13Prefix h W
  have HPL := toHid (preN_length c1)
  have hz64 := hsz_le h
  have HHL := toHid (hshN_length h ms)
  have HE : Hid (siE h ms k = if k < ((siT h ms).length : Int) + 11 then 232 else 0) := by unfold Hid siE; rw [if_neg c1, if_neg c2]
  have HLL : Hid (siL h ms k = if siE h ms k = 0 then [0, 1] ++ List.replicate (k.toNat - 3 - (siT h ms).length) 255 ++ [0] ++ siT h ms else []) := rfl
  have HT : Hid (siT h ms = preN h ++ hshN h ms) := rfl
  generalize hszN h = s at *
  generalize hshN h ms = hs0 at *
  generalize preN h = pr at *
  generalize siT h ms = T at *
  clear c2
  go_enter Tryd.func8, Tryd.ntmps8
  go_wp2_with fail
  refine J1.mono ?_
  rintro e w1 ⟨u1, rfl, o1, k1⟩
  have HK1 := toHid k1
  have HR1 := toHid o1.row
  obtain ⟨xo, xn, xc, rfl, -, -, -, -, -⟩ := o1.row.open
  have hP := JP.out w1
  clear J1 o1 k1 JP
  go_wp2_with fail
  refine hP.mono ?_
  rintro e w2 ⟨u2, rfl, o2, k2⟩
  have HK2 := toHid (HK1.out.trans k2)
  have HO2 := toHid o2
  have HR2 := toHid (HR1.out.grew k2)
  have hw2 := k2.size
  obtain ⟨po, pn, pc, rfl, -, -, -, -, -⟩ := o2.row.open
  clear hP o2 k2 HR1
  go_wp2_with (at_builtin; refine wpList_append_nm rfl _ _ rfl w1.heap.size _ pr rfl HO2.out _ rfl hs0 HR2.out ?qa hw2 ?_)
  case qa => have := HPL.out; have := HHL.out; omega
  intro l3 ao3 n3 c3 w3 e3 f3 ho3 kk3
  have k3 : Kept Nought w w3 := HK2.out.next kk3 (fun x hx (h : w1.heap.size ≤ x) => by have := HK1.out.size; omega)
  obtain rfl : l3 = T := by rw [e3.out, HT.out]
  have HK3 := toHid k3
  have HR3 := toHid ho3.row
  have hn3 : n3 ≤ 83 := by have h1 := f3.out; rw [e3.out, List.length_append, HPL.out, HHL.out] at h1; omega
  rw [f3.out] at HE HLL
  clear ho3 kk3 k3 HO2 HR2
  by_cases c4 : k < (n3 : Int) + 11
  · have HE1 : Hid (siE h ms k = 232) := by unfold Hid; rw [HE.out, if_pos c4]
    have HL1 : Hid (siL h ms k = []) := by unfold Hid; rw [HLL.out, HE1.out]; rfl
    go_wp2_with fail
    go_ret2
    exact ⟨_, by rw [HE1.out]; rfl, by rw [HL1.out]; exact OwnB.nil _ _, HK3.out⟩
  have HE1 : Hid (siE h ms k = 0) := by unfold Hid; rw [HE.out, if_neg c4]
  obtain ⟨J, hJ⟩ : ∃ J : Nat, k - 1 - (n3 : Int) = (J : Int) + 2 := ⟨(k - 3 - (n3 : Int)).toNat, by omega⟩
  have hJb : J ≤ 1024 := by omega
  have HL1 : Hid (siL h ms k = [0, 1] ++ List.replicate J 255 ++ [0] ++ l3) := by
    unfold Hid
    rw [HLL.out, if_pos HE1.out, show k.toNat - 3 - n3 = J by omega]
  obtain ⟨A1, hA1⟩ : ∃ A1 : List Nat, A1 = [0, 1] := ⟨_, rfl⟩
  obtain ⟨A2, hA2⟩ : ∃ A2 : List Nat, A2 = [0] := ⟨_, rfl⟩
  obtain ⟨A3, hA3⟩ : ∃ A3 : List Nat, A3 = [255] := ⟨_, rfl⟩
  have HO1 : Hid (OwnB (w3.alloc (.cells #[.int .u8 0, .int .u8 1] 5)) w3.heap.size (.slice (some ⟨w3.heap.size, 0, none⟩) 2 2) A1) := own_lit8 w3 A1 _ (by rw [hA1]; rfl) 2 (by rw [hA1]; rfl) (by omega) (by omega)
  have HN2 : Hid (∀ W : World, OwnB (W.alloc (.cells #[.int .u8 0] 5)) W.heap.size (.slice (some ⟨W.heap.size, 0, none⟩) 1 1) A2) := fun W => own_lit8 W A2 _ (by rw [hA2]; rfl) 1 (by rw [hA2]; rfl) (by omega) (by omega)
  have HN3 : Hid (∀ W : World, OwnB (W.alloc (.cells #[.int .u8 255] 5)) W.heap.size (.slice (some ⟨W.heap.size, 0, none⟩) 1 1) A3) := fun W => own_lit8 W A3 _ (by rw [hA3]; rfl) 1 (by rw [hA3]; rfl) (by omega) (by omega)
  have HAL : Hid (A1.length = 2 ∧ A2.length = 1 ∧ A3.length = 1) := by unfold Hid; rw [hA1, hA2, hA3]; exact ⟨rfl, rfl, rfl⟩
  have HA3 : Hid (∀ j, List.replicate j 255 ++ A3 = List.replicate (j + 1) 255) := fun j => by rw [hA3, List.replicate_succ']
  rw [← hA1, ← hA2] at HL1
  have hka : Kept Nought w3 (w3.alloc (.cells #[.int .u8 0, .int .u8 1] 5)) := (Kept.refl Nought w3).alloc _
  have HKA := toHid hka
  clear hA1 hA2 hA3 HE HLL hka
  go_wp2_with fail
  go_loopw [11] (fun ov wr => ∃ (j : Nat) (ls : List Nat) (ao : Option Addr) (n cap : Nat), ov = .slice ao n cap ∧ j ≤ J ∧ n = j + 2 ∧ Hid (ls = A1 ++ List.replicate j 255) ∧ Hid (ls.length = n) ∧ Hid (OwnB wr w3.heap.size (.slice ao n cap) ls) ∧ Hid (Kept Nought w3 wr)) (fun ov _ => J + 3 - sliceLen ov)
  case atStart => exact ⟨0, A1, _, 2, 2, rfl, Nat.zero_le _, rfl, (by unfold Hid; simp), HAL.out.1, HO1.out, HKA.out⟩
  case round =>
    clear HO1 HKA
    obtain ⟨j, ls, ao, n, cap, rfl, hj, hn, Hls, Hln, HO, HK⟩ := hrel
    have hlw := HK.out.size
    by_cases c5 : j < J
    · have g5 : (n : Int) < k - 1 - (n3 : Int) := by omega
      have g5' : (n : Int) < (J : Int) + 2 := by omega
      have HNN := toHid hn
      clear hn
      go_wp2_with (at_builtin; refine wpList_append_nm rfl _ _ rfl w3.heap.size _ ls rfl (HO.out.grew ((Kept.refl Nought wr).alloc _)) _ rfl A3 (HN3.out wr).row ?qa ?qb ?_)
      case qa => have := Hln.out; have := HAL.out; have := HNN.out; omega
      case qb => first | (simp; omega) | omega
      intro l4 ao4 n4 c4' w4 e4 f4 ho4 kk4
      have k4 : Kept Nought w3 w4 := (HK.out.alloc _).next kk4 (fun x hx (h : w3.heap.size ≤ x) => by omega)
      have HO4 := toHid ho4
      have HL4 : Hid (l4 = A1 ++ List.replicate (j + 1) 255) := by unfold Hid; rw [e4.out, Hls.out, List.append_assoc, HA3.out]
      have hn4 : n4 = j + 1 + 2 := by have h1 := f4.out; rw [e4.out, List.length_append, Hln.out, HAL.out.2.2, HNN.out] at h1; omega
      have HN4 := toHid hn4
      clear ho4 kk4 hn4
      go_wp2_with fail
      go_roundw
      case rel => exact ⟨j + 1, l4, ao4, n4, c4', rfl, by omega, HN4.out, HL4.out, f4.out, HO4.out, k4⟩
      case measure => simp [sliceLen]; have := HN4.out; have := HNN.out; omega
    · have g5 : ¬ (n : Int) < k - 1 - (n3 : Int) := by omega
      have g5' : ¬ (n : Int) < (J : Int) + 2 := by omega
      have HNN := toHid hn
      obtain rfl : j = J := by omega
      clear hn
      go_wp2_with (at_builtin; refine wpList_append_nm rfl _ _ rfl w3.heap.size _ ls rfl (HO.out.grew ((Kept.refl Nought wr).alloc _)) _ rfl A2 (HN2.out wr).row ?qa ?qb ?_)
      case qa => have := Hln.out; have := HAL.out; have := HNN.out; omega
      case qb => first | (simp; omega) | omega
      intro l4 ao4 n4 c4' w4 e4 f4 ho4 kk4
      have k4 : Kept Nought w3 w4 := (HK.out.alloc _).next kk4 (fun x hx (h : w3.heap.size ≤ x) => by omega)
      have HO4 := toHid ho4
      have HK4 := toHid k4
      have hs4 := k4.size
      have hn4 : n4 = n + 1 := by have h1 := f4.out; rw [e4.out, List.length_append, Hln.out, HAL.out.2.1] at h1; omega
      have HN4 := toHid hn4
      clear ho4 kk4 k4 hn4
      go_wp2_with (at_builtin; refine wpList_append_nm rfl _ _ rfl w3.heap.size _ l4 rfl HO4.out _ rfl l3 (HR3.out.grew HK4.out) ?qc hs4 ?_)
      case qc => have := f4.out; have := f3.out; have := HN4.out; have := HNN.out; omega
      intro l5 ao5 n5 c5' w5 e5 f5 ho5 kk5
      have k5 : Kept Nought w3 w5 := HK4.out.next kk5 (fun x hx (h : w3.heap.size ≤ x) => by omega)
      have HF : Hid (OwnB w5 w.heap.size (.slice ao5 n5 c5') (siL h ms k)) := by
        unfold Hid
        rw [HL1.out, ← Hls.out, ← e4.out, ← e5.out]
        exact ho5.base HK3.out.size
      clear ho5 kk5
      go_wp2_with fail
      go_ret2
      exact ⟨_, by rw [HE1.out]; rfl, HF.out, HK3.out.trans k5⟩

set_option maxRecDepth 20000 in
/-- Signed. -/
theorem r23Signed (h : Int) (v : Value) (ms : List Nat) (eo : Option Addr) (L ec : Nat) (em : List Nat) (R : Bool) (hR : R = decide (siE h ms (L : Int) = 0 ∧ siL h ms (L : Int) = em)) (w : World) (hm : Row .u8 w v ms) (dm : Digs 256 ms) (hM : ms.length ≤ 1000000) (he : Row .u8 w (.slice eo L ec) em) (de : Digs 256 em) :
    Calls Tryd.prog 11 #[.int .i64 h, v, .slice eo L ec] w fun e w' => e = .returned (.bool R) ∧ Kept Nought w w' := by
  have J1 := r23Sign h v ms (L : Int) w hm dm hM
  obtain ⟨mo, M, mc, rfl, -, -, -, -, -⟩ := hm.open
  have JS := toHid fun W (k : Kept Nought w W) (u : Value) (hu : Row .u8 W u (siL h ms (L : Int))) => r13Same u (.slice eo L ec) (siL h ms (L : Int)) em W hu (he.grew k) (siL_digs _ _ _) de
  obtain ⟨_, _, _, e1, -, hLc, hcm, -, -⟩ := he.open
  cases e1
  clear hm dm hM he de
  generalize siE h ms (L : Int) = E at *
  generalize siL h ms (L : Int) = sl at *
  go_enter Tryd.func11, Tryd.ntmps11
  go_wp2_with fail
  refine J1.mono ?_
  rintro e w1 ⟨u1, rfl, o1, k1⟩
  have HK1 := toHid k1
  have hS := JS.out w1 k1 u1 o1.row
  obtain ⟨xo, xn, xc, rfl, -, -, -, -, -⟩ := o1.row.open
  clear J1 o1 k1 JS
  by_cases c1 : E = 0
  · subst c1
    have HR : Hid (R = decide (sl = em)) := by unfold Hid; rw [hR]; simp
    clear hR
    generalize decide (sl = em) = b at *
    go_wp2_with fail
    refine hS.mono ?_
    rintro e w2 ⟨rfl, rfl⟩
    go_wp2_with fail
    go_ret
    exact ⟨by rw [HR.out]; rfl, HK1.out⟩
  · have HR : Hid (R = false) := by unfold Hid; rw [hR, decide_eq_false (fun h => c1 h.1)]
    have g1 : ((E : Int) == 0) = false := by simp; omega
    have g1' : ¬ (E : Int) = 0 := by omega
    clear hR c1 hS
    go_wp2_with fail
    go_ret
    exact ⟨by rw [HR.out]; first | rfl | simp [g1], HK1.out⟩

end Go.Proofs.YthnkganmccgaeaaDoor


/- Layer 25: what the landed functions must answer, as propositions (T: what the hashes' tables are in memory); awake. -/
namespace Go.Proofs.YthnkganmccgaeaaDoor
open Go.RowKit

/-- A fact of memory that stands while nothing old is written. -/
def Stands (T : World → Prop) : Prop := ∀ a b, T a → Kept Nought a b → T b

/-- Encode, landed. -/
def SEnc (T : World → Prop) : Prop := ∀ (h : Int) (mo : Option Addr) (M mc : Nat) (ms : List Nat) (k : Int) (w : World), T w → -9223372036854775808 ≤ h → h ≤ 9223372036854775807 → -9223372036854775808 ≤ k → k ≤ 9223372036854775807 → Row .u8 w (.slice mo M mc) ms → Digs 256 ms → M ≤ 10000 →
  Calls Tryd.prog 7 #[.int .i64 h, .slice mo M mc, .int .i64 k] w fun e w' => ∃ u, e = .returned (.tuple #[u, .int .i64 (siE h ms k : Nat)]) ∧ (Row .u8 w' u (siL h ms k) ∧ ∀ b, u.ownBlock = some b → w.heap.size ≤ b) ∧ Kept Nought w w'

/-- Verify, landed. -/
def SVer (T : World → Prop) : Prop := ∀ (h : Int) (mo : Option Addr) (M mc : Nat) (ms : List Nat) (eo : Option Addr) (L ec : Nat) (em : List Nat) (R : Bool) (w : World), R = decide (siE h ms (L : Int) = 0 ∧ siL h ms (L : Int) = em) → T w → -9223372036854775808 ≤ h → h ≤ 9223372036854775807 → Row .u8 w (.slice mo M mc) ms → Digs 256 ms → M ≤ 10000 → Row .u8 w (.slice eo L ec) em → Digs 256 em → L ≤ 10000 →
  Calls Tryd.prog 10 #[.int .i64 h, .slice mo M mc, .slice eo L ec] w fun e w' => e = .returned (.bool R) ∧ Kept Nought w w'

theorem si62 : (siE 1 [] 62 = 0 ∧ siE 1 [] 61 = 232) ∧ (siL 1 [] 62).length = 62 ∧ (siL 1 [] 62).getD 0 0 = 0 ∧ (siL 1 [] 62).getD 1 0 = 1 ∧ (siL 1 [] 62).getD 9 0 = 255 ∧ (siL 1 [] 62).getD 10 0 = 0 ∧ (siL 1 [] 62).getD 11 0 = 48 := by
  have hs : hszN 1 = 32 := by decide +kernel
  have hl : (siT 1 []).length = 51 := by
    unfold siT
    rw [List.length_append, preN_length (by omega), hshN_length, hs]
  have e0 : siE 1 [] 62 = 0 := by
    unfold siE
    rw [hl, hs]
    decide
  have e1 : siE 1 [] 61 = 232 := by
    unfold siE
    rw [hl, hs]
    decide
  have hp : ∃ q, preN 1 = 48 :: q := by
    unfold preN
    rw [if_neg (by omega)]
    exact ⟨_, rfl⟩
  obtain ⟨q, hq⟩ := hp
  have hL : siL 1 [] 62 = [0, 1, 255, 255, 255, 255, 255, 255, 255, 255, 0, 48] ++ (q ++ hshN 1 []) := by
    unfold siL
    rw [if_pos e0, hl]
    unfold siT
    rw [hq]
    rfl
  have hlen : (siL 1 [] 62).length = 62 := by
    unfold siL
    rw [if_pos e0, hl]
    simp [hl]
  refine ⟨⟨e0, e1⟩, hlen, ?_⟩
  rw [hL]
  simp

set_option maxRecDepth 20000 in
set_option maxHeartbeats 1000000 in
/-- awake. -/
theorem f25Awake {T : World → Prop} (hT : Stands T) (hE : SEnc T) (w : World) (ht : T w) : Calls Tryd.prog 6 #[] w fun r w' => r = .returned (.bool true) ∧ Kept Nought w w' := by
  obtain ⟨⟨e0, e1⟩, hlen, g0, g1, g9, g10, g11⟩ := si62
  have J1 := hE 1 none 0 0 [] 62 w ht (by omega) (by omega) (by omega) (by omega) (Row.nil _ _) (Digs.nil _) (by omega)
  rw [e0] at J1
  have HJ2 := toHid fun W (k : Kept Nought w W) => hE 1 none 0 0 [] 61 W (hT _ _ ht k) (by omega) (by omega) (by omega) (by omega) (Row.nil _ _) (Digs.nil _) (by omega)
  rw [e1] at HJ2
  generalize siL 1 [] 62 = SL at *
  clear hE e0 e1
  go_enter Tryd.func6, Tryd.ntmps6
  go_wp2_with fail
  refine J1.mono ?_
  rintro r w1 ⟨v1, rfl, ⟨r1, _⟩, k1⟩
  obtain ⟨ao, n1, c1, rfl, hL, _⟩ := r1.open
  obtain rfl : n1 = 62 := by rw [← hL.out, hlen]
  have HK1 := toHid k1
  have J2 := HJ2.out w1 HK1.out
  have HR1 := toHid r1
  clear J1 hL k1 r1
  go_wp2_with fail
  refine J2.mono ?_
  rintro r w2 ⟨v2, rfl, ⟨r2, _⟩, k2⟩
  obtain ⟨fo, n2, c2, rfl, _⟩ := r2.open
  obtain ⟨_, _, _, e9, _, _, _, _, hnum⟩ := (HR1.out.grew k2).open
  cases e9
  obtain ⟨b, off, rfl, q0⟩ := hnum 0 (by omega)
  obtain ⟨_, _, x1, q1⟩ := hnum 1 (by omega)
  cases x1
  obtain ⟨_, _, x9, q9⟩ := hnum 9 (by omega)
  cases x9
  obtain ⟨_, _, x10, q10⟩ := hnum 10 (by omega)
  cases x10
  obtain ⟨_, _, x11, q11⟩ := hnum 11 (by omega)
  cases x11
  rw [g0] at q0
  rw [g1] at q1
  rw [g9] at q9
  rw [g10] at q10
  rw [g11] at q11
  have q0' : w2.cell? ⟨b, off, none⟩ = some (.int .u8 0) := q0
  have q1' : w2.cell? ⟨b, off + 1, none⟩ = some (.int .u8 1) := q1
  have q9' : w2.cell? ⟨b, off + 9, none⟩ = some (.int .u8 255) := q9
  have q10' : w2.cell? ⟨b, off + 10, none⟩ = some (.int .u8 0) := q10
  have q11' : w2.cell? ⟨b, off + 11, none⟩ = some (.int .u8 48) := q11
  have HK2 := toHid (HK1.out.trans k2)
  clear J2 r2 k2 hnum q0 q1 q9 q10 q11 HR1 hlen g0 g1 g9 g10 g11
  go_wp2_with fail
  go_ret
  exact ⟨rfl, HK2.out⟩

end Go.Proofs.YthnkganmccgaeaaDoor


/- Package sign: Encode, Verify. -/
namespace Go.Proofs.YthnkganmccgaeaaDoor
open Go.RowKit

theorem sgStands : Stands TabH := fun _ _ h k => h.grew k

set_option maxRecDepth 20000 in
set_option maxHeartbeats 2000000 in
/-- Encode. -/
theorem sgEnc : SEnc TabH := by
  intro h mo M mc ms k w hT hh0 hh1 hk0 hk1 hm dm hM
  obtain ⟨_, _, _, e1, hML, -, -, -, -⟩ := hm.open
  cases e1
  have JP := z13Prefix h w
  have JZ := toHid fun W => z13Size h W
  have JS := toHid fun W (kk : Kept Nought w W) => z13Sum h (.slice mo M mc) ms W (hT.grew kk) (hm.grew kk) dm (by rw [hML.out]; omega)
  clear hT hm dm hML
  have hz64 := hsz_le h
  by_cases c1 : hszN h = 0
  · have HE : Hid (siE h ms k = 130) := by unfold Hid siE; rw [if_pos c1]
    have HL0 : Hid (siL h ms k = []) := by unfold Hid siL; rw [HE.out]; rfl
    rw [c1] at JZ
    clear JS c1 hz64
    go_enter Tryd.func7, Tryd.ntmps7
    go_wp2_with fail
    refine JP.mono ?_
    rintro e w1 ⟨u1, rfl, o1, k1⟩
    obtain ⟨xo, xc, rfl⟩ := own_slice o1
    have hZ := JZ.out w1
    clear JP o1 JZ
    go_wp2_with fail
    refine hZ.mono ?_
    rintro e w2 ⟨rfl, k2⟩
    clear hZ
    go_wp2_with fail
    go_ret2
    exact ⟨_, by rw [HE.out]; rfl, by rw [HL0.out]; exact ⟨Row.nil _ _, fun b hb => by cases hb⟩, k1.trans k2⟩
  have HPL := toHid (preN_length c1)
  have HHL := toHid (hshN_length h ms)
  have HE : Hid (siE h ms k = if k < 0 ∨ 1024 < k then 1 else if k < ((siT h ms).length : Int) + 11 then 232 else 0) := by unfold Hid siE; rw [if_neg c1]
  have HLL : Hid (siL h ms k = if siE h ms k = 0 then [0, 1] ++ List.replicate (k.toNat - 3 - (siT h ms).length) 255 ++ [0] ++ siT h ms else []) := rfl
  have HT : Hid (siT h ms = preN h ++ hshN h ms) := rfl
  rw [(hsh_ok c1).1] at JS
  have hs0 : 0 < hszN h := Nat.pos_of_ne_zero c1
  have gs0 : ¬ ((hszN h : Nat) : Int) = 0 := by omega
  generalize hszN h = s at *
  generalize hshN h ms = hs at *
  generalize preN h = pr at *
  generalize siT h ms = T at *
  have HTL : Hid (T.length = 19 + s) := by unfold Hid; rw [HT.out, List.length_append, HPL.out, HHL.out]
  rw [HTL.out] at HE HLL
  clear c1
  by_cases c2 : k < 0 ∨ 1024 < k
  · have HE1 : Hid (siE h ms k = 1) := by unfold Hid; rw [HE.out, if_pos c2]
    have HL0 : Hid (siL h ms k = []) := by unfold Hid; rw [HLL.out, HE1.out]; rfl
    clear JS HE HLL
    by_cases c3 : k < 0
    · clear c2
      go_enter Tryd.func7, Tryd.ntmps7
      go_wp2_with fail
      refine JP.mono ?_
      rintro e w1 ⟨u1, rfl, o1, k1⟩
      obtain ⟨xo, xc, rfl⟩ := own_slice o1
      have hZ := JZ.out w1
      clear JP o1 JZ
      go_wp2_with fail
      refine hZ.mono ?_
      rintro e w2 ⟨rfl, k2⟩
      clear hZ
      go_wp2_with fail
      go_ret2
      exact ⟨_, by rw [HE1.out]; rfl, by rw [HL0.out]; exact ⟨Row.nil _ _, fun b hb => by cases hb⟩, k1.trans k2⟩
    · have g2 : (1024 : Int) < k := by omega
      clear c2
      go_enter Tryd.func7, Tryd.ntmps7
      go_wp2_with fail
      refine JP.mono ?_
      rintro e w1 ⟨u1, rfl, o1, k1⟩
      obtain ⟨xo, xc, rfl⟩ := own_slice o1
      have hZ := JZ.out w1
      clear JP o1 JZ
      go_wp2_with fail
      refine hZ.mono ?_
      rintro e w2 ⟨rfl, k2⟩
      clear hZ
      go_wp2_with fail
      go_ret2
      exact ⟨_, by rw [HE1.out]; rfl, by rw [HL0.out]; exact ⟨Row.nil _ _, fun b hb => by cases hb⟩, k1.trans k2⟩
  have a1 : ¬ k < 0 := fun e => c2 (.inl e)
  have a3 : ¬ (1024 : Int) < k := fun e => c2 (.inr e)
  have HE2 : Hid (siE h ms k = if k < ((19 + s : Nat) : Int) + 11 then 232 else 0) := by unfold Hid; rw [HE.out, if_neg c2]
  clear HE c2
  by_cases c4 : k < ((19 + s : Nat) : Int) + 11
  · have HE1 : Hid (siE h ms k = 232) := by unfold Hid; rw [HE2.out, if_pos c4]
    have HL0 : Hid (siL h ms k = []) := by unfold Hid; rw [HLL.out, HE1.out]; rfl
    clear JS HE2 HLL
    go_enter Tryd.func7, Tryd.ntmps7
    go_wp2_with fail
    refine JP.mono ?_
    rintro e w1 ⟨u1, rfl, o1, k1⟩
    obtain ⟨xo, pn, xc, rfl, hpn, -, -, -, -⟩ := o1.row.open
    have hpn2 : pn = 19 := by rw [← hpn.out, HPL.out]
    have g4 : k < (pn : Int) + (s : Int) + 11 := by omega
    have hpb : pn ≤ 19 := by omega
    have hZ := JZ.out w1
    clear JP o1 JZ hpn hpn2 c4
    go_wp2_with fail
    refine hZ.mono ?_
    rintro e w2 ⟨rfl, k2⟩
    clear hZ
    go_wp2_with fail
    go_ret2
    exact ⟨_, by rw [HE1.out]; rfl, by rw [HL0.out]; exact ⟨Row.nil _ _, fun b hb => by cases hb⟩, k1.trans k2⟩
  obtain ⟨n, hn⟩ : ∃ n : Nat, k = (n : Int) + 3 + 19 + (s : Int) := ⟨(k - 22 - (s : Int)).toNat, by omega⟩
  have HE1 : Hid (siE h ms k = 0) := by unfold Hid; rw [HE2.out, if_neg c4]
  have HL1 : Hid (siL h ms k = [0, 1] ++ List.replicate n 255 ++ [0] ++ (pr ++ hs)) := by
    unfold Hid
    rw [HLL.out, if_pos HE1.out, show k.toNat - 3 - (19 + s) = n by omega, HT.out]
  have hn0 : 0 < n := by omega
  have hnb : n ≤ 2000 := by omega
  have HN := toHid hn
  clear HE2 HLL HT HTL hn
  go_enter Tryd.func7, Tryd.ntmps7
  go_wp2_with fail
  refine JP.mono ?_
  rintro e w1 ⟨u1, rfl, o1, k1⟩
  have HR1 := toHid o1.row
  have HK1 := toHid k1
  obtain ⟨po, pn, pc, rfl, hpn, -, -, -, -⟩ := o1.row.open
  have hpn2 : pn = 19 := by rw [← hpn.out, HPL.out]
  have g4 : ¬ k < (pn : Int) + (s : Int) + 11 := by omega
  have hk2 : k = (n : Int) + 3 + (pn : Int) + (s : Int) := by have := HN.out; omega
  have hpb : pn ≤ 19 := by omega
  have HK2' := toHid hk2
  have hZ := JZ.out w1
  clear JP o1 JZ hpn hpn2 c4 k1 hk2
  go_wp2_with fail
  refine hZ.mono ?_
  rintro e w2 ⟨rfl, k2⟩
  have hS := JS.out w2 (HK1.out.trans k2)
  have HK2 := toHid (HK1.out.trans k2)
  have HR2 := toHid (HR1.out.grew k2)
  clear hZ JS k2 HK1 HR1
  go_wp2_with fail
  refine hS.mono ?_
  rintro e w3 ⟨v3, rfl, r3, -, k3⟩
  have HR3 := toHid r3
  have HK3 := toHid (HK2.out.trans k3)
  obtain ⟨so, sn, sc, rfl, hsn, -, -, -, -⟩ := r3.open
  have hsn2 : sn = s := by rw [← hsn.out, HHL.out]
  subst hsn2
  have hka : Kept Nought w3 (w3.alloc (.cells #[.slice po pn pc, .slice so sn sc] 22)) := (Kept.refl Nought w3).alloc _
  have hbl : (w3.alloc (.cells #[.slice po pn pc, .slice so sn sc] 22)).heap[w3.heap.size]? = some (.cells #[.slice po pn pc, .slice so sn sc] 22 (0, 0)) := heap_alloc_new w3 _
  have JB := sgBlock k w3.heap.size n pn sn po so pc sc pr hs (w3.alloc (.cells #[.slice po pn pc, .slice so sn sc] 22)) ((cell_of_row _ _ 0 _ _ _ hbl).trans rfl) ((cell_of_row _ _ 1 _ _ _ hbl).trans rfl) ((HR2.out.grew k3).grew hka) (HR3.out.grew hka) (by omega) (by omega) HK2'.out hn0 hnb
  rw [← HL1.out] at JB
  have HKA := toHid (HK3.out.trans hka)
  clear hS r3 k3 hsn hka hbl HR2 HR3 HK2
  go_wp2_with fail
  refine JB.mono ?_
  rintro e w4 ⟨v4, rfl, o4, k4⟩
  have HO4 := toHid (o4.base HKA.out.size)
  have HK4 := toHid (HKA.out.trans k4)
  clear JB o4 k4
  go_wp2_with fail
  go_ret2
  exact ⟨_, by rw [HE1.out]; rfl, ⟨HO4.out.row, fun b hb => (HO4.out.lt b hb).1⟩, HK4.out⟩

set_option maxRecDepth 20000 in
set_option maxHeartbeats 1000000 in
/-- Verify. -/
theorem sgVer : SVer TabH := by
  intro h mo M mc ms eo L ec em R w hR hT hh0 hh1 hm dm hM he de hL
  have J1 := sgEnc h mo M mc ms (L : Int) w hT hh0 hh1 (by omega) (by omega) hm dm hM
  have JQ := toHid fun W (k : Kept Nought w W) (u : Value) (hu : Row .u8 W u (siL h ms (L : Int))) => sgEqual (.slice eo L ec) u em (siL h ms (L : Int)) W (he.grew k) hu de (siL_digs _ _ _)
  clear hm dm he de hT
  generalize siE h ms (L : Int) = E at *
  generalize siL h ms (L : Int) = sl at *
  go_enter Tryd.func10, Tryd.ntmps10
  go_wp2_with fail
  refine J1.mono ?_
  rintro e w1 ⟨u1, rfl, ⟨r1, -⟩, k1⟩
  have HK1 := toHid k1
  have hQ := JQ.out w1 k1 u1 r1
  obtain ⟨xo, xn, xc, rfl, -, -, -, -, -⟩ := r1.open
  clear J1 r1 k1 JQ
  by_cases c1 : E = 0
  · subst c1
    have HR : Hid (decide (em = sl) = R) := by
      unfold Hid
      rw [hR]
      by_cases e : em = sl
      · rw [decide_eq_true e, decide_eq_true ⟨rfl, e.symm⟩]
      · rw [decide_eq_false e, decide_eq_false fun x => e x.2.symm]
    rw [HR.out] at hQ
    clear hR HR
    go_wp2_with fail
    refine hQ.mono ?_
    rintro e w2 ⟨rfl, rfl⟩
    clear hQ
    go_wp2_with fail
    go_ret
    exact ⟨by first | rfl | simp, HK1.out⟩
  · have hRf : R = false := by rw [hR, decide_eq_false (fun h => c1 h.1)]
    subst hRf
    have g1 : ¬ (E : Int) = 0 := by omega
    clear hR c1 hQ
    go_wp2_with fail
    go_ret
    exact ⟨by first | rfl | simp [g1], HK1.out⟩

end Go.Proofs.YthnkganmccgaeaaDoor


/- The walk of the statement on what stands in a signature, of the landed contracts. -/
namespace Go.Proofs.YthnkganmccgaeaaDoor
open Go.RowKit

set_option maxRecDepth 20000 in
set_option maxHeartbeats 1000000 in
theorem wSignEncodes {T : World → Prop} (hT : Stands T) (hE : SEnc T) (h : Int) (u : Value) (ms : List Nat) (k : Int) (w : World) (hu : Row .u8 w u ms) (dm : Digs 256 ms) (hh : (Lit.int .i64 h).wf = true) (hk : (Lit.int .i64 k).wf = true) (ht : T w) :
    Calls Tryd.prog 3 #[.int .i64 h, u, .int .i64 k] w fun e w' => e = .returned (.bool true) ∧ Below w.heap.size w w' := by
  obtain ⟨hh0, hh1⟩ := bounds_i64 hh
  obtain ⟨hk0, hk1⟩ := bounds_i64 hk
  obtain ⟨mo, M, mc, rfl, hM, _⟩ := hu.open
  have J0 := f25Awake hT hE w ht
  have JF := toHid fun W (kk : Kept Nought w W) (hm : M ≤ 10000) => hE h mo M mc ms k W (hT _ _ ht kk) hh0 hh1 hk0 hk1 (hu.grew kk) dm hm
  have JR := toHid fun W (kk : Kept Nought w W) (hm : M ≤ 10000) => r23Sign h (.slice mo M mc) ms k W (hu.grew kk) dm (by rw [hM.out]; omega)
  have HDG := toHid (siL_digs h ms k)
  generalize siE h ms k = E at *
  generalize siL h ms k = RL at *
  clear hu dm hM hE hT hh hk
  by_cases hf : M ≤ 1000
  · have g1 : ¬ (M : Int) > 1000 := by omega
    have g1' : ¬ (1000 : Int) < (M : Int) := by omega
    go_enter Tryd.func3, Tryd.ntmps3
    go_wp2_with fail
    refine J0.mono ?_
    rintro e w1 ⟨rfl, k1⟩
    have HK1 := toHid k1
    have J2 := JF.out w1 HK1.out (by omega)
    clear J0 k1
    go_wp2_with fail
    refine J2.mono ?_
    rintro e w4 ⟨v4, rfl, ⟨r4, _⟩, k4⟩
    obtain ⟨co, cn, cc, rfl, _⟩ := r4.open
    have HR4 := toHid r4
    have HK4 := toHid (HK1.out.trans k4)
    have J3 := JR.out w4 HK4.out (by omega)
    clear J2 r4 k4
    go_wp2_with fail
    refine J3.mono ?_
    rintro e w5 ⟨v5, rfl, o5, k5⟩
    have r5 := o5.row
    obtain ⟨fo, fn, fc, rfl, _⟩ := r5.open
    have HK5 := toHid (HK4.out.trans k5)
    have JM := r13Same _ _ _ _ w5 (HR4.out.grew k5) r5 HDG.out HDG.out
    rw [decide_eq_true rfl] at JM
    clear J3 r5 o5 k5
    go_wp2_with fail
    refine JM.mono ?_
    rintro e w6 ⟨rfl, rfl⟩
    clear JM
    go_wp2_with fail
    go_ret
    exact ⟨by first | rfl | simp, below_kept HK5.out (Nat.le_refl _)⟩
  · have g1 : (M : Int) > 1000 := by omega
    have g1' : (1000 : Int) < (M : Int) := by omega
    go_enter Tryd.func3, Tryd.ntmps3
    go_wp2_with fail
    refine J0.mono ?_
    rintro e w1 ⟨rfl, k1⟩
    have HK1 := toHid k1
    clear J0 k1 hf
    go_wp2_with fail
    go_ret
    exact ⟨rfl, below_kept HK1.out (Nat.le_refl _)⟩

end Go.Proofs.YthnkganmccgaeaaDoor


/- The law SignEncodes, walked. -/
namespace Go.Proofs.YthnkganmccgaeaaDoor
open Go.RowKit

theorem walkSignEncodes (h : Int) (u : Value) (ms : List Nat) (k : Int) (w : World) (hu : Row .u8 w u ms) (dm : Digs 256 ms) (hh : (Lit.int .i64 h).wf = true) (hk : (Lit.int .i64 k).wf = true) (ht : TabH w) :
    Calls Tryd.prog 3 #[.int .i64 h, u, .int .i64 k] w fun e w' => e = .returned (.bool true) ∧ Below w.heap.size w w' :=
  wSignEncodes sgStands sgEnc h u ms k w hu dm hh hk ht

end Go.Proofs.YthnkganmccgaeaaDoor

