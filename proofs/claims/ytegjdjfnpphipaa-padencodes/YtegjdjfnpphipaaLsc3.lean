/- Package script: Filled. -/
import Derived.Test.YtegjdjfnpphipaaLsc2
namespace Go.Proofs.Ytegjdjfnpphipaa
open Go.RowKit

/-- How many bytes the script at p has left. -/
def lscLen (p : Option Addr) (w : World) : Nat := match p with
  | none => 0
  | some a => match w.cell? ⟨a.block, 0, none⟩, w.cell? ⟨a.block, 1, none⟩ with
    | some v, some (.int _ k) => sliceLen v - k.toNat
    | _, _ => 0

theorem Lsc.left {w : World} {p : Option Addr} {B : Nat} {bs : List Nat} (h : Lsc w p B bs) : lscLen p w = bs.length := by
  rcases h with ⟨rfl, rfl⟩ | ⟨b, v, ps, k, rfl, rfl, h⟩
  · rfl
  · obtain ⟨c0, c1⟩ := h.cells
    obtain ⟨_, _, e, _⟩ := h.2.1
    unfold lscLen
    simp only [c0, c1]
    rw [e, List.length_drop]
    rfl

set_option maxRecDepth 20000 in
set_option maxHeartbeats 1000000 in
/-- Filled. -/
theorem xFilled (p : Option Addr) (B : Nat) (bs : List Nat) (n : Int) (w : World) (h : Lsc w p B bs) (hB : B ≤ w.heap.size) :
    Calls Try.prog 23 #[.pointer p, .int .i64 n] w fun e w' => ∃ u, e = .returned (.tuple #[u, .int .i64 (filE bs n : Nat)]) ∧ OwnB w' w.heap.size u (filL bs n) ∧ Lsc w' p B (filR bs n) ∧ Kept (ofP p) w w' := by
  obtain ⟨i0, hi0, hz0, hz1, hz2⟩ := info_parts Try.info8s
  by_cases h1 : n < 0
  · have e1 : filE bs n = 1 := by unfold filE; rw [if_pos h1]
    have e2 : filL bs n = [] := by unfold filL; rw [e1]; rfl
    have e3 : filR bs n = bs := by unfold filR; rw [if_pos h1]
    rw [e1, e2, e3]
    clear e1 e2 e3
    have H := toHid h
    clear h
    go_enter Try.func23, Try.ntmps23
    go_wp2_with fail
    go_ret2
    exact ⟨_, rfl, OwnB.nil _ _, H.out, Kept.refl _ _⟩
  · obtain ⟨m, rfl⟩ := Int.eq_ofNat_of_zero_le (show 0 ≤ n by omega)
    have HE : Hid (filE bs (m : Int) = if (filN bs m).2.2 = true then 0 else 150) := by unfold Hid filE; rw [if_neg h1]; rfl
    have HR : Hid (filR bs (m : Int) = (filN bs m).2.1) := by unfold Hid filR; rw [if_neg h1]; rfl
    have HL : Hid (filL bs (m : Int) = if filE bs (m : Int) = 0 then (filN bs m).1 else []) := rfl
    have H := toHid h
    have J := xLeft p B bs w h
    have hbl := h.len
    obtain ⟨d, hd⟩ : ∃ d, d = min m bs.length := ⟨_, rfl⟩
    have gd : min (m : Int) (bs.length : Int) = (d : Int) := by omega
    have hdb : d ≤ 1000000 := by omega
    clear h hd
    obtain ⟨bl, hbe⟩ : ∃ bl, bl = bs.length := ⟨_, rfl⟩
    rw [← hbe] at J hbl gd
    have HBL := toHid hbe
    clear hbe
    go_enter Try.func23, Try.ntmps23
    go_wp2_with fail
    refine J.mono ?_
    rintro e w1 ⟨rfl, k1⟩
    have HK1 := toHid k1
    clear J k1
    go_wp2_with (at_make; refine wpList_make_own _ rfl _ _ 22 rfl w.heap.size 5 i0 _ 1 Try.underlying22 hi0 hz0 hz1 _ _ _ d rfl rfl rfl (by rw [hz2]; omega) (by unfold maxLen; omega) HK1.out.size ?_; intro w2 ho2 hg2; have HO0 : Hid (OwnB w2 w.heap.size (.slice (some ⟨w1.heap.size, 0, none⟩) 0 d) []) := ho2; have HK2 := toHid (HK1.out.trans (grown_kept hg2)); clear ho2 hg2)
    go_loopw [6] (fun out wr => ∃ (acc rest : List Nat) (K : Nat) (ao : Option Addr) (c : Nat), Hid (FilS bs m acc rest) ∧ Hid (acc.length = K) ∧ out = .slice ao K c ∧ K ≤ 1000000 ∧ Hid (K + rest.length ≤ bl) ∧ Hid (OwnB wr w.heap.size (.slice ao K c) acc) ∧ Hid (Lsc wr p B rest) ∧ Hid (Kept (ofP p) w wr)) (fun _ wr => lscLen p wr)
    case atStart => exact ⟨[], bs, 0, _, _, FilS.start _ _, rfl, rfl, by omega, by unfold Hid; have := HBL.out; omega, HO0.out, H.out.grew HK2.out, HK2.out.any⟩
    case round =>
      clear H HO0 HK2 HK1
      obtain ⟨acc, rest, K, ao, c, HF, HKl, rfl, hK, HKr, HO, HS, HKp⟩ := hrel
      by_cases hKm : K < m
      · have g1 : (K : Int) < (m : Int) := by omega
        have J := xTake p B 1 rest wr HS.out
        cases rest with
        | nil =>
          have hsp := HF.out.spent (by rw [HKl.out]; exact hKm)
          have e1 : filE bs (m : Int) = 150 := by rw [HE.out, hsp]; rfl
          have e2 : filL bs (m : Int) = [] := by rw [HL.out, e1]; rfl
          have e3 : filR bs (m : Int) = [] := by rw [HR.out, hsp]
          have HE1 := toHid e1
          have HE2 := toHid e2
          have HE3 := toHid e3
          have t1 : readE [] ((1 : Nat) : Int) = 150 := rfl
          have t2 : readR [] ((1 : Nat) : Int) = [] := rfl
          rw [t1, t2] at J
          clear hsp e1 e2 e3 t1 t2
          go_wp2_with fail
          refine J.mono ?_
          rintro e w3 ⟨u, rfl, hr3, h3, k3⟩
          have HS3 := toHid h3
          have HK3 := toHid (HKp.out.trans k3)
          obtain ⟨xo, xn, xc, rfl, _⟩ := hr3.open
          clear J hr3 h3 k3
          go_wp2_with fail
          go_ret2
          rw [HE1.out, HE2.out, HE3.out]
          exact ⟨_, rfl, OwnB.nil _ _, HS3.out, HK3.out⟩
        | cons x r =>
          have t1 : readE (x :: r) ((1 : Nat) : Int) = 0 := by unfold readE; rw [if_neg (by decide), if_neg (by simp; omega)]
          have t2 : readR (x :: r) ((1 : Nat) : Int) = r := rfl
          have t3 : readL (x :: r) ((1 : Nat) : Int) = [x] := by unfold readL; rw [t1]; rfl
          rw [t1, t2, t3] at J
          clear t1 t2 t3
          go_wp2_with fail
          refine J.mono ?_
          rintro e w3 ⟨u, rfl, hr3, h3, k3⟩
          have HS3 := toHid h3
          have HK3 := toHid (HKp.out.trans k3)
          have HO3 := toHid (HO.out.kept k3 (fun y hy e => by have := (HS.out.inP e).1; omega))
          obtain ⟨xo, xn, xc, rfl, hxl, hxc, hxm, _, hnum⟩ := hr3.open
          obtain rfl : xn = 1 := hxl.out.symm
          obtain ⟨xb, xoff, rfl, hcx⟩ := hnum 0 (by omega)
          have hcx' : w3.cell? ⟨xb, xoff, none⟩ = some (.int .u8 (x : Nat)) := hcx
          have HM : Hid (lscLen p w3 < lscLen p wr) := by unfold Hid; rw [h3.left, HS.out.left]; simp
          clear J hnum hcx hr3 h3 k3 hxl
          have hwb : w.heap.size ≤ w3.heap.size := HK3.out.size
          by_cases hx0 : x = 0
          · subst hx0
            have HF2 := toHid (HF.out.none (by rw [HKl.out]; exact hKm))
            go_wp2_with fail
            go_roundw
            case rel => exact ⟨acc, r, K, _, _, HF2.out, HKl.out, rfl, hK, by unfold Hid; have := HKr.out; simp at this; omega, HO3.out, HS3.out, HK3.out⟩
            case measure => exact HM.out
          · have gx : ¬ (x : Int) = 0 := by omega
            have HF2 := toHid (HF.out.one (by rw [HKl.out]; exact hKm) hx0)
            have ho : OwnN .u8 5 w3 w.heap.size (.slice ao K c) K acc := by have := HO3.out; unfold OwnB at this; rw [HKl.out] at this; exact this
            have hKb : K + 1 ≤ 1000000 := by have := HKr.out; simp at this; omega
            go_wp2_with (at_builtin; refine wpList_append_lies _ rfl _ _ 22 rfl w.heap.size 5 i0 _ 1 1 Try.underlying22 hi0 hz0 hz1 hz2 rfl (by omega) _ _ _ rfl (ho.alloc _) ⟨w3.heap.size, 0, none⟩ 1 1 [.int .u8 (x : Int)] rfl rfl (new1c w3 _ _) (by simp [Value.oneCell']) (by omega) (by unfold maxLen; omega) (by omega) (by simp; omega) (w3.heap.size + 1) (by simp) ?_)
            intro gg c' w4 ho4 hg hat hgl
            have kk : Kept (fun y => w.heap.size ≤ y) w3 w4 := ((Kept.refl _ w3).alloc _).grown hg (fun y hy hlt => (ho.lt y hy).1)
            have HO4 : Hid (OwnB w4 w.heap.size (.slice (some ⟨gg, 0, none⟩) (K + 1) c') (acc ++ [x])) := by
              refine OwnB.of (n := K + 1) ?_
              unfold OwnN
              rw [List.map_append]
              exact ho4
            have HKp4 : Hid (Kept (ofP p) w w4) := (HK3.out.alloc _).grown hg (fun y hy hlt => by have := (ho.lt y hy).1; omega)
            have HS4 := toHid (HS3.out.kept kk (fun y hy e => by
              have e' : w.heap.size ≤ y := e
              omega))
            have HM4 : Hid (lscLen p w4 < lscLen p wr) := by unfold Hid; rw [HS4.out.left, HS.out.left]; simp
            clear ho ho4 hg hat hgl kk hcx'
            go_wp2_with fail
            go_roundw
            case rel => exact ⟨acc ++ [x], r, K + 1, _, _, HF2.out, by unfold Hid; rw [List.length_append, HKl.out]; rfl, rfl, hKb, by unfold Hid; have := HKr.out; simp at this; omega, HO4.out, HS4.out, HKp4.out⟩
            case measure => exact HM4.out
      · have g1 : ¬ (K : Int) < (m : Int) := by omega
        have hdn := HF.out.done (by rw [HKl.out]; exact hKm)
        have e1 : filE bs (m : Int) = 0 := by rw [HE.out, hdn]; rfl
        have e2 : filL bs (m : Int) = acc := by rw [HL.out, e1, hdn]; rfl
        have e3 : filR bs (m : Int) = rest := by rw [HR.out, hdn]
        have HE1 := toHid e1
        have HE2 := toHid e2
        have HE3 := toHid e3
        clear hdn e1 e2 e3
        go_wp2_with fail
        go_ret2
        rw [HE1.out, HE2.out, HE3.out]
        exact ⟨_, rfl, HO.out, HS.out, HKp.out⟩

end Go.Proofs.Ytegjdjfnpphipaa
