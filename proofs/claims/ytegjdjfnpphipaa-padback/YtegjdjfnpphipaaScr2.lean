/- The plain side of layer 15: Filled. -/
import Derived.Test.YtegjdjfnpphipaaScr1
import Derived.BigRegion
namespace Go.Proofs.Ytegjdjfnpphipaa
open Go.RowKit

/-- How many bytes the script at b has left. -/
def scrLen (b : Nat) (w : World) : Nat := match w.cell? ⟨b, 0, none⟩ with
  | some v => sliceLen v
  | none => 0

theorem ScrAt.len {w : World} {b B : Nat} {bs : List Nat} (h : ScrAt w b B bs) : scrLen b w = bs.length := by
  obtain ⟨v, h, _⟩ := h
  unfold scrLen
  rw [h.cell]
  obtain ⟨_, _, e, _⟩ := h.2.1
  rw [e]
  rfl

/-- A byte further: the slice, whether it was the last of its room or not. -/
theorem Scr.next {w : World} {b sb soff L cap x B : Nat} {r : List Nat} (h : Scr w b (.slice (some ⟨sb, soff, none⟩) L cap) (x :: r)) (hB : b < B) (hx : sb < B) :
    (cap = 1 → ScrAt (w.setCell ⟨b, 0, none⟩ (.slice (some ⟨sb, soff, none⟩) 0 0)) b B r) ∧ (cap ≠ 1 → ScrAt (w.setCell ⟨b, 0, none⟩ (.slice (some ⟨sb, soff + 1, none⟩) (L - 1) (cap - 1))) b B r) := by
  obtain ⟨_, _, _, e, hL, hc, _⟩ := h.2.1.open
  cases e
  have hL' : r.length + 1 = L := hL.out
  constructor
  · intro e
    obtain rfl : r = [] := List.length_eq_zero_iff.1 (by omega)
    exact ⟨_, h.put _ [] ⟨_, _, rfl, Nat.zero_le _, by unfold maxLen; omega, (fun _ => rfl), fun i hi => absurd hi (by simp)⟩ (fun e => absurd rfl e), hB, fun e => absurd rfl e⟩
  · intro e
    have hr := row_rest (n := 1) h.2.1 (by omega)
    rw [show ((⟨sb, soff, none⟩ : Addr).add 1) = ⟨sb, soff + 1, none⟩ from rfl] at hr
    exact ⟨_, h.put _ _ hr (fun _ y hy => h.2.2 (by simp) y hy), hB, fun _ y hy => by cases hy; exact hx⟩

set_option maxRecDepth 20000 in
set_option maxHeartbeats 1000000 in
/-- Filled. -/
theorem r15Filled (b B : Nat) (bs : List Nat) (n : Int) (w : World) (h : ScrAt w b B bs) (hl : bs.length ≤ 1000000) (hB : B ≤ w.heap.size) :
    Calls Try.prog 26 #[.pointer (some ⟨b, 0, none⟩), .int .i64 n] w fun e w' => ∃ u, e = .returned (.tuple #[u, .int .i64 (filE bs n : Nat)]) ∧ OwnB w' w.heap.size u (filL bs n) ∧ ScrAt w' b B (filR bs n) ∧ Kept (fun x => x = b) w w' := by
  obtain ⟨i0, hi0, hz0, hz1, hz2⟩ := info_parts Try.info8s
  by_cases h1 : n < 0
  · have e1 : filE bs n = 1 := by unfold filE; rw [if_pos h1]
    have e2 : filL bs n = [] := by unfold filL; rw [e1]; rfl
    have e3 : filR bs n = bs := by unfold filR; rw [if_pos h1]
    rw [e1, e2, e3]
    clear e1 e2 e3
    have H := toHid h
    clear h
    go_enter Try.func26, Try.ntmps26
    go_wp2_with fail
    go_ret2
    exact ⟨_, rfl, OwnB.nil _ _, H.out, Kept.refl _ _⟩
  · obtain ⟨m, rfl⟩ := Int.eq_ofNat_of_zero_le (show 0 ≤ n by omega)
    have HE : Hid (filE bs (m : Int) = if (filN bs m).2.2 = true then 0 else 150) := by unfold Hid filE; rw [if_neg h1]; rfl
    have HR : Hid (filR bs (m : Int) = (filN bs m).2.1) := by unfold Hid filR; rw [if_neg h1]; rfl
    have HL : Hid (filL bs (m : Int) = if filE bs (m : Int) = 0 then (filN bs m).1 else []) := rfl
    have H := toHid h
    have hbB : b < B := by obtain ⟨_, _, hb, _⟩ := h; exact hb
    clear h
    go_enter Try.func26, Try.ntmps26
    go_wp2_with fail
    go_loopw [6] (fun out wr => ∃ (acc rest : List Nat) (K : Nat) (ao : Option Addr) (c : Nat), Hid (FilS bs m acc rest) ∧ Hid (acc.length = K) ∧ out = .slice ao K c ∧ K ≤ 1000000 ∧ Hid (K + rest.length ≤ bs.length) ∧ Hid (OwnB wr w.heap.size (.slice ao K c) acc) ∧ Hid (ScrAt wr b B rest) ∧ Hid (Kept (fun x => x = b) w wr)) (fun _ wr => scrLen b wr)
    case atStart => exact ⟨[], bs, 0, none, 0, FilS.start _ _, rfl, rfl, by omega, by unfold Hid; omega, OwnB.nil _ _, H.out, Kept.refl _ _⟩
    case round =>
      clear H
      obtain ⟨acc, rest, K, ao, c, HF, HKl, rfl, hK, HKr, HO, HS, HKp⟩ := hrel
      by_cases hKm : K < m
      · have g1 : (K : Int) < (m : Int) := by omega
        obtain ⟨sv, hS, _, hSx⟩ := HS.out
        have hc := hS.cell
        have hf := hS.free
        have H1 := toHid hS
        obtain ⟨so, L, cap, rfl, hL, hLc, hcm, hnn, hnum⟩ := hS.2.1.open
        cases rest with
        | nil =>
          obtain rfl : L = 0 := hL.out.symm
          have hsp := HF.out.spent (by rw [HKl.out]; exact hKm)
          have e1 : filE bs (m : Int) = 150 := by rw [HE.out, hsp]; rfl
          have e2 : filL bs (m : Int) = [] := by rw [HL.out, e1]; rfl
          have e3 : filR bs (m : Int) = [] := by rw [HR.out, hsp]
          have HE1 := toHid e1
          have HE2 := toHid e2
          have HE3 := toHid e3
          clear hsp e1 e2 e3 hS hSx hnum
          go_wp2_with fail
          go_ret2
          rw [HE1.out, HE2.out, HE3.out]
          exact ⟨_, rfl, OwnB.nil _ _, HS.out, HKp.out⟩
        | cons x r =>
          have hLp : r.length + 1 = L := hL.out
          obtain ⟨sb, soff, rfl, hcx⟩ := hnum 0 (by omega)
          have hsbB : sb < B := hSx (by simp) sb rfl
          have hcx' : wr.cell? ⟨sb, soff, none⟩ = some (.int .u8 (x : Nat)) := hcx
          have g2 : ¬ (L : Int) = 0 := by omega
          have g3 : (0 : Int) < (L : Int) := by omega
          have g4 : (1 : Int) ≤ (L : Int) := by omega
          have g5 : (L : Int) ≤ (cap : Int) := by omega
          have g6 : 1 ≤ L := by omega
          have hwb : w.heap.size ≤ wr.heap.size := HKp.out.size
          clear hnum hS hSx hcx
          by_cases hx0 : x = 0
          · subst hx0
            have HF2 := toHid (HF.out.none (by rw [HKl.out]; exact hKm))
            have HN := toHid (H1.out.next hbB hsbB)
            have HKS := toHid fun u => HKp.out.setCell ⟨b, 0, none⟩ (fun _ => rfl) u
            have HOS := toHid fun u => HO.out.kept ((Kept.refl (fun x => x = b) wr).setCell ⟨b, 0, none⟩ (fun _ => rfl) u) (fun y hy e => by
              have e' : y = b := e
              omega)
            by_cases hcap : cap = 1
            · have HN2 := toHid (HN.out.1 hcap)
              subst hcap
              clear HN
              go_wp2_with fail
              go_roundw
              case rel => exact ⟨acc, r, K, _, _, HF2.out, HKl.out, rfl, hK, by unfold Hid; have := HKr.out; simp at this; omega, HOS.out _, HN2.out, HKS.out _⟩
              case measure => rw [HN2.out.len, HS.out.len]; simp
            · have HN2 := toHid (HN.out.2 hcap)
              clear HN
              go_wp2_with fail
              go_roundw
              case rel => exact ⟨acc, r, K, _, _, HF2.out, HKl.out, rfl, hK, by unfold Hid; have := HKr.out; simp at this; omega, HOS.out _, HN2.out, HKS.out _⟩
              case measure => rw [HN2.out.len, HS.out.len]; simp
          · have gx : ¬ (x : Int) = 0 := by omega
            have HF2 := toHid (HF.out.one (by rw [HKl.out]; exact hKm) hx0)
            have ho : OwnN .u8 5 wr w.heap.size (.slice ao K c) K acc := by have := HO.out; unfold OwnB at this; rw [HKl.out] at this; exact this
            have hKb : K + 1 ≤ 1000000 := by have := HKr.out; simp at this; omega
            go_wp2_with (at_builtin; refine wpList_append_lies _ rfl _ _ 22 rfl w.heap.size 5 i0 _ 1 1 Try.underlying22 hi0 hz0 hz1 hz2 rfl (by omega) _ _ _ rfl (ho.alloc _) ⟨wr.heap.size, 0, none⟩ 1 1 [.int .u8 (x : Int)] rfl rfl (new1c wr _ _) (by simp [Value.oneCell']) (by omega) (by unfold maxLen; omega) (by omega) (by simp; omega) (wr.heap.size + 1) (by simp) ?_)
            intro gg c' w4 ho4 hg hat hgl
            have kk : Kept (fun y => w.heap.size ≤ y) wr w4 := ((Kept.refl _ wr).alloc _).grown hg (fun y hy hlt => (ho.lt y hy).1)
            have HO4 : Hid (OwnB w4 w.heap.size (.slice (some ⟨gg, 0, none⟩) (K + 1) c') (acc ++ [x])) := by
              refine OwnB.of (n := K + 1) ?_
              unfold OwnN
              rw [List.map_append]
              exact ho4
            have HKp4 : Hid (Kept (fun x => x = b) w w4) := (HKp.out.alloc _).grown hg (fun y hy hlt => by have := (ho.lt y hy).1; omega)
            have H4 : Hid (Scr w4 b (.slice (some ⟨sb, soff, none⟩) L cap) (x :: r)) := H1.out.kept kk (fun h => by
              have h' : w.heap.size ≤ b := h
              omega) (fun _ y hy h => by
              cases hy
              have h' : w.heap.size ≤ sb := h
              omega)
            have hc4 := H4.out.cell
            have hf4 := H4.out.free
            have HN := toHid (H4.out.next hbB hsbB)
            have HKS := toHid fun u => HKp4.out.setCell ⟨b, 0, none⟩ (fun _ => rfl) u
            have HOS := toHid fun u => HO4.out.kept ((Kept.refl (fun x => x = b) w4).setCell ⟨b, 0, none⟩ (fun _ => rfl) u) (fun y hy e => by
              have e' : y = b := e
              omega)
            clear ho ho4 hg hat hgl kk hc hf hcx' hLp
            by_cases hcap : cap = 1
            · have HN2 := toHid (HN.out.1 hcap)
              subst hcap
              clear HN
              go_wp2_with fail
              go_roundw
              case rel => exact ⟨acc ++ [x], r, K + 1, _, _, HF2.out, by unfold Hid; rw [List.length_append, HKl.out]; rfl, rfl, hKb, by unfold Hid; have := HKr.out; simp at this; omega, HOS.out _, HN2.out, HKS.out _⟩
              case measure => rw [HN2.out.len, HS.out.len]; simp
            · have HN2 := toHid (HN.out.2 hcap)
              clear HN
              go_wp2_with fail
              go_roundw
              case rel => exact ⟨acc ++ [x], r, K + 1, _, _, HF2.out, by unfold Hid; rw [List.length_append, HKl.out]; rfl, rfl, hKb, by unfold Hid; have := HKr.out; simp at this; omega, HOS.out _, HN2.out, HKS.out _⟩
              case measure => rw [HN2.out.len, HS.out.len]; simp
      · have g1 : ¬ (K : Int) < (m : Int) := by omega
        have hdn := HF.out.done (by rw [HKl.out]; exact hKm)
        have e1 : filE bs (m : Int) = 0 := by rw [HE.out, hdn]; rfl
        have e2 : filL bs (m : Int) = acc := by rw [HL.out, e1, hdn]; rfl
        have e3 : filR bs (m : Int) = rest := by rw [HR.out, hdn]
        have HE1 := toHid e1
        have HE2 := toHid e2
        have HE3 := toHid e3
        clear hdn e1 e2 e3
        go_wp2_with fail
        go_ret2
        rw [HE1.out, HE2.out, HE3.out]
        exact ⟨_, rfl, HO.out, HS.out, HKp.out⟩

end Go.Proofs.Ytegjdjfnpphipaa
