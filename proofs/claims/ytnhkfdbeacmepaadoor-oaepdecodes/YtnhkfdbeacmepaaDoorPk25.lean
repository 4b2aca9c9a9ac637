/- Put together of: Oae1. -/
import Derived.Test.YtnhkfdbeacmepaaDoorPk21
import Derived.Test.YtnhkfdbeacmepaaDoorPk24

/- The plain side of layer 24 (package sconceref23): Room, Seal. -/
namespace Go.Proofs.YtnhkfdbeacmepaaDoor
open Go.RowKit

/-- What Room answers. -/
def rmE (h k : Int) : Nat := if hszN h = 0 then 130 else if k < 0 ∨ 1024 < k then 1 else if k < 2 * (hszN h : Int) + 2 then 232 else 0
def rmN (h k : Int) : Int := if rmE h k = 0 then k - 2 * (hszN h : Int) - 2 else 0

set_option maxRecDepth 20000 in
set_option maxHeartbeats 1000000 in
/-- Room. -/
theorem r23Room (h k : Int) (w : World) :
    Calls Tryd.prog 18 #[.int .i64 h, .int .i64 k] w fun e w' => e = .returned (.tuple #[.int .i64 (rmN h k), .int .i64 (rmE h k : Nat)]) ∧ Kept Nought w w' := by
  have J := r13Size h w
  have hz := hsz_le h
  have HE : Hid (rmE h k = if hszN h = 0 then 130 else if k < 0 ∨ 1024 < k then 1 else if k < 2 * (hszN h : Int) + 2 then 232 else 0) := rfl
  have HN : Hid (rmN h k = if rmE h k = 0 then k - 2 * (hszN h : Int) - 2 else 0) := rfl
  generalize hszN h = s at *
  generalize rmE h k = E at *
  generalize rmN h k = R at *
  by_cases c1 : s = 0
  · have HE1 : Hid (E = 130) := by unfold Hid; rw [HE.out, if_pos c1]
    have HR1 : Hid (R = 0) := by unfold Hid; rw [HN.out, if_neg (by rw [HE1.out]; omega)]
    subst c1
    clear HE HN
    go_enter Tryd.func18, Tryd.ntmps18
    go_wp2_with fail
    refine J.mono ?_
    rintro e w1 ⟨rfl, k1⟩
    clear J
    go_wp2_with fail
    go_ret2
    exact ⟨by rw [HE1.out, HR1.out]; rfl, k1⟩
  have g1 : ¬ (s : Int) = 0 := by omega
  by_cases c2 : k < 0 ∨ 1024 < k
  · have HE1 : Hid (E = 1) := by unfold Hid; rw [HE.out, if_neg c1, if_pos c2]
    have HR1 : Hid (R = 0) := by unfold Hid; rw [HN.out, if_neg (by rw [HE1.out]; omega)]
    clear HE HN
    by_cases c3 : k < 0
    · clear c2
      go_enter Tryd.func18, Tryd.ntmps18
      go_wp2_with fail
      refine J.mono ?_
      rintro e w1 ⟨rfl, k1⟩
      clear J
      go_wp2_with fail
      go_ret2
      exact ⟨by rw [HE1.out, HR1.out]; rfl, k1⟩
    · have g3 : k > 1024 := by omega
      have g3' : (1024 : Int) < k := by omega
      clear c2
      go_enter Tryd.func18, Tryd.ntmps18
      go_wp2_with fail
      refine J.mono ?_
      rintro e w1 ⟨rfl, k1⟩
      clear J
      go_wp2_with fail
      go_ret2
      exact ⟨by rw [HE1.out, HR1.out]; rfl, k1⟩
  have a1 : ¬ k < 0 := fun e => c2 (.inl e)
  have a2 : ¬ k > 1024 := fun e => c2 (.inr e)
  have a3 : ¬ (1024 : Int) < k := a2
  by_cases c3 : k < 2 * (s : Int) + 2
  · have HE1 : Hid (E = 232) := by unfold Hid; rw [HE.out, if_neg c1, if_neg c2, if_pos c3]
    have HR1 : Hid (R = 0) := by unfold Hid; rw [HN.out, if_neg (by rw [HE1.out]; omega)]
    clear HE HN c2
    go_enter Tryd.func18, Tryd.ntmps18
    go_wp2_with fail
    refine J.mono ?_
    rintro e w1 ⟨rfl, k1⟩
    clear J
    go_wp2_with fail
    go_ret2
    exact ⟨by rw [HE1.out, HR1.out]; rfl, k1⟩
  · have HE1 : Hid (E = 0) := by unfold Hid; rw [HE.out, if_neg c1, if_neg c2, if_neg c3]
    have HR1 : Hid (R = k - 2 * (s : Int) - 2) := by unfold Hid; rw [HN.out, if_pos HE1.out]
    clear HE HN c2
    go_enter Tryd.func18, Tryd.ntmps18
    go_wp2_with fail
    refine J.mono ?_
    rintro e w1 ⟨rfl, k1⟩
    clear J
    go_wp2_with fail
    go_ret2
    exact ⟨by rw [HE1.out, HR1.out]; rfl, k1⟩

theorem rm_zero {h k : Int} (hE : rmE h k = 0) : hszN h ≠ 0 ∧ 2 * (hszN h : Int) + 2 ≤ k ∧ k ≤ 1024 ∧ rmN h k = k - 2 * (hszN h : Int) - 2 := by
  have h0 := hE
  unfold rmE at hE
  split at hE
  · omega
  · next h1 =>
    split at hE
    · omega
    · next h2 =>
      split at hE
      · omega
      · next h3 =>
        refine ⟨h1, by omega, by omega, ?_⟩
        unfold rmN
        rw [if_pos h0]

theorem hsh_ok {h : Int} (hz : hszN h ≠ 0) : hshE h = 0 ∧ ∀ n : Nat, n ≤ 10000 → mskE h (n : Int) = 0 := by
  rcases hsz_cases h with ⟨rfl, _⟩ | ⟨rfl, _⟩ | ⟨rfl, _⟩ | ⟨_, _, _, e⟩
  · exact ⟨rfl, fun n hn => by unfold mskE; rw [if_neg hz, if_neg (by omega), if_neg (by omega)]⟩
  · exact ⟨rfl, fun n hn => by unfold mskE; rw [if_neg hz, if_neg (by omega), if_neg (by omega)]⟩
  · exact ⟨rfl, fun n hn => by unfold mskE; rw [if_neg hz, if_neg (by omega), if_neg (by omega)]⟩
  · exact absurd e hz

theorem mskN_len {h : Int} (hz : hszN h ≠ 0) (seed : List Nat) (n : Nat) : (mskN h seed n).length = n := by
  unfold mskN
  rw [List.length_take, mskL_length]
  have : n * 1 ≤ n * hszN h := Nat.mul_le_mul_left _ (by omega)
  omega

theorem mskN_digs (h : Int) (seed : List Nat) (n : Nat) : Digs 256 (mskN h seed n) := (mskL_digs h seed n).take n

theorem read_len {bs : List Nat} {n : Nat} (h : readE bs (n : Int) = 0) : (readL bs (n : Int)).length = n := by
  have h0 := h
  unfold readE at h
  split at h
  · omega
  · split at h
    · omega
    · next h2 =>
      unfold readL
      rw [if_pos h0, List.length_take]
      simp
      omega

theorem read_digs {bs : List Nat} {n : Int} (h : Digs 256 bs) : Digs 256 (readL bs n) := by
  unfold readL
  split
  · exact h.take _
  · exact Digs.nil _

theorem rep_digs (k : Nat) : Digs 256 (List.replicate k 0) := fun d hd => by rw [List.eq_of_mem_replicate hd]; omega

/-- The block that is masked. -/
def seD (h : Int) (lb ms : List Nat) (r : Nat) : List Nat := hshN h lb ++ List.replicate (r - ms.length) 0 ++ [1] ++ ms

/-- What Seal answers: the error, the bytes, what is left of the script. -/
def seE (h : Int) (ms bs : List Nat) (k : Int) : Nat := if rmE h k ≠ 0 then rmE h k else if (ms.length : Int) > rmN h k then 231 else readE bs (hszN h : Int)
def seX (h : Int) (lb ms bs : List Nat) (k : Int) : List Nat := xorN (seD h lb ms (rmN h k).toNat) (mskN h (readL bs (hszN h : Int)) (seD h lb ms (rmN h k).toNat).length)
def seL (h : Int) (lb ms bs : List Nat) (k : Int) : List Nat := if seE h ms bs k = 0 then [0] ++ xorN (readL bs (hszN h : Int)) (mskN h (seX h lb ms bs k) (hszN h)) ++ seX h lb ms bs k else []
def seR (h : Int) (ms bs : List Nat) (k : Int) : List Nat := if rmE h k ≠ 0 ∨ (ms.length : Int) > rmN h k then bs else readR bs (hszN h : Int)

set_option maxRecDepth 20000 in
set_option maxHeartbeats 4000000 in
/-- Seal. -/
theorem r23Seal (h : Int) (lo : Option Addr) (ll lc : Nat) (lb : List Nat) (mo : Option Addr) (M mc : Nat) (ms : List Nat) (k : Int) (b B : Nat) (bs : List Nat) (w : World) (hlb : Row .u8 w (.slice lo ll lc) lb) (dlb : Digs 256 lb) (hll : ll ≤ 1000000) (hm : Row .u8 w (.slice mo M mc) ms) (dm : Digs 256 ms) (hM : M ≤ 1000000) (hs : ScrAt w b B bs) (dbs : Digs 256 bs) (hl : bs.length ≤ 1000000) (hB : B ≤ w.heap.size) :
    Calls Tryd.prog 12 #[.int .i64 h, .slice lo ll lc, .slice mo M mc, .int .i64 k, .pointer (some ⟨b, 0, none⟩)] w fun e w' => ∃ u, e = .returned (.tuple #[u, .int .i64 (seE h ms bs k : Nat)]) ∧ OwnB w' w.heap.size u (seL h lb ms bs k) ∧ ScrAt w' b B (seR h ms bs k) ∧ Kept (fun x => x = b) w w' := by
  obtain ⟨_, _, _, e1, hML, -, -, -, -⟩ := hm.open
  cases e1
  obtain ⟨_, _, _, e1, hLL, -, -, -, -⟩ := hlb.open
  cases e1
  have HSC := toHid hs
  have J1 := r23Room h k w
  have JZ := toHid fun W => r13Size h W
  have JR := toHid fun W (kk : Kept Nought w W) (n : Int) => r15Read b B bs n W (hs.grew kk) (by omega)
  have HRM : Hid (∀ W, Kept (fun x => x = b) w W → Row .u8 W (.slice mo M mc) ms) := fun W kk => hm.kept' kk (fun hne x hx e => scr_apart8 hs hm hne x hx e)
  have HRL : Hid (∀ W, Kept (fun x => x = b) w W → Row .u8 W (.slice lo ll lc) lb) := fun W kk => hlb.kept' kk (fun hne x hx e => scr_apart8 hs hlb hne x hx e)
  have JS := toHid fun W (kk : Kept (fun x => x = b) w W) => r13Sum h (.slice lo ll lc) lb W (HRL.out W kk) dlb (by have := hLL.out; omega)
  have HML := toHid hML.out
  have HBW := toHid hB
  have hbw : b < w.heap.size := hs.lt
  have HDM := toHid dm
  have HDB := toHid dbs
  clear hs hm hlb dlb hLL hML hB hl dm dbs
  by_cases c1 : rmE h k = 0
  case neg =>
    have HE : Hid (seE h ms bs k = rmE h k) := by unfold Hid seE; rw [if_pos c1]
    have HL0 : Hid (seL h lb ms bs k = []) := by unfold Hid seL; rw [HE.out, if_neg c1]
    have HR0 : Hid (seR h ms bs k = bs) := by unfold Hid seR; rw [if_pos (.inl c1)]
    have g1 : ¬ ((rmE h k : Nat) : Int) = 0 := by omega
    generalize rmE h k = E at *
    generalize rmN h k = RN at *
    clear c1
    go_enter Tryd.func12, Tryd.ntmps12
    go_wp2_with fail
    refine J1.mono ?_
    rintro e w1 ⟨rfl, k1⟩
    clear J1
    go_wp2_with fail
    go_ret2
    exact ⟨_, by rw [HE.out]; rfl, by rw [HL0.out]; exact OwnB.nil _ _, by rw [HR0.out]; exact HSC.out.grew k1, k1.any⟩
  obtain ⟨hz, hk1, hk2, hrn⟩ := rm_zero c1
  obtain ⟨hhe, hme⟩ := hsh_ok hz
  have hz64 := hsz_le h
  obtain ⟨rn, hrn2⟩ : ∃ rn : Nat, rmN h k = (rn : Int) := ⟨(rmN h k).toNat, by omega⟩
  have hrb : rn ≤ 1024 := by omega
  have HE : Hid (seE h ms bs k = if M > rn then 231 else readE bs (hszN h : Int)) := by
    unfold Hid seE
    rw [if_neg (by omega), HML.out, hrn2]
    by_cases c : M > rn
    · rw [if_pos c, if_pos (by omega)]
    · rw [if_neg c, if_neg (by omega)]
  rw [c1, hrn2] at J1
  rw [hhe] at JS
  by_cases c2 : M > rn
  · have HE1 : Hid (seE h ms bs k = 231) := by unfold Hid; rw [HE.out, if_pos c2]
    have HL0 : Hid (seL h lb ms bs k = []) := by unfold Hid seL; rw [HE1.out]; rfl
    have HR0 : Hid (seR h ms bs k = bs) := by unfold Hid seR; rw [if_pos (.inr (by rw [HML.out, hrn2]; omega))]
    have g2 : (M : Int) > (rn : Int) := by omega
    have g2' : (rn : Int) < (M : Int) := by omega
    clear HE c1 c2 hrn hrn2
    go_enter Tryd.func12, Tryd.ntmps12
    go_wp2_with fail
    refine J1.mono ?_
    rintro e w1 ⟨rfl, k1⟩
    clear J1
    go_wp2_with fail
    go_ret2
    exact ⟨_, by rw [HE1.out]; rfl, by rw [HL0.out]; exact OwnB.nil _ _, by rw [HR0.out]; exact HSC.out.grew k1, k1.any⟩
  have g2 : ¬ (M : Int) > (rn : Int) := by omega
  have g2' : ¬ (rn : Int) < (M : Int) := by omega
  have HE2 : Hid (seE h ms bs k = readE bs (hszN h : Int)) := by unfold Hid; rw [HE.out, if_neg c2]
  have HR0 : Hid (seR h ms bs k = readR bs (hszN h : Int)) := by unfold Hid seR; rw [if_neg]; rintro (e | e); exact e c1; rw [HML.out, hrn2] at e; omega
  have HLL : Hid (seL h lb ms bs k = if seE h ms bs k = 0 then [0] ++ xorN (readL bs (hszN h : Int)) (mskN h (xorN (seD h lb ms rn) (mskN h (readL bs (hszN h : Int)) (seD h lb ms rn).length)) (hszN h)) ++ xorN (seD h lb ms rn) (mskN h (readL bs (hszN h : Int)) (seD h lb ms rn).length) else []) := by
    unfold Hid seL seX
    rw [hrn2]
    rfl
  have HDD : Hid (seD h lb ms rn = hshN h lb ++ List.replicate (rn - M) 0 ++ [1] ++ ms) := by unfold Hid seD; rw [HML.out]
  have HHL := toHid (hshN_length h lb)
  have HHD := toHid (hshN_digs h lb)
  have HME := toHid hme
  have HMK := toHid fun (seed : List Nat) (n : Nat) => mskN_len hz seed n
  have hRL := fun (e : readE bs (hszN h : Int) = 0) => read_len e
  have HRLN := toHid hRL
  have HRDG : Hid (Digs 256 (readL bs (hszN h : Int))) := read_digs HDB.out
  have hrs : rn + 2 * hszN h + 2 ≤ 1024 := by omega
  clear HE c1 hrn hrn2 hhe hme hRL hk1 hk2
  generalize hszN h = s at *
  generalize hshN h lb = hs0 at *
  go_enter Tryd.func12, Tryd.ntmps12
  go_wp2_with fail
  refine J1.mono ?_
  rintro e w1 ⟨rfl, k1⟩
  have HK1 := toHid k1
  have hS := JZ.out w1
  clear J1 k1
  go_wp2_with fail
  refine hS.mono ?_
  rintro e w2 ⟨rfl, k2⟩
  have HK2 := toHid (HK1.out.trans k2)
  have hR := JR.out w2 HK2.out (s : Int)
  clear hS k2 JZ JR
  go_wp2_with fail
  refine hR.mono ?_
  rintro e w3 ⟨u3, rfl, o3, s3, k3⟩
  have HK3 : Hid (Kept (fun x => x = b) w w3) := HK2.out.any.trans k3
  have HS3 := toHid s3
  have hw23 := HK2.out.size
  have HO3 := toHid o3
  obtain ⟨so, sn, sc, rfl, hsn, -, -, -, -⟩ := o3.row.open
  have HR3 := toHid o3.row
  clear hR o3 s3 k3
  by_cases c3 : readE bs (s : Int) = 0
  case neg =>
    have HL0 : Hid (seL h lb ms bs k = []) := by unfold Hid; rw [HLL.out, HE2.out, if_neg c3]
    have g3 : ¬ ((readE bs (s : Int) : Nat) : Int) = 0 := by omega
    generalize readE bs (s : Int) = E at *
    clear c3
    go_wp2_with fail
    go_ret2
    exact ⟨_, by rw [HE2.out]; rfl, by rw [HL0.out]; exact OwnB.nil _ _, by rw [HR0.out]; exact HS3.out, HK3.out⟩
  have hln := HRLN.out c3
  have HE0 : Hid (seE h ms bs k = 0) := HE2.out.trans c3
  have HL1 : Hid (seL h lb ms bs k = [0] ++ xorN (readL bs (s : Int)) (mskN h (xorN (seD h lb ms rn) (mskN h (readL bs (s : Int)) (seD h lb ms rn).length)) s) ++ xorN (seD h lb ms rn) (mskN h (readL bs (s : Int)) (seD h lb ms rn).length)) := by unfold Hid; rw [HLL.out, if_pos HE0.out]
  rw [c3]
  have hsn2 : sn = s := by have := hsn.out; omega
  subst hsn2
  generalize readL bs (sn : Int) = seed at *
  generalize readE bs (sn : Int) = zE at *
  obtain ⟨A1, hA1⟩ : ∃ A1 : List Nat, A1 = [1] := ⟨_, rfl⟩
  obtain ⟨A0, hA0⟩ : ∃ A0 : List Nat, A0 = [0] := ⟨_, rfl⟩
  have HN1 : Hid (∀ W : World, OwnB (W.alloc (.cells #[.int .u8 1] 5)) W.heap.size (.slice (some ⟨W.heap.size, 0, none⟩) 1 1) A1) := fun W => own_lit8 W A1 _ (by rw [hA1]; rfl) 1 (by rw [hA1]; rfl) (by omega) (by omega)
  have HN0 : Hid (∀ W : World, OwnB (W.alloc (.cells #[.int .u8 0] 5)) W.heap.size (.slice (some ⟨W.heap.size, 0, none⟩) 1 1) A0) := fun W => own_lit8 W A0 _ (by rw [hA0]; rfl) 1 (by rw [hA0]; rfl) (by omega) (by omega)
  have HA1 : Hid (A1.length = 1 ∧ Digs 256 A1) := by unfold Hid; rw [hA1]; exact ⟨rfl, fun d hd => by rw [List.mem_singleton.1 hd]; omega⟩
  have HA0 : Hid (A0.length = 1) := by unfold Hid; rw [hA0]; rfl
  rw [← hA0] at HL1
  rw [← hA1] at HDD
  have hSum := JS.out w3 HK3.out
  clear HLL HRLN HE2 c3 hsn hA1 hA0 JS
  go_wp2_with fail
  refine hSum.mono ?_
  rintro e w4 ⟨u4, rfl, o4, k4⟩
  have HK4 := toHid k4
  have HO4 := toHid o4
  have hw4 := k4.size
  obtain ⟨do4, dn4, dc4, rfl, hdn4, -, -, -, -⟩ := o4.row.open
  have HDN4 : Hid (dn4 = sn) := by unfold Hid; have := hdn4.out; have := HHL.out; omega
  clear hSum k4 o4 hdn4
  obtain ⟨rm, hrm⟩ : ∃ rm, rm = rn - M := ⟨_, rfl⟩
  have grm : (rn : Int) - (M : Int) = (rm : Int) := by omega
  rw [← hrm] at HDD
  have hrmb : rm ≤ rn := by omega
  have hrmM : rm + M = rn := by omega
  have HRMM := toHid hrmM
  clear hrm hrmM
  go_wp2_with (at_builtin; refine wpList_append_make rfl _ _ rfl w3.heap.size _ hs0 rfl HO4.out rm ?qx ?qa ?qb ?_)
  case qx => first | rfl | (rw [← grm]; rfl)
  case qa => have := HHL.out; omega
  case qb => omega
  intro l5 ao5 n5 c5 w5 e5 f5 ho5 kk5
  have k5 : Kept Nought w3 w5 := HK4.out.next kk5 (fun x hx (h : w3.heap.size ≤ x) => by omega)
  have HO5 := toHid ho5
  have HK5 := toHid k5
  have hs5 := k5.size
  have hn5 : n5 = sn + rm := by have h1 := f5.out; rw [e5.out, List.length_append, List.length_replicate, HHL.out] at h1; omega
  have HN5 := toHid hn5
  clear hn5
  clear ho5 kk5 k5
  go_wp2_with (at_builtin; refine wpList_append_nm rfl _ _ rfl w3.heap.size _ l5 rfl (HO5.out.grew ((Kept.refl Nought w5).alloc _)) _ rfl A1 (HN1.out w5).row ?qc ?qd ?_)
  case qc => have := f5.out; have := HA1.out.1; have := HN5.out; omega
  case qd => simp; omega
  intro l6 ao6 n6 c6 w6 e6 f6 ho6 kk6
  have k6 : Kept Nought w3 w6 := (HK5.out.alloc _).next kk6 (fun x hx (h : w3.heap.size ≤ x) => by omega)
  have HO6 := toHid ho6
  have HK6 := toHid k6
  have hs6 := k6.size
  have hn6 : n6 = n5 + 1 := by have h1 := f6.out; rw [e6.out, List.length_append, f5.out, HA1.out.1] at h1; omega
  have HN6 : Hid (n6 = sn + rm + 1) := by unfold Hid; have := HN5.out; omega
  clear hn6
  clear ho6 kk6 k6
  go_wp2_with (at_builtin; refine wpList_append_nm rfl _ _ rfl w3.heap.size _ l6 rfl HO6.out _ rfl ms ?qe ?qf hs6 ?_)
  case qe => exact (HRM.out w3 HK3.out).grew HK6.out
  case qf => have := f6.out; have := HML.out; have := HN6.out; omega
  intro l7 ao7 n7 c7 w7 e7 f7 ho7 kk7
  have k7 : Kept Nought w3 w7 := HK6.out.next kk7 (fun x hx (h : w3.heap.size ≤ x) => by omega)
  have HO7 := toHid ho7.row
  have HK7 := toHid k7
  have HL7 : Hid (seD h lb ms rn = l7) := by unfold Hid; rw [HDD.out, e7.out, e6.out, e5.out]
  have hn7 : n7 = n6 + M := by have := HRMM.out; have h1 := f7.out; rw [e7.out, List.length_append, f6.out, HML.out] at h1; omega
  have hb7 : n7 ≤ 1024 := by have := HN6.out; have := HRMM.out; omega
  clear hn7
  have HD7 : Hid (Digs 256 l7) := by unfold Hid; rw [e7.out, e6.out, e5.out]; exact ((HHD.out.app (rep_digs _)).app HA1.out.2).app HDM.out
  rw [HL7.out, f7.out] at HL1
  have hMk := r13Mask h (.slice so sn sc) seed n7 w7 (HR3.out.grew k7) HRDG.out (by omega) (HME.out n7 (by have := HRMM.out; omega))
  clear ho7 kk7 k7 HO4 HO5 HO6 HN1 HDD HHL HHD
  go_wp2_with fail
  refine hMk.mono ?_
  rintro e w8 ⟨u8, rfl, o8, k8⟩
  have HK8 := toHid (HK7.out.trans k8)
  have hXo := r13Xor (.slice ao7 n7 c7) u8 l7 (mskN h seed n7) w8 (HO7.out.grew k8) o8.row HD7.out (mskN_digs _ _ _) (by have := f7.out; omega)
  obtain ⟨xo8, xn8, xc8, rfl, -, -, -, -, -⟩ := o8.row.open
  clear hMk k8 o8
  go_wp2_with fail
  refine hXo.mono ?_
  rintro e w9 ⟨u9, rfl, o9, k9⟩
  have HK9 := toHid (HK8.out.trans k9)
  obtain ⟨X9, hX9⟩ : ∃ X9, X9 = xorN l7 (mskN h seed n7) := ⟨_, rfl⟩
  rw [← hX9] at o9 HL1
  have HX9L : Hid (X9.length = n7) := by unfold Hid; rw [hX9, xorN_length]; exact f7.out
  have HX9D : Hid (Digs 256 X9) := by unfold Hid; rw [hX9]; exact xorN_digs HD7.out (mskN_digs _ _ _)
  have hMk2 := r13Mask h u9 X9 sn w9 o9.row HX9D.out (by have := HX9L.out; omega) (HME.out sn (by omega))
  have HR9 := toHid o9.row
  obtain ⟨xo9, xn9, xc9, rfl, hxn9, -, -, -, -⟩ := o9.row.open
  clear hXo k9 o9 hX9
  go_wp2_with fail
  refine hMk2.mono ?_
  rintro e w10 ⟨u10, rfl, o10, k10⟩
  have HK10 := toHid (HK9.out.trans k10)
  have HR10 := toHid (HR9.out.grew k10)
  have ka : Kept Nought w10 (w10.alloc (.cells #[.int .u8 0] 5)) := (Kept.refl Nought w10).alloc _
  have hXo2 := r13Xor (.slice so sn sc) u10 seed (mskN h X9 sn) (w10.alloc (.cells #[.int .u8 0] 5)) ((HR3.out.grew HK10.out).grew ka) (o10.row.grew ka) HRDG.out (mskN_digs _ _ _) (by omega)
  obtain ⟨xo10, xn10, xc10, rfl, -, -, -, -, -⟩ := o10.row.open
  have HKa := toHid ka
  clear hMk2 k10 o10 ka
  go_wp2_with fail
  refine hXo2.mono ?_
  rintro e w11 ⟨u11, rfl, o11, k11⟩
  have HK11 : Hid (Kept Nought w10 w11) := HKa.out.trans k11
  obtain ⟨Y, hY⟩ : ∃ Y, Y = xorN seed (mskN h X9 sn) := ⟨_, rfl⟩
  rw [← hY] at o11 HL1
  have HYL : Hid (Y.length = sn) := by unfold Hid; rw [hY, xorN_length]; exact hln
  have HR11 := toHid o11.row
  obtain ⟨xo11, xn11, xc11, rfl, -, -, -, -, -⟩ := o11.row.open
  have HO12 := toHid ((HN0.out w10).grew k11)
  have hs11 := HK11.out.size
  clear hXo2 k11 o11 hY
  go_wp2_with (at_builtin; refine wpList_append_nm rfl _ _ rfl w10.heap.size _ A0 rfl HO12.out _ rfl Y HR11.out ?qg hs11 ?_)
  case qg => have := HYL.out; have := HA0.out; omega
  intro l12 ao12 n12 c12 w12 e12 f12 ho12 kk12
  have k12 : Kept Nought w10 w12 := HK11.out.next kk12 (fun x hx (h : w10.heap.size ≤ x) => by omega)
  have HO12' := toHid ho12
  have HK12 := toHid k12
  have hs12 := k12.size
  have hl12 : l12.length = sn + 1 := by rw [e12.out, List.length_append, HYL.out, HA0.out]; omega
  have HLL12 := toHid hl12
  clear ho12 kk12 k12 HO12 hl12
  go_wp2_with (at_builtin; refine wpList_append_nm rfl _ _ rfl w10.heap.size _ l12 rfl HO12'.out _ rfl X9 ?qh ?qi hs12 ?_)
  case qh => exact HR10.out.grew HK12.out
  case qi => have := HX9L.out; have := HLL12.out; omega
  intro l13 ao13 n13 c13 w13 e13 f13 ho13 kk13
  have k13 : Kept Nought w10 w13 := HK12.out.next kk13 (fun x hx (h : w10.heap.size ≤ x) => by omega)
  have HF : Hid (OwnB w13 w.heap.size (.slice ao13 n13 c13) (seL h lb ms bs k)) := by
    unfold Hid
    rw [HL1.out, ← e12.out, ← e13.out]
    exact ho13.base (Nat.le_trans HK3.out.size HK10.out.size)
  have HKF : Hid (Kept Nought w3 w13) := HK10.out.trans k13
  clear ho13 kk13 k13
  go_wp2_with fail
  go_ret2
  exact ⟨_, by rw [HE0.out]; rfl, HF.out, by rw [HR0.out]; exact HS3.out.kept HKF.out (fun _ _ f => f), HK3.out.next HKF.out (fun _ _ f => f.elim)⟩

end Go.Proofs.YtnhkfdbeacmepaaDoor

