/- Layer 13 (hash): the names' table, Size, Name, Of, Prefix; the laws' first test. -/
import Derived.Test.YtlbipidofehddaaDoorHsh3
import Derived.Lib.LaidU8
namespace Go.Proofs.YtlbipidofehddaaDoor
open Go.RowKit

/-- The package's names, as they lie in memory. -/
structure Tab13 (w : World) : Prop where
  names : ∀ i : Nat, i < 4 → w.cell? ⟨0, i, none⟩ = some (.string (hnmN (i : Int)))

theorem Tab13.grew {w w' : World} (h : Tab13 w) (k : Kept Nought w w') : Tab13 w' := ⟨fun i hi => k.cellN (h.names i hi)⟩

theorem bytes_data {a b : ByteArray} (h : a.data.toList = b.data.toList) : a = b := by
  cases a with
  | mk x =>
    cases b with
    | mk y =>
      cases x
      cases y
      simp at h
      subst h
      rfl

theorem tab13_of {w : World} (h : Lib.VarReads Tryd.prog w "sconce/hash.names" (.agg ([0, 1, 2, 3].map fun i : Int => .lit (.string (hnmN i).data.toList)))) : Tab13 w := by
  refine ⟨fun i hi => ?_⟩
  obtain ⟨g, t, cs, fuel, p, hg, ht, hv, hd⟩ := h
  obtain rfl := Option.some.inj ((show Tryd.prog.globalNamed "sconce/hash.names" = some 0 by kernel_rfl).symm.trans hg)
  obtain rfl := Option.some.inj ((show (Tryd.prog.globals[0]?).map (·.type) = some 39 by kernel_rfl).symm.trans ht)
  obtain ⟨f', d, q, hdi, he⟩ := Lib.array_elem Tryd.underlying39 hd i hi
  rw [show Tryd.prog.cellsOf 9 = 1 by kernel_rfl, Nat.mul_one] at he
  obtain ⟨s, hs, hx, _⟩ := DataW.trod_string Tryd.underlying9 he
  have hcell : cs.toList[i]? = some (.string s) := by
    have := congrArg (·[0]?) hs
    simpa [List.getElem?_take, List.getElem?_drop] using this
  rw [World.var?_cell hg hv i, ← Array.getElem?_toList, hcell]
  have hd' : d = .lit (.string (hnmN (i : Int)).data.toList) := by
    obtain rfl | rfl | rfl | rfl : i = 0 ∨ i = 1 ∨ i = 2 ∨ i = 3 := by omega
    all_goals exact (Option.some.inj hdi).symm
  have e := (congrArg Prod.fst hx).symm.trans hd'
  injection e with e
  injection e with e
  rw [bytes_data e]

/-- Whether a text is the name at a number. -/
def nmB (i : Nat) (s : ByteArray) : Bool := (hnmN (i : Int)).toList == s.toList

theorem nmB_uniq {i j : Nat} {s : ByteArray} (hi : i < 4) (hj : j < 4) (h1 : nmB i s = true) (h2 : nmB j s = true) : i = j := by
  have e : (hnmN (i : Int)).data.toList = (hnmN (j : Int)).data.toList := by
    unfold nmB at h1 h2
    have a := eq_of_beq h1
    have b := eq_of_beq h2
    rw [Lib.toList_data] at a b
    rw [a, b]
  obtain rfl | rfl | rfl | rfl : i = 0 ∨ i = 1 ∨ i = 2 ∨ i = 3 := by omega
  all_goals
    obtain rfl | rfl | rfl | rfl : j = 0 ∨ j = 1 ∨ j = 2 ∨ j = 3 := by omega
    all_goals first | rfl | (revert e; decide)

/-- The number of a name. -/
def ofN (s : ByteArray) : Nat := if nmB 1 s = true then 1 else if nmB 2 s = true then 2 else if nmB 3 s = true then 3 else 0

theorem ofN_hit {i : Nat} {s : ByteArray} (hi : i < 4) (h : nmB i s = true) : ofN s = i := by
  unfold ofN
  by_cases h1 : nmB 1 s = true
  · rw [if_pos h1]
    exact nmB_uniq (by omega) hi h1 h
  · rw [if_neg h1]
    by_cases h2 : nmB 2 s = true
    · rw [if_pos h2]
      exact nmB_uniq (by omega) hi h2 h
    · rw [if_neg h2]
      by_cases h3 : nmB 3 s = true
      · rw [if_pos h3]
        exact nmB_uniq (by omega) hi h3 h
      · rw [if_neg h3]
        obtain rfl | rfl | rfl | rfl : i = 0 ∨ i = 1 ∨ i = 2 ∨ i = 3 := by omega
        · rfl
        · exact absurd h h1
        · exact absurd h h2
        · exact absurd h h3

theorem ofN_none {s : ByteArray} (h : ∀ i, i < 4 → nmB i s = false) : ofN s = 0 := by
  unfold ofN
  rw [if_neg (by rw [h 1 (by omega)]; decide), if_neg (by rw [h 2 (by omega)]; decide), if_neg (by rw [h 3 (by omega)]; decide)]

theorem ofN_sha512 : ofN ⟨#[115, 104, 97, 53, 49, 50]⟩ = 3 := ofN_hit (by omega) (by unfold nmB; exact beq_self_eq_true _)

set_option maxRecDepth 20000 in
set_option maxHeartbeats 1000000 in
/-- Size. -/
theorem z13Size (h : Int) (w : World) :
    Calls Tryd.prog 10 #[.int .i64 h] w fun e w' => e = .returned (.int .i64 (hszN h : Nat)) ∧ Kept Nought w w' := by
  rcases hsz_cases h with ⟨rfl, e⟩ | ⟨rfl, e⟩ | ⟨rfl, e⟩ | ⟨h1, h2, h3, e⟩
  all_goals
    rw [e]
    clear e
    go_enter Tryd.func10, Tryd.ntmps10
    go_wp2_with fail
    go_ret
    exact ⟨rfl, by first | exact Kept.refl _ _ | exact (Kept.refl _ _).drew⟩

theorem hnm_none {h : Int} (h1 : h ≠ 1) (h2 : h ≠ 2) (h3 : h ≠ 3) : hnmN h = ⟨#[]⟩ := by
  unfold hnmN
  rw [if_neg h1, if_neg h2, if_neg h3]

set_option maxRecDepth 20000 in
set_option maxHeartbeats 1000000 in
/-- Name. -/
theorem z13Name (h : Int) (w : World) (hT : Tab13 w) :
    Calls Tryd.prog 12 #[.int .i64 h] w fun e w' => e = .returned (.string (hnmN h)) ∧ Kept Nought w w' := by
  by_cases h0 : h < 0
  · rw [hnm_none (by omega) (by omega) (by omega)]
    clear hT
    go_enter Tryd.func12, Tryd.ntmps12
    go_wp2_with fail
    go_ret
    exact ⟨rfl, by first | exact Kept.refl _ _ | exact (Kept.refl _ _).drew⟩
  · by_cases h4 : h ≥ 4
    · rw [hnm_none (by omega) (by omega) (by omega)]
      clear hT
      go_enter Tryd.func12, Tryd.ntmps12
      go_wp2_with fail
      go_ret
      exact ⟨rfl, by first | exact Kept.refl _ _ | exact (Kept.refl _ _).drew⟩
    · obtain ⟨k, rfl⟩ : ∃ k : Nat, h = (k : Int) := ⟨h.toNat, by omega⟩
      have hc := hT.names k (by omega)
      generalize hnmN (k : Int) = S at *
      have g1 : (k : Int) < 4 := by omega
      have g0 : (0 : Int) ≤ (k : Int) := by omega
      have gk : k < 4 := by omega
      clear hT
      go_enter Tryd.func12, Tryd.ntmps12
      go_wp2_with fail
      go_ret
      exact ⟨rfl, by first | exact Kept.refl _ _ | exact (Kept.refl _ _).drew⟩

set_option maxRecDepth 20000 in
set_option maxHeartbeats 1000000 in
/-- Of. -/
theorem z13Of (s : ByteArray) (w : World) (hT : Tab13 w) :
    Calls Tryd.prog 14 #[.string s] w fun e w' => e = .returned (.int .i64 (ofN s : Nat)) ∧ Kept Nought w w' := by
  have c0 := hT.names 0 (by omega)
  have c1 := hT.names 1 (by omega)
  have c2 := hT.names 2 (by omega)
  have c3 := hT.names 3 (by omega)
  have HU : Hid (∀ i, i < 4 → nmB i s = true → ofN s = i) := fun i hi h => ofN_hit hi h
  have HN : Hid ((∀ i, i < 4 → nmB i s = false) → ofN s = 0) := fun h => ofN_none h
  have b0 : nmB 0 s = ((hnmN ((0 : Nat) : Int)).toList == s.toList) := rfl
  have b1 : nmB 1 s = ((hnmN ((1 : Nat) : Int)).toList == s.toList) := rfl
  have b2 : nmB 2 s = ((hnmN ((2 : Nat) : Int)).toList == s.toList) := rfl
  have b3 : nmB 3 s = ((hnmN ((3 : Nat) : Int)).toList == s.toList) := rfl
  generalize hnmN ((0 : Nat) : Int) = n0 at *
  generalize hnmN ((1 : Nat) : Int) = n1 at *
  generalize hnmN ((2 : Nat) : Int) = n2 at *
  generalize hnmN ((3 : Nat) : Int) = n3 at *
  generalize ofN s = R at *
  obtain ⟨B, hB⟩ : ∃ B : Nat → Bool, B = fun i => nmB i s := ⟨_, rfl⟩
  have HU : Hid (∀ i, i < 4 → B i = true → R = i) := by rw [hB]; exact HU.out
  have HN : Hid ((∀ i, i < 4 → B i = false) → R = 0) := by rw [hB]; exact HN.out
  have H0 : Hid ((n0.toList == s.toList) = B 0) := by unfold Hid; rw [hB, ← b0]
  have H1 : Hid ((n1.toList == s.toList) = B 1) := by unfold Hid; rw [hB, ← b1]
  have H2 : Hid ((n2.toList == s.toList) = B 2) := by unfold Hid; rw [hB, ← b2]
  have H3 : Hid ((n3.toList == s.toList) = B 3) := by unfold Hid; rw [hB, ← b3]
  clear b0 b1 b2 b3 hB hT
  go_enter Tryd.func14, Tryd.ntmps14
  go_wp2_with fail
  go_loopw [6] (fun iv wr => ∃ k : Nat, k ≤ 4 ∧ iv = .int .i64 (k : Int) ∧ Hid (∀ i, i < k → B i = false) ∧ Hid (Kept Nought w wr)) (fun iv _ => 4 - (intOf iv).toNat)
  case atStart => exact ⟨0, by omega, rfl, fun i hi => absurd hi (Nat.not_lt_zero i), by first | exact Kept.refl _ _ | exact (Kept.refl _ _).drew⟩
  case round =>
    obtain ⟨k, hk, rfl, HF, HK⟩ := hrel
    by_cases hk4 : k < 4
    · obtain ⟨nk, hidx, hbk⟩ : ∃ nk : ByteArray, (∀ W, Sem.run Tryd.prog (Instr.index 39 (.agg #[.string n0, .string n1, .string n2, .string n3]) (.int .i64 (k : Int))) W = .ok (.string nk) W) ∧ (nk.toList == s.toList) = B k := by
        obtain rfl | rfl | rfl | rfl : k = 0 ∨ k = 1 ∨ k = 2 ∨ k = 3 := by omega
        · exact ⟨n0, fun W => (by first | rfl | (change _ = _; kernel_rfl)), H0.out⟩
        · exact ⟨n1, fun W => (by first | rfl | (change _ = _; kernel_rfl)), H1.out⟩
        · exact ⟨n2, fun W => (by first | rfl | (change _ = _; kernel_rfl)), H2.out⟩
        · exact ⟨n3, fun W => (by first | rfl | (change _ = _; kernel_rfl)), H3.out⟩
      have g1 : (k : Int) < 4 := by omega
      have g0 : (0 : Int) ≤ (k : Int) := by omega
      by_cases hb : B k = true
      · have q := hbk.trans hb
        have HR := toHid (HU.out k (by omega) hb)
        clear hb hbk
        go_wp2_with fail
        go_ret
        exact ⟨by rw [HR.out]; rfl, HK.out⟩
      · have hb' := Bool.eq_false_iff.2 hb
        have q := hbk.trans hb'
        have HB := toHid hb'
        clear hb hbk hb'
        go_wp2_with fail
        go_roundw
        case rel => exact ⟨k + 1, by omega, by go_num, (fun i hi => by
          by_cases h : i = k
          · subst h
            exact HB.out
          · exact HF.out i (by omega)), HK.out⟩
        case measure => simp [intOf]; omega
    · obtain rfl : k = 4 := by omega
      have HR := toHid (HN.out HF.out)
      have g1 : ¬ ((4 : Nat) : Int) < 4 := by omega
      go_wp2_with fail
      go_ret
      exact ⟨by rw [HR.out]; rfl, HK.out⟩

set_option maxRecDepth 20000 in
set_option maxHeartbeats 1000000 in
/-- Prefix. -/
theorem z13Prefix (h : Int) (w : World) :
    Calls Tryd.prog 15 #[.int .i64 h] w fun e w' => ∃ v', e = .returned v' ∧ OwnB w' w.heap.size v' (preN h) ∧ Kept Nought w w' := by
  have J := fun W => z13Size h W
  rcases hsz_cases h with ⟨rfl, e⟩ | ⟨rfl, e⟩ | ⟨rfl, e⟩ | ⟨h1, h2, h3, e⟩
  case inr.inr.inr =>
    have hp : preN h = [] := by unfold preN; rw [e]; rfl
    rw [e] at J
    rw [hp]
    clear e hp
    go_enter Tryd.func15, Tryd.ntmps15
    go_wp2_with fail
    refine (J _).mono ?_
    rintro e w1 ⟨rfl, k1⟩
    clear J
    go_wp2_with fail
    go_ret
    exact ⟨_, rfl, OwnB.nil _ _, k1⟩
  all_goals
    rw [e] at J
    clear e
    go_enter Tryd.func15, Tryd.ntmps15
    go_wp2_with fail
    refine (J _).mono ?_
    rintro e w1 ⟨rfl, k1⟩
    clear J
    go_wp2_with fail
    go_ret
    exact ⟨_, rfl, OwnB.of (n := 19) (own_of_block (k := .u8) (zs := preN _) (heap_alloc_new w1 _) rfl (by unfold maxLen; decide) k1.size), k1.alloc _⟩

theorem pre_head : (preN 2).length = 19 ∧ (preN 2).getD 1 0 = 65 ∧ (preN 2).getD 14 0 = 2 ∧ (preN 2).getD 18 0 = 48 := by decide

set_option maxRecDepth 20000 in
set_option maxHeartbeats 1000000 in
/-- awake. -/
theorem awake13 (w : World) (hT : Tab13 w) :
    Calls Tryd.prog 6 #[] w fun e w' => e = .returned (.bool true) ∧ Kept Nought w w' := by
  have J1 : Hid (Calls Tryd.prog 15 #[.int .i64 2] w fun e w' => ∃ (b off cap : Nat), e = .returned (.slice (some ⟨b, off, none⟩) 19 cap) ∧ (w'.cell? ⟨b, off + 1, none⟩ = some (.int .u8 65) ∧ w'.cell? ⟨b, off + 14, none⟩ = some (.int .u8 2) ∧ w'.cell? ⟨b, off + 18, none⟩ = some (.int .u8 48)) ∧ Kept Nought w w') := by
    have h := z13Prefix 2 w
    obtain ⟨hl0, hl1, hl2, hl3⟩ := pre_head
    generalize preN 2 = zs at *
    refine h.mono ?_
    rintro e w' ⟨v', rfl, o, k2⟩
    obtain ⟨ao, n, cap, rfl, hL, _, _, _, hn⟩ := o.row.open
    obtain rfl : n = 19 := hL.out.symm.trans hl0
    obtain ⟨b, off, e1, c1⟩ := hn 1 (by omega)
    cases e1
    obtain ⟨_, _, e1, c2⟩ := hn 14 (by omega)
    cases e1
    obtain ⟨_, _, e1, c3⟩ := hn 18 (by omega)
    cases e1
    rw [hl1] at c1
    rw [hl2] at c2
    rw [hl3] at c3
    exact ⟨b, off, cap, rfl, ⟨c1, c2, c3⟩, k2⟩
  have J2 : Hid (∀ W, Kept Nought w W → Calls Tryd.prog 14 #[.string ⟨#[115, 104, 97, 53, 49, 50]⟩] W fun e w' => e = .returned (.int .i64 3) ∧ Kept Nought W w') := fun W k => by
    have h := z13Of ⟨#[115, 104, 97, 53, 49, 50]⟩ W (hT.grew k)
    rw [ofN_sha512] at h
    exact h
  clear hT
  go_enter Tryd.func6, Tryd.ntmps6
  go_wp2_with fail
  refine J1.out.mono ?_
  rintro e w1 ⟨b1, o1, c1, rfl, ⟨p0, p1, p2⟩, k1⟩
  clear J1
  go_wp2_with fail
  refine (J2.out _ k1).mono ?_
  rintro e w2 ⟨rfl, k2⟩
  have HK := toHid (k1.trans k2)
  clear k1 k2 J2
  go_wp2_with fail
  go_ret
  exact ⟨rfl, HK.out⟩

end Go.Proofs.YtlbipidofehddaaDoor
