/- Package nat: Parse, what stands ahead of its loop. -/
import Derived.Test.YtcdpmiheeenmmaaDoorNatR
namespace Go.Proofs.YtcdpmiheeenmmaaDoor
open Go.RowKit Go.Shelf

/-- Whether Show could write so many signs with that one ahead. -/
def mayB (s : ByteArray) : Bool := decide (s.size ≠ 0 ∧ s.size ≤ 4800 ∧ (s = { data := #[48] } ∨ s.data.toList.getD 0 0 ≠ 48))

set_option maxRecDepth 20000 in
theorem nMay (s : ByteArray) (R : Bool) (hR : mayB s = R) (w : World) (hs : s.size ≤ 1000000) : Calls Tryd.prog 48 #[.string s] w fun e w' => e = .returned (.bool R) ∧ w' = w := by
  by_cases h0 : s.size = 0
  · have e : R = false := by rw [← hR]; exact decide_eq_false (fun h => h.1 h0)
    rw [e]
    clear hR e
    go_enter Tryd.func48, Tryd.ntmps48
    go_wp2
    go_ret
    exact ⟨rfl, rfl⟩
  · by_cases h1 : s.size ≤ 4800
    · have h1' : ¬ (s.size : Int) > 4800 := by omega
      have h0' : ¬ (s.size : Int) = 0 := by omega
      by_cases hz : s = { data := #[48] }
      · subst hz
        have e : R = true := by rw [← hR]; decide +kernel
        rw [e]
        clear hR e h0 h0' h1 h1'
        go_enter Tryd.func48, Tryd.ntmps48
        go_wp2
        go_ret
        exact ⟨rfl, rfl⟩
      · have hlt : 0 < s.size := by omega
        have hget : s.data.toList.getD 0 0 = s[0] := by
          have := at_list s 0 hlt
          rw [ByteArray.toList_eq] at this
          rw [List.getD_eq_getElem?_getD, this]; rfl
        have hzl : ¬ s.toList = [48] := fun e => hz (by
          rw [ByteArray.toList_eq] at e
          cases s with
          | mk d =>
            cases d with
            | mk l => simp at e; subst e; rfl)
        have hzb : (s.toList == [48]) = false := by simpa using hzl
        by_cases hc : s[0] = 48
        · have e : R = false := by
            rw [← hR]
            refine decide_eq_false (fun h => ?_)
            rcases h.2.2 with h | h
            · exact hz h
            · rw [hget] at h; exact h hc
          rw [e]
          have hc' : ((s[0].toNat : Nat) : Int) = 48 := by rw [hc]; rfl
          have hcb : (((s[0].toNat : Nat) : Int) != 48) = false := by rw [hc']; rfl
          clear hR e hget hc
          go_enter Tryd.func48, Tryd.ntmps48
          go_wp2
          go_ret
          exact ⟨rfl, rfl⟩
        · have e : R = true := by
            rw [← hR]
            exact decide_eq_true ⟨h0, h1, .inr (by rw [hget]; exact hc)⟩
          rw [e]
          have hc' : ¬ ((s[0].toNat : Nat) : Int) = 48 := fun h => hc (UInt8.toNat_inj.1 (by show s[0].toNat = 48; omega))
          have hcb : (((s[0].toNat : Nat) : Int) != 48) = true := by simpa using hc'
          clear hR e hget hc
          go_enter Tryd.func48, Tryd.ntmps48
          go_wp2
          go_ret
          exact ⟨rfl, rfl⟩
    · have e : R = false := by rw [← hR]; exact decide_eq_false (fun h => h1 h.2.1)
      rw [e]
      have h1' : (s.size : Int) > 4800 := by omega
      have h0' : ¬ (s.size : Int) = 0 := by omega
      clear hR e
      go_enter Tryd.func48, Tryd.ntmps48
      go_wp2
      go_ret
      exact ⟨rfl, rfl⟩

theorem prefix_no {s : ByteArray} (h : Lib.hasPrefix s.data.toList [48, 120] = false) : parseOk s = false := by
  have : (s.extract 0 2).toList ≠ [48, 120] := by
    intro e
    rw [ByteArray.toList_eq, ByteArray.data_extract, Array.toList_extract] at e
    have hp : [48, 120] <+: s.data.toList := by
      refine ⟨s.data.toList.drop 2, ?_⟩
      have := List.take_append_drop 2 s.data.toList
      rw [show s.data.toList.take 2 = [48, 120] by simpa [List.extract] using e] at this
      exact this
    have := List.isPrefixOf_iff_prefix.2 hp
    unfold Lib.hasPrefix at h
    rw [this] at h
    cases h
  unfold parseOk parseHead
  simp [this]

theorem prefix_yes {s : ByteArray} (h : Lib.hasPrefix s.data.toList [48, 120] = true) : ∃ D, s.data.toList = 48 :: 120 :: D ∧ Lib.trimPrefix s.data.toList [48, 120] = D := by
  obtain ⟨D, hD⟩ := List.isPrefixOf_iff_prefix.1 (show [48, 120].isPrefixOf s.data.toList = true from h)
  refine ⟨D, hD.symm, ?_⟩
  unfold Lib.trimPrefix
  rw [if_pos h, ← hD]
  rfl

theorem parse_split {s : ByteArray} {D : List UInt8} (h : s.data.toList = 48 :: 120 :: D) : parseOk s = (mayB ⟨D.toArray⟩ && D.all isHex) ∧ s.toList.drop 2 = D := by
  have hl : s.toList = 48 :: 120 :: D := by rw [ByteArray.toList_eq]; exact h
  have hsz : s.size = D.length + 2 := by rw [size_list, h]; rfl
  have hD : (⟨D.toArray⟩ : ByteArray).size = D.length := by simp [ByteArray.size]
  have hex : (s.extract 0 2).toList = [48, 120] := by
    rw [ByteArray.toList_eq, ByteArray.data_extract, Array.toList_extract, h]
    simp [List.extract]
  refine ⟨?_, by rw [hl]; rfl⟩
  have hhead : parseHead s = mayB ⟨D.toArray⟩ := by
    unfold parseHead mayB
    rw [hl, hex, hsz, hD]
    have hone : ((⟨D.toArray⟩ : ByteArray) = { data := #[48] }) ↔ D = [48] := by
      constructor
      · intro e
        have := congrArg (fun b : ByteArray => b.data.toList) e
        simpa using this
      · intro e; rw [e]
    rw [Bool.eq_iff_iff]
    simp only [Bool.and_eq_true, decide_eq_true_eq, beq_iff_eq, Bool.not_eq_true', Bool.and_eq_false_iff, decide_eq_false_iff_not, hone]
    have hg : (48 :: 120 :: D).getD 2 0 = D.getD 0 0 := by simp [List.getD_eq_getElem?_getD]
    rw [hg]
    cases D with
    | nil => simp
    | cons c t =>
      simp only [List.length_cons, List.getD_cons_zero, List.cons.injEq, ne_eq]
      constructor
      · rintro ⟨⟨⟨h1, h2⟩, _⟩, h3⟩
        refine ⟨by omega, by omega, ?_⟩
        rcases h3 with h3 | h3
        · right
          intro e
          simp [e] at h3
        · by_cases e : c = 48
          · left
            exact ⟨e, List.eq_nil_of_length_eq_zero (by omega)⟩
          · exact .inr e
      · rintro ⟨_, h2, h3⟩
        refine ⟨⟨⟨by omega, by omega⟩, trivial⟩, ?_⟩
        rcases h3 with ⟨rfl, rfl⟩ | h3
        · right; simp
        · left; simpa using h3
  unfold parseOk
  rw [hhead, hl]
  rfl

end Go.Proofs.YtcdpmiheeenmmaaDoor
