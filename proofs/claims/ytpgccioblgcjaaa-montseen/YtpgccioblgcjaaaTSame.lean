/- What trace.Same answers, for any two traces, nil ones too. -/
import Derived.Test.YtpgccioblgcjaaaLSame
namespace Go.Proofs.Ytpgccioblgcjaaa
open Go.RowKit

/-- Whether two lists of events are alike as traces. -/
def sameB (a b : List Ev) : Bool := decide (a.length = b.length) && (decide (evSum a = evSum b) && decide (a.take 1000 = b.take 1000))

theorem take_len (a : List Ev) : (a.take 1000).length < 1000000000000 := by rw [List.length_take]; omega

set_option maxHeartbeats 400000 in
theorem tSame (p q : Tr) (w : World) (hp : TrIn w p) (hq : TrIn w q) :
    Calls Try.prog 31 #[trPtr p, trPtr q] w fun r w' => r = .returned (.bool (sameB (trEvs p) (trEvs q))) ∧ Kept Nought w w' := by
  have m1 := tMany p w hp
  have m2 := tMany q w hq
  have s1 := tSum p w hp
  have s2 := tSum q w hq
  have e1 := tEvents p w hp
  have e2 := fun w' (hk : Kept Nought w w') => tEvents q w' (hq.grew hk)
  clear hp hq
  generalize trPtr p = P at *
  generalize trPtr q = Q at *
  generalize trEvs p = a at *
  generalize trEvs q = b at *
  clear p q
  by_cases h1 : a.length = b.length
  · have d1 : ((a.length : Int) == (b.length : Int)) = true := by simp [h1]
    by_cases h2 : evSum a = evSum b
    · have HR : Hid (sameB a b = decide (a.take 1000 = b.take 1000)) := by unfold Hid sameB; rw [decide_eq_true h1, decide_eq_true h2]; rfl
      have d2 : (evSum a == evSum b) = true := by simp [h2]
      clear h1 h2
      generalize evSum a = sa at *
      generalize evSum b = sb at *
      generalize a.length = na at *
      generalize b.length = nb at *
      go_enter Try.func31, Try.ntmps31
      go_wp2_with fail
      refine m1.mono ?_
      rintro e w' ⟨rfl, rfl⟩
      go_wp2_with fail
      refine m2.mono ?_
      rintro e w' ⟨rfl, rfl⟩
      go_wp2_with fail
      refine s1.mono ?_
      rintro e w' ⟨rfl, rfl⟩
      go_wp2_with fail
      refine s2.mono ?_
      rintro e w' ⟨rfl, rfl⟩
      go_wp2_with fail
      refine e1.mono ?_
      rintro e w1 ⟨v1, rfl, r1, _, k1⟩
      go_wp2_with fail
      refine (e2 _ k1).mono ?_
      rintro e w2 ⟨v2, rfl, r2, _, k2⟩
      go_wp2_with fail
      refine (tAlike v1 v2 _ _ w2 (r1.grew k2) r2 (take_len a)).mono ?_
      rintro e w3 ⟨rfl, k3⟩
      go_wp2
      go_ret
      rw [HR.out]
      exact ⟨rfl, (k1.trans k2).trans k3⟩
    · have HR : Hid (sameB a b = false) := by unfold Hid sameB; rw [decide_eq_true h1, decide_eq_false h2]; rfl
      have d2 : (evSum a == evSum b) = false := by simpa using h2
      clear h1 h2
      generalize evSum a = sa at *
      generalize evSum b = sb at *
      generalize a.length = na at *
      generalize b.length = nb at *
      go_enter Try.func31, Try.ntmps31
      go_wp2_with fail
      refine m1.mono ?_
      rintro e w' ⟨rfl, rfl⟩
      go_wp2_with fail
      refine m2.mono ?_
      rintro e w' ⟨rfl, rfl⟩
      go_wp2_with fail
      refine s1.mono ?_
      rintro e w' ⟨rfl, rfl⟩
      go_wp2_with fail
      refine s2.mono ?_
      rintro e w' ⟨rfl, rfl⟩
      go_wp2
      go_ret
      rw [HR.out]
      exact ⟨rfl, Kept.refl _ _⟩
  · have HR : Hid (sameB a b = false) := by unfold Hid sameB; rw [decide_eq_false h1]; rfl
    have d1 : ((a.length : Int) == (b.length : Int)) = false := by
      simp only [beq_eq_false_iff_ne]; omega
    clear h1
    generalize a.length = na at *
    generalize b.length = nb at *
    go_enter Try.func31, Try.ntmps31
    go_wp2_with fail
    refine m1.mono ?_
    rintro e w' ⟨rfl, rfl⟩
    go_wp2_with fail
    refine m2.mono ?_
    rintro e w' ⟨rfl, rfl⟩
    go_wp2
    go_ret
    rw [HR.out]
    exact ⟨rfl, Kept.refl _ _⟩

end Go.Proofs.Ytpgccioblgcjaaa
