/- The law HashSums, walked. -/
import Derived.Test.YtlbipidofehddaaDoorHas1
import Derived.Test.YtlbipidofehddaaDoorHas2
namespace Go.Proofs.YtlbipidofehddaaDoor
open Go.RowKit

/-- All tables of the law. -/
structure TabHS (w : World) : Prop where
  h : TabH w
  n : Tab13 w

set_option maxRecDepth 20000 in
set_option maxHeartbeats 2000000 in
theorem walkHashSums (h : Int) (v : Value) (bs : List Nat) (w : World) (hb : Row .u8 w v bs) (hbd : Digs 256 bs) (hTT : TabHS w) :
    Calls Tryd.prog 3 #[.int .i64 h, v] w fun e w' => e = .returned (.bool true) ∧ Below w.heap.size w w' := by
  have hT := hTT.h
  have hA := awake13 w hTT.n
  clear hTT
  obtain ⟨ao, n, cap, rfl, hL, _, _, _, _⟩ := hb.open
  by_cases hn : n ≤ 3000
  · have g1 : ¬ (n : Int) > 3000 := by omega
    have J1 : Hid (∀ W, Kept Nought w W → Calls Tryd.prog 7 #[.int .i64 h, .slice ao n cap] W fun e w' => ∃ v', e = .returned (.tuple #[v', .int .i64 (hshE h : Nat)]) ∧ Row .u8 w' v' (hshN h bs) ∧ Kept Nought W w') := fun W k => by
      refine (z13Sum h _ bs W (hT.grew k) (hb.grew k) hbd (by have := hL.out; omega)).mono ?_
      rintro e w' ⟨v', rfl, h1, _, h2⟩
      exact ⟨v', rfl, h1, h2⟩
    have J2 : Hid (∀ W, Kept Nought w W → Calls Tryd.prog 8 #[.int .i64 h, .slice ao n cap] W fun e w' => ∃ v', e = .returned (.tuple #[v', .int .i64 (hshE h : Nat)]) ∧ OwnB w' W.heap.size v' (hshN h bs) ∧ Kept Nought W w') := fun W k => r13Sum h _ bs W (hb.grew k) hbd (by have := hL.out; omega)
    have J3 : Hid (∀ W, Calls Tryd.prog 10 #[.int .i64 h] W fun e w' => e = .returned (.int .i64 (hszN h : Nat)) ∧ Kept Nought W w') := fun W => z13Size h W
    have J4 : Hid (∀ W, Calls Tryd.prog 11 #[.int .i64 h] W fun e w' => e = .returned (.int .i64 (hszN h : Nat)) ∧ Kept Nought W w') := fun W => r13Size h W
    have HL : Hid ((hshN h bs).length = hszN h) := hshN_length h bs
    have HD : Hid (Digs 256 (hshN h bs)) := hshN_digs h bs
    have hE : hshE h = 0 ∨ hshE h = 130 := by
      unfold hshE
      split
      · exact .inl rfl
      · exact .inr rfl
    generalize hshN h bs = zs at *
    generalize hszN h = z at *
    clear hb hbd hT hL
    rcases hE with hE | hE
    all_goals
      rw [hE] at J1 J2
      clear hE
      go_enter Tryd.func3, Tryd.ntmps3
      go_wp2_with fail
      refine hA.mono ?_
      rintro e w1 ⟨rfl, k1⟩
      clear hA
      go_wp2_with fail
      refine (J1.out _ k1).mono ?_
      rintro e w2 ⟨v2, rfl, r2, k2⟩
      go_wp2_with fail
      refine (J2.out _ (k1.trans k2)).mono ?_
      rintro e w3 ⟨v3, rfl, r3, k3⟩
      have hS := toHid (r13Same v2 v3 _ _ w3 (r2.grew k3) r3.row HD.out HD.out)
      rw [decide_eq_true rfl] at hS
      obtain ⟨ao2, n2, cap2, rfl, hL2, _, _, _, _⟩ := r2.open
      obtain rfl : n2 = z := hL2.out.symm.trans HL.out
      have HK := toHid (k1.trans (k2.trans k3))
      clear r2 r3 k1 k2 k3 J1 J2 hL2
      go_wp2_with fail
      refine hS.out.mono ?_
      rintro e w4 ⟨rfl, rfl⟩
      clear hS
      go_wp2_with fail
      refine (J3.out _).mono ?_
      rintro e w5 ⟨rfl, k5⟩
      go_wp2_with fail
      refine (J4.out _).mono ?_
      rintro e w6 ⟨rfl, k6⟩
      have HK6 := toHid (HK.out.trans (k5.trans k6))
      clear k5 k6 J4
      go_wp2_with fail
      first
        | (go_ret
           exact ⟨rfl, below_kept HK6.out (Nat.le_refl _)⟩)
        | (refine (J3.out _).mono ?_
           rintro e w7 ⟨rfl, k7⟩
           have HK7 := toHid (HK6.out.trans k7)
           clear k7 J3
           go_wp2_with fail
           go_ret
           exact ⟨rfl, below_kept HK7.out (Nat.le_refl _)⟩)
  · have g1 : (n : Int) > 3000 := by omega
    clear hb hbd hT hL
    go_enter Tryd.func3, Tryd.ntmps3
    go_wp2_with fail
    refine hA.mono ?_
    rintro e w1 ⟨rfl, k1⟩
    have HK := toHid k1
    clear hA k1
    go_wp2_with fail
    go_ret
    exact ⟨rfl, below_kept HK.out (Nat.le_refl _)⟩

end Go.Proofs.YtlbipidofehddaaDoor
