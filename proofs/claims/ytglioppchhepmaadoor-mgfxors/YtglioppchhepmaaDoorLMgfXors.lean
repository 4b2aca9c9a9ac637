/- The law MgfXors, walked. -/
import Derived.Test.YtglioppchhepmaaDoorMgf4
namespace Go.Proofs.YtglioppchhepmaaDoor
open Go.RowKit

theorem xorN_back {xs bs : List Nat} : xorN (xorN xs bs) bs = xs := by
  apply List.ext_getElem?
  intro i
  by_cases hi : i < xs.length
  · have e : xorN (xorN xs bs) bs = (List.range (xorN xs bs).length).map fun i => (xorN xs bs).getD i 0 ^^^ bs.getD i 0 := rfl
    have e2 : (xorN xs bs).getD i 0 = xs.getD i 0 ^^^ bs.getD i 0 := by
      rw [List.getD_eq_getElem?_getD]
      unfold xorN
      rw [List.getElem?_map, List.getElem?_range hi]
      rfl
    rw [e, List.getElem?_map, List.getElem?_range (by rw [xorN_length]; exact hi), Option.map_some, e2, Nat.xor_assoc, Nat.xor_self, Nat.xor_zero, List.getD_eq_getElem?_getD, List.getElem?_eq_getElem hi]
    rfl
  · rw [List.getElem?_eq_none (by rw [xorN_length, xorN_length]; omega), List.getElem?_eq_none (by omega)]

set_option maxRecDepth 20000 in
set_option maxHeartbeats 2000000 in
theorem walkMgfXors (u : Value) (xs : List Nat) (v : Value) (bs : List Nat) (w : World) (hx : Row .u8 w u xs) (hb : Row .u8 w v bs) (hxd : Digs 256 xs) (hbd : Digs 256 bs) (hT : TabH w) :
    Calls Tryd.prog 4 #[u, v] w fun e w' => e = .returned (.bool true) ∧ Below w.heap.size w w' := by
  have hA := awake14 w hT
  clear hT
  obtain ⟨ao, la, ca, rfl, hLa, _, _, _, _⟩ := hx.open
  obtain ⟨bo, lb, cb, rfl, hLb, _, _, _, _⟩ := hb.open
  by_cases h1 : la ≤ 3000
  · have g1 : ¬ (la : Int) > 3000 := by omega
    have gf1 : decide ((la : Int) > 3000) = false := decide_eq_false g1
    by_cases h2 : lb ≤ 3000
    · have g2 : ¬ (lb : Int) > 3000 := by omega
      have J1 : Hid (∀ W, Kept Nought w W → Calls Tryd.prog 10 #[.slice ao la ca, .slice bo lb cb] W fun e w' => ∃ v', e = .returned v' ∧ Row .u8 w' v' (xorN xs bs) ∧ Kept Nought W w') := fun W k => by
        refine (gXor _ _ xs bs W (hx.grew k) (hb.grew k) hxd hbd (by have := hLa.out; omega)).mono ?_
        rintro e w' ⟨v', rfl, o, k⟩
        exact ⟨v', rfl, o.row, k⟩
      have J2 : Hid (∀ W, Kept Nought w W → Calls Tryd.prog 11 #[.slice ao la ca, .slice bo lb cb] W fun e w' => ∃ v', e = .returned v' ∧ Row .u8 w' v' (xorN xs bs) ∧ Kept Nought W w') := fun W k => by
        refine (r13Xor _ _ xs bs W (hx.grew k) (hb.grew k) hxd hbd (by have := hLa.out; omega)).mono ?_
        rintro e w' ⟨v', rfl, o, k⟩
        exact ⟨v', rfl, o.row, k⟩
      have J3 : Hid (∀ W x, Kept Nought w W → Row .u8 W x (xorN xs bs) → Calls Tryd.prog 10 #[x, .slice bo lb cb] W fun e w' => ∃ v', e = .returned v' ∧ Row .u8 w' v' xs ∧ Kept Nought W w') := fun W x k r => by
        refine (gXor _ _ (xorN xs bs) bs W r (hb.grew k) (xorN_digs hxd hbd) hbd (by rw [xorN_length]; have := hLa.out; omega)).mono ?_
        rintro e w' ⟨v', rfl, o, k⟩
        have o' := o.row
        rw [xorN_back] at o'
        exact ⟨v', rfl, o', k⟩
      have HX := toHid hx
      have HDX := toHid hxd
      have HD : Hid (Digs 256 (xorN xs bs)) := xorN_digs hxd hbd
      generalize xorN xs bs = zs at *
      clear hx hb hxd hbd hLa hLb
      go_enter Tryd.func4, Tryd.ntmps4
      go_wp2_with fail
      refine hA.mono ?_
      rintro e w1 ⟨rfl, k1⟩
      clear hA
      go_wp2_with fail
      refine (J1.out _ k1).mono ?_
      rintro e w2 ⟨v2, rfl, r2, k2⟩
      go_wp2_with fail
      refine (J2.out _ (k1.trans k2)).mono ?_
      rintro e w3 ⟨v3, rfl, r3, k3⟩
      have hS := toHid (r13Same v2 v3 _ _ w3 (r2.grew k3) r3 HD.out HD.out)
      rw [decide_eq_true rfl] at hS
      have hK3 := k1.trans (k2.trans k3)
      have J4 := toHid (J3.out w3 v2 hK3 (r2.grew k3))
      have HK := toHid hK3
      clear r2 r3 k1 k2 k3 J1 J2 J3 hK3
      go_wp2_with fail
      refine hS.out.mono ?_
      rintro e w4 ⟨rfl, rfl⟩
      clear hS
      go_wp2_with fail
      refine J4.out.mono ?_
      rintro e w5 ⟨v5, rfl, r5, k5⟩
      have hK5 := HK.out.trans k5
      have hS := toHid (r13Same v5 (.slice ao la ca) _ _ w5 r5 (HX.out.grew hK5) HDX.out HDX.out)
      rw [decide_eq_true rfl] at hS
      have HK5 := toHid hK5
      clear J4 r5 k5 hK5
      go_wp2_with fail
      refine hS.out.mono ?_
      rintro e w6 ⟨rfl, rfl⟩
      clear hS
      go_wp2_with fail
      go_ret
      exact ⟨rfl, below_kept HK5.out (Nat.le_refl _)⟩
    · have g2 : (lb : Int) > 3000 := by omega
      clear hx hb hxd hbd hLa hLb
      go_enter Tryd.func4, Tryd.ntmps4
      go_wp2_with fail
      refine hA.mono ?_
      rintro e w1 ⟨rfl, k1⟩
      have HK := toHid k1
      clear hA k1
      go_wp2_with fail
      go_ret
      exact ⟨rfl, below_kept HK.out (Nat.le_refl _)⟩
  · have g1 : (la : Int) > 3000 := by omega
    clear hx hb hxd hbd hLa hLb
    go_enter Tryd.func4, Tryd.ntmps4
    go_wp2_with fail
    refine hA.mono ?_
    rintro e w1 ⟨rfl, k1⟩
    have HK := toHid k1
    clear hA k1
    go_wp2_with fail
    go_ret
    exact ⟨rfl, below_kept HK.out (Nat.le_refl _)⟩

end Go.Proofs.YtglioppchhepmaaDoor
