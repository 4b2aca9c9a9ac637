/- The walk of the statement on what is read piece by piece: it returns true for any bytes and any number. -/
import Derived.Test.YthcchcahmbpbhaaDoorLaw15
namespace Go.Proofs.YthcchcahmbpbhaaDoor
open Go.RowKit

/-- append of bytes to a row of the call's own: as it runs. -/
theorem run_append_bytes (w : World) (base : Nat) (v u : Value) (zs bs : List Nat) (hown : OwnB w base v zs) (hr : Row .u8 w u bs) (hl : zs.length + bs.length ≤ 100000000) (hbase : base ≤ w.heap.size) (ty : TypeId) :
    ∃ v' w', (Builtin.append_ #[22, 22] ty #[v, u]).run Tryd.prog w = .ok v' w' ∧ OwnB w' base v' (zs ++ bs) ∧ w.grownBy w' v.ownBlock := by
  obtain ⟨i0, hi0, hz0, hz1, hz2⟩ := info_parts Tryd.info8s
  obtain ⟨ao, n, cap, rfl, hL, hc, _, hn, hnum⟩ := hr.open
  cases ao with
  | none =>
    obtain rfl := hn rfl
    obtain rfl : n = 0 := by omega
    obtain rfl : bs = [] := List.length_eq_zero_iff.1 hL.out
    refine ⟨v, w, run_append_owned_none (P := Tryd.prog) (w := w) base 22 ty 5 i0 1 Tryd.underlying22 hi0 v zs.length _ hown, by rw [List.append_nil]; exact hown, ⟨rfl, rfl, rfl, Nat.le_refl _, fun _ _ _ => rfl⟩⟩
  | some ad =>
    have hlb := hL.out
    obtain ⟨v', w', h1, h2, h3, _⟩ := run_append_own (P := Tryd.prog) w base 22 ty 5 i0 (.int .u8 0) 1 1 Tryd.underlying22 hi0 hz0 hz1 hz2 rfl (by decide) v zs.length _ hown ad n cap (bs.map fun z : Nat => Value.int .u8 (z : Int)) (by rw [List.length_map, hlb, Nat.mul_one]) (news_row hr (Kept.refl _ _)) (ones8 .u8 bs) (by unfold maxLen; omega) (by omega) hbase
    refine ⟨v', w', h1, OwnB.of (n := zs.length + n) ?_, h3⟩
    unfold OwnN
    rw [List.map_append]
    exact h2

/-- The same as a step of a list whose guard holds. -/
theorem wpList_append_bytes {w : World} {ops : Array Oper} {rest : List Oper} {o : Oper} {a : Act} {Q : Exit → Act → World → Prop} (hw : Region.wanted o (yielded ops a.tmps) = true) (s x : Operand)
    (ho : o.op = .call { callee := .builtin .append, args := #[s, x], argTypes := #[22, 22] }) (v u v' : Value) (w' : World) (hs : a.eval s = v) (hx : a.eval x = u)
    (hty : o.type = 22) (hr : (Builtin.append_ #[22, 22] 22 #[v, u]).run Tryd.prog w = .ok v' w')
    (h : wpList Tryd.prog ops Q rest (a.put o.dst v') w') : wpList Tryd.prog ops Q (o :: rest) a w := by
  refine wpList_step fun K hK => ?_
  rw [if_pos hw]
  unfold Oper.wp execOp
  simp only [ho, resolve, invoke, builtin, Sem.run_bind, Sem.run_pure, Result.andThen_ok, List.map_toArray, List.map_cons, List.map_nil, hs, hx, hty, hr]
  exact hK _ _ h

set_option maxRecDepth 100000 in
set_option maxHeartbeats 2000000 in
theorem walkScriptWhole (u : Value) (bs : List Nat) (n : Int) (w : World) (hu : Row .u8 w u bs) (db : Digs 256 bs) (_ : NoTab w) :
    Calls Tryd.prog 6 #[u, .int .i64 n] w fun e w' => e = .returned (.bool true) ∧ Below w.heap.size w w' := by
  have HU := toHid hu
  obtain ⟨uo, un, uc, rfl, hul, _⟩ := hu.open
  have HUL := toHid hul.out
  have HDB := toHid db
  have J0 := f15Awake w
  clear hu hul db
  by_cases h1 : 2000 < un
  · have g1 : (un : Int) > 2000 := by omega
    have g1' : (2000 : Int) < (un : Int) := by omega
    go_enter Tryd.func6, Tryd.ntmps6
    go_wp2_with fail
    refine J0.mono ?_
    rintro e w1 ⟨rfl, k1⟩
    go_wp2_with fail
    go_ret
    exact ⟨rfl, below_kept k1 (Nat.le_refl _)⟩
  · have g1 : ¬ (un : Int) > 2000 := by omega
    have g1' : ¬ (2000 : Int) < (un : Int) := by omega
    by_cases h2 : n < 1
    · go_enter Tryd.func6, Tryd.ntmps6
      go_wp2_with fail
      refine J0.mono ?_
      rintro e w1 ⟨rfl, k1⟩
      go_wp2_with fail
      go_ret
      exact ⟨rfl, below_kept k1 (Nat.le_refl _)⟩
    · obtain ⟨m, rfl⟩ := Int.eq_ofNat_of_zero_le (show 0 ≤ n by omega)
      have hm1 : 1 ≤ m := by omega
      have hbl : bs.length ≤ 2000 := by rw [HUL.out]; omega
      go_enter Tryd.func6, Tryd.ntmps6
      go_wp2_with fail
      refine J0.mono ?_
      rintro e w1 ⟨rfl, k1⟩
      have HK1 := toHid k1
      have J1 := xNew _ _ w1 (HU.out.grew k1) (by omega)
      clear J0 k1
      go_wp2_with fail
      refine J1.mono ?_
      rintro e w2 ⟨g, rfl, hg, hs, k2⟩
      have HK2 := toHid (HK1.out.trans k2)
      have HS := toHid hs
      have hwg : w.heap.size ≤ g := Nat.le_trans HK1.out.size hg
      have hgw2 : g < w2.heap.size := (hs.inP (x := g) rfl).2
      clear J1 k2 hs
      go_wp2_with fail
      go_loopw [6] (fun all wr => ∃ (j : Nat) (ao : Option Addr) (c : Nat), j ≤ un ∧ all = .slice ao j c ∧ Hid (OwnB wr w2.heap.size (.slice ao j c) (bs.take j)) ∧ Hid (Lsc wr (some ⟨g, 0, none⟩) w2.heap.size (bs.drop j)) ∧ Hid (Kept Nought w wr) ∧ w2.heap.size ≤ wr.heap.size) (fun _ wr => lscLen (some ⟨g, 0, none⟩) wr)
      case atStart => exact ⟨0, none, 0, Nat.zero_le _, rfl, OwnB.nil _ _, HS.out, HK2.out, Nat.le_refl _⟩
      case round =>
        clear HS HK2
        obtain ⟨j, ao, c, hj, rfl, HO, HS, HK, hsz⟩ := hrel
        have J2 := xLeft _ _ _ wr HS.out
        have hdl : (bs.drop j).length = un - j := by rw [List.length_drop, HUL.out]
        have htl : (bs.take j).length = j := by rw [List.length_take, HUL.out]; omega
        rw [hdl] at J2
        obtain ⟨d, hd⟩ : ∃ d, d = un - j := ⟨_, rfl⟩
        rw [← hd] at J2 hdl
        by_cases hdm : m ≤ d
        · have g3 : (d : Int) ≥ (m : Int) := by omega
          have g3' : (m : Int) ≤ (d : Int) := by omega
          have HJ : Hid (j + m ≤ un) := by unfold Hid; omega
          have HHD := toHid hd
          clear hd
          go_wp2_with fail
          refine J2.mono ?_
          rintro e w3 ⟨rfl, k3⟩
          have S3 := HS.out.grew k3
          have J3 := xRead _ _ _ (m : Int) w3 S3
          have t1 : readE (bs.drop j) (m : Int) = 0 := by unfold readE; rw [if_neg (by omega), if_neg (by omega)]
          have t2 : readL (bs.drop j) (m : Int) = (bs.drop j).take m := by unfold readL; rw [t1]; rfl
          have t3 : readR (bs.drop j) (m : Int) = bs.drop (j + m) := by unfold readR; rw [if_neg (by omega), List.drop_drop]; rfl
          rw [t1, t2, t3] at J3
          have HO3 := toHid (HO.out.grew k3)
          have HK3 := toHid (HK.out.trans k3)
          have hs3 := k3.size
          clear J2 k3 t1 t2 t3 S3
          go_wp2_with fail
          refine J3.mono ?_
          rintro e w4 ⟨x, rfl, hx, hs4, k4⟩
          have HO4 := toHid (HO3.out.kept k4 (fun y hy f => by have := ofP_some f; omega))
          have HK4 : Hid (Kept Nought w w4) := HK3.out.next k4 (fun y hy f => by have := ofP_some f; omega)
          have hs4' := k4.size
          have hxl : ((bs.drop j).take m).length = m := by rw [List.length_take, hdl]; omega
          obtain ⟨xo, xn, xc, rfl, hxn, _⟩ := hx.row.open
          obtain rfl : xn = m := by rw [← hxn.out, hxl]
          have HX := toHid hx.row
          have hadd : bs.take j ++ (bs.drop j).take xn = bs.take (j + xn) := by rw [List.take_add]
          have HADD := toHid hadd
          have HM : Hid (lscLen (some ⟨g, 0, none⟩) wr = un - j) := by unfold Hid; rw [HS.out.left, List.length_drop, HUL.out]
          clear J3 hx k4 hxn hdl hadd
          have HS4 := toHid hs4
          clear hs4
          go_wp2_with (at_builtin; refine wpList_append_row rfl _ _ rfl w2.heap.size _ (bs.take j) rfl HO4.out _ rfl ((bs.drop j).take xn) HX.out (by rw [htl, hxl]; have := HJ.out; omega) (by omega) ?_)
          intro v5 w5 ho5 hg5
          rw [HADD.out] at ho5
          have k5 : Kept (fun y => w2.heap.size ≤ y) w4 w5 := (Kept.refl _ w4).grown hg5 (fun y hy hlt => (HO4.out.lt y hy).1)
          have S5 := toHid (HS4.out.kept k5 (fun y hy f => by
            have f' : w2.heap.size ≤ y := f
            omega))
          have K5 : Hid (Kept Nought w w5) := HK4.out.next k5 (fun y hy f => by
            have f' : w2.heap.size ≤ y := f
            omega)
          have O5 := toHid ho5
          obtain ⟨vo, vn, vc, rfl, hvn, _⟩ := ho5.row.open
          obtain rfl : vn = j + xn := by rw [← hvn.out, List.length_take, HUL.out]; have := HJ.out; omega
          have hs5 := k5.size
          clear ho5 hg5 k5 hvn
          go_wp2_with fail
          go_roundw
          case rel => exact ⟨j + xn, _, _, HJ.out, rfl, O5.out, S5.out, K5.out, by omega⟩
          case measure =>
            rw [S5.out.left, HM.out, List.length_drop, HUL.out]
            have := HJ.out
            omega
        · have g3 : ¬ (d : Int) ≥ (m : Int) := by omega
          have g3' : ¬ (m : Int) ≤ (d : Int) := by omega
          have HHD := toHid hd
          clear hd
          go_wp2_with fail
          refine J2.mono ?_
          rintro e w3 ⟨rfl, k3⟩
          have S3 := HS.out.grew k3
          have HO3 := toHid (HO.out.grew k3)
          have HK3 := toHid (HK.out.trans k3)
          have hs3 := k3.size
          have J3 := xLeft _ _ _ w3 S3
          rw [hdl] at J3
          have HS3 := toHid S3
          clear J2 k3 S3
          go_wp2_with fail
          refine J3.mono ?_
          rintro e w4 ⟨rfl, k4⟩
          have S4 := HS3.out.grew k4
          have HO4 := toHid (HO3.out.grew k4)
          have HK4 := toHid (HK3.out.trans k4)
          have hs4 := k4.size
          have J4 := xRead _ _ _ (d : Int) w4 S4
          have t1 : readE (bs.drop j) (d : Int) = 0 := by unfold readE; rw [if_neg (by omega), if_neg (by omega)]
          have t2 : readL (bs.drop j) (d : Int) = bs.drop j := by unfold readL; rw [t1, if_pos rfl]; exact List.take_of_length_le (by show _ ≤ ((d : Int)).toNat; omega)
          rw [t1, t2] at J4
          clear J3 k4 t1 t2 S4
          go_wp2_with fail
          refine J4.mono ?_
          rintro e w5 ⟨x, rfl, hx, _, k5⟩
          have HO5 := toHid (HO4.out.kept k5 (fun y hy f => by have := ofP_some f; omega))
          have HK5 : Hid (Kept Nought w w5) := HK4.out.next k5 (fun y hy f => by have := ofP_some f; omega)
          have hs5 := k5.size
          obtain ⟨xo, xn, xc, rfl, hxn, _⟩ := hx.row.open
          obtain rfl : xn = d := by rw [← hxn.out, hdl]
          obtain ⟨v6, w6, hrun, ho6, hg6⟩ := run_append_bytes w5 w2.heap.size _ _ _ _ HO5.out hx.row (by rw [htl, hdl]; have := HHD.out; omega) (by omega) 22
          rw [List.take_append_drop] at ho6
          have k6 : Kept (fun y => w2.heap.size ≤ y) w5 w6 := (Kept.refl _ w5).grown hg6 (fun y hy hlt => (HO5.out.lt y hy).1)
          have HK6 : Hid (Kept Nought w w6) := HK5.out.next k6 (fun y hy f => by
            have f' : w2.heap.size ≤ y := f
            omega)
          have J5 := r13Same v6 (.slice uo un uc) bs bs w6 ho6.row (HU.out.grew HK6.out) HDB.out HDB.out
          rw [decide_eq_true rfl] at J5
          obtain ⟨vo, vn, vc, rfl, _⟩ := ho6.row.open
          have HRUN := toHid hrun
          clear J4 k5 hx ho6 hg6 k6 hxn hrun
          go_wp2_with (at_builtin; refine wpList_append_bytes (by simp [Region.wanted, yielded]) _ _ rfl _ _ _ _ rfl rfl rfl HRUN.out ?_)
          refine J5.mono ?_
          rintro e w7 ⟨rfl, rfl⟩
          clear J5 HRUN
          go_wp2_with fail
          go_ret
          exact ⟨rfl, below_kept HK6.out (Nat.le_refl _)⟩

end Go.Proofs.YthcchcahmbpbhaaDoor
