/- Package key: Of from outside; alike; Check. (written by wip/gen/kex8.py) -/
import Derived.Test.YtiljkgoafknefaaGreatKex7
import Derived.Test.YtiljkgoafknefaaGreatLimQ
import Derived.Test.YtiljkgoafknefaaGreatLaw19b
namespace Go.Proofs.YtiljkgoafknefaaGreat
open Go.RowKit

set_option maxRecDepth 40000 in
set_option maxHeartbeats 4000000 in
/-- Of. -/
theorem kOf (ao bo : Option Addr) (L M cap dap : Nat) (xs ys : List Nat) (P Q e : Nat) (w : World) (hP : P = val 18446744073709551616 xs) (hQ : Q = val 18446744073709551616 ys) (hu : Row .u64 w (.slice ao L cap) xs) (hv : Row .u64 w (.slice bo M dap) ys) (hdx : Digs 18446744073709551616 xs) (hdy : Digs 18446744073709551616 ys) (hL : L ≤ 1000) (hM : M ≤ 1000) :
    Calls Tryz.prog 12 #[.slice ao L cap, .slice bo M dap, .int .u64 (e : Nat)] w fun r w' => ∃ kv E, r = .returned (.tuple #[.agg kv, .int .i64 ((E : Nat) : Int)]) ∧ ((E = 0 ∧ keyOk L M P Q e ∧ KeyAt w' P Q e kv) ∨ (E = 190 ∧ ¬ keyOk L M P Q e ∧ kv = zeroKey)) ∧ KeyFar w.heap.size kv ∧ Kept Nought w w' := by
  have hmf : ∀ (fn : Fn) (first cap : Array Value) (w : World), (Instr.makeFunc fn first cap).run Tryz.prog w = .ok (.func fn first cap) w := fun _ _ _ _ => rfl
  have he : ∀ args w, (callFunc 37 args).run Tryz.prog w = .ok (.enter 37 args) w := fun _ _ => by simp [go_sem]
  have hbx := boxes3 w (.slice ao L cap) (.slice bo M dap) (.int .u64 (e : Nat)) 23 23 24
  obtain ⟨W0, hW0⟩ : ∃ W0, W0 = ((w.alloc (.cells #[.slice ao L cap] 23)).alloc (.cells #[.slice bo M dap] 23)).alloc (.cells #[.int .u64 (e : Nat)] 24) := ⟨_, rfl⟩
  rw [← hW0] at hbx
  obtain ⟨k0, x1, x2, x3, hs⟩ := hbx
  obtain ⟨W, hW⟩ : ∃ W, W = W0.alloc (.cells zeroKey 32) := ⟨_, rfl⟩
  have kW : Kept Nought W0 W := by rw [hW]; exact (Kept.refl Nought W0).alloc _
  have hsW : W.heap.size = W0.heap.size + 1 := by rw [hW]; simp
  have bK : W.heap[W0.heap.size]? = some (.cells zeroKey 32 (0, 0)) := by rw [hW]; exact heap_alloc_new _ _
  rw [hs] at bK hsW
  have kE := (Kept.refl Nought W).alloc (.cells #[.int .i64 0] 27)
  have xe : Box (W.alloc (.cells #[.int .i64 0] 27)) W.heap.size (.int .i64 0) 27 := Box.new W (.int .i64 0) 27
  have hsz : (W.alloc (.cells #[.int .i64 0] 27)).heap.size = W.heap.size + 1 := by simp
  have k1 : Kept Nought w (W.alloc (.cells #[.int .i64 0] 27)) := (k0.trans kW).trans kE
  have bK1 : (W.alloc (.cells #[.int .i64 0] 27)).heap[w.heap.size + 1 + 1 + 1]? = some (.cells zeroKey 32 (0, 0)) := heapAt_alloc bK
  have c0 := ((x1.grew kW).grew kE).cell
  have c1 := ((x2.grew kW).grew kE).cell
  have c2 := ((x3.grew kW).grew kE).cell
  have hEnd : Calls Tryz.prog 37 #[.pointer (some ⟨w.heap.size, 0, none⟩), .pointer (some ⟨w.heap.size + 1, 0, none⟩), .pointer (some ⟨w.heap.size + 1 + 1, 0, none⟩), .pointer (some ⟨w.heap.size + 1 + 1 + 1, 0, none⟩)] (W.alloc (.cells #[.int .i64 0] 27)) fun r w' => OfEnd L M P Q e W.heap.size (w.heap.size + 1 + 1 + 1) w (W.alloc (.cells #[.int .i64 0] 27)) r w' := by
    by_cases hA : L ≤ 300 ∧ halfOk P
    · by_cases hB : M ≤ 300 ∧ halfOk Q
      · by_cases hC : pubE (keyWords P Q) e = 0
        · by_cases hD : Nat.gcd Q P = 1
          · by_cases hE : Nat.gcd (comN P Q) e = 1
            · exact kOf1F _ _ _ _ ao bo L M cap dap xs ys P Q e _ hP hQ hA hB hC hD hE _ _ (hu.grew k1) (hv.grew k1) hdx hdy c0 c1 c2 k1 (by omega) hsz bK1
            · exact kOf1E _ _ _ _ ao bo L M cap dap xs ys P Q e _ hP hQ hA hB hC hD hE _ _ (hu.grew k1) (hv.grew k1) hdx hdy c0 c1 c2
          · exact kOf1D _ _ _ _ ao bo L M cap dap xs ys P Q e _ hP hQ hA hB hC hD _ _ (hu.grew k1) (hv.grew k1) hdx hdy c0 c1 c2
        · exact kOf1C _ _ _ _ ao bo L M cap dap xs ys P Q e _ hP hQ hA hB hC _ _ (hu.grew k1) (hv.grew k1) hdx hdy c0 c1 c2
      · exact kOf1B _ _ _ _ ao bo L M cap dap xs ys P Q e _ hP hQ hM hA hB _ _ (hu.grew k1) (hv.grew k1) hdx hdy c0 c1
    · exact kOf1A _ _ _ _ ao bo L M cap dap xs P Q e _ hP hL hA _ _ (hu.grew k1) hdx c0 c1
  have hAt := kAttempt 37 _ W (fun n W' => (n = 0 ∧ keyOk L M P Q e ∧ ∃ kv, W'.heap[w.heap.size + 1 + 1 + 1]? = some (.cells kv 32 (0, 0)) ∧ KeyAt W' P Q e kv ∧ KeyFar W.heap.size kv ∧ Kept Nought w W') ∨ (n = 190 ∧ ¬ keyOk L M P Q e ∧ W'.heap[w.heap.size + 1 + 1 + 1]? = some (.cells zeroKey 32 (0, 0)) ∧ Kept Nought w W')) he (hEnd.mono (by
    rintro r w' (⟨hok, rfl, kv, h1, h2, h3, h4, h5⟩ | ⟨hno, rfl, h1⟩)
    · exact ⟨xe.kept h4 (by omega), .inl ⟨rfl, .inl ⟨rfl, hok, kv, h1, h2, h3, h5⟩⟩⟩
    · exact ⟨xe.grew h1, .inr ⟨_, rfl, .inr ⟨rfl, hno, (h1.block _ (lt_of_block bK1) (fun f => f)).trans bK1, k1.trans h1⟩⟩⟩))
  have HW0 := toHid hW0
  have HW := toHid hW
  have HSW := toHid hsW
  have HS0 := toHid hs
  clear hu hv hdx hdy hP hQ hL hM k0 kW kE k1 x1 x2 x3 xe hs hsz hW0 hW hsW bK bK1 c0 c1 c2 he hEnd
  unfold zeroKey at HW
  go_enter Tryz.func12, Tryz.ntmps12
  go_wp2_with (first | rw [← HW0.out] | rw [← HW.out])
  rw [HS0.out]
  refine hAt.mono ?_
  rintro r w' ⟨n, w1, rfl, ⟨hq, hbe⟩, rfl⟩
  clear hAt
  rcases hq with ⟨rfl, hok, kv, hx, hat, hfar, hk⟩ | ⟨rfl, hno, hx, hk⟩
  · obtain ⟨vn, vd, vp, vq, vdp, vdq, vqi, d, u, rfl, rn, hd1, hd2, rd, rp, rq, rdp, rdq, hu1, hu2, rqi⟩ := hat
    obtain ⟨no, nl, nc, rfl, -, -, -, -, -⟩ := rn.open
    obtain ⟨dO, dl, dc, rfl, -, -, -, -, -⟩ := rd.open
    obtain ⟨po, pl, pc, rfl, -, -, -, -, -⟩ := rp.open
    obtain ⟨qo, ql, qc, rfl, -, -, -, -, -⟩ := rq.open
    obtain ⟨dpo, dpl, dpc, rfl, -, -, -, -, -⟩ := rdp.open
    obtain ⟨dqo, dql, dqc, rfl, -, -, -, -, -⟩ := rdq.open
    obtain ⟨qio, qil, qic, rfl, -, -, -, -, -⟩ := rqi.open
    have hat : KeyAt w1 P Q e #[.slice no nl nc, .int .u64 (e : Nat), .slice dO dl dc, .slice po pl pc, .slice qo ql qc, .slice dpo dpl dpc, .slice dqo dql dqc, .slice qio qil qic] := ⟨_, _, _, _, _, _, _, d, u, rfl, rn, hd1, hd2, rd, rp, rq, rdp, rdq, hu1, hu2, rqi⟩
    have kb := kept_box w1 W.heap.size (.int .i64 0)
    have hat2 := hat.kept kb (fun v hv x hx hxe => by have := hfar v hv x hx; omega)
    have hx2 := heapAt_set hx (a := ⟨W.heap.size, 0, none⟩) (by show _ ≠ W.heap.size; have := HSW.out; omega) (.int .i64 0)
    have hk2 := hk.next kb (fun x hx e => by have := HSW.out; omega)
    obtain ⟨z1, z2, z3⟩ := stored8 hk2 (by omega : w.heap.size ≤ w.heap.size + 1 + 1 + 1) hx2 (.slice no nl nc) (.int .u64 (e : Nat)) (.slice dO dl dc) (.slice po pl pc) (.slice qo ql qc) (.slice dpo dpl dpc) (.slice dqo dql dqc) (.slice qio qil qic)
    unfold put8w at z1 z2 z3
    have HAT := toHid (hat2.kept z3 (fun v hv x hx hxe => by have h1 := hfar v hv x hx; have h2 := HSW.out; omega))
    have HFAR : Hid (KeyFar w.heap.size #[.slice no nl nc, .int .u64 (e : Nat), .slice dO dl dc, .slice po pl pc, .slice qo ql qc, .slice dpo dpl dpc, .slice dqo dql dqc, .slice qio qil qic]) := fun v hv x hx => by have h1 := hfar v hv x hx; have h2 := HSW.out; omega
    have HKF := toHid z2
    obtain ⟨r0, r1, r2, r3, r4, r5, r6, r7⟩ := cells8 z1
    obtain ⟨c0, c1, c2, c3, c4, c5, c6, c7⟩ := cells8 hx2
    have f0 := frees8 hx2 0
    have f1 := frees8 hx2 1
    have f2 := frees8 hx2 2
    have f3 := frees8 hx2 3
    have f4 := frees8 hx2 4
    have f5 := frees8 hx2 5
    have f6 := frees8 hx2 6
    have f7 := frees8 hx2 7
    have HOK := toHid hok
    clear rn rd rp rq rdp rdq rqi hat kb hat2 hx hk hk2 hfar hx2 z1 z2 z3 hbe hok hd1 hd2 hu1 hu2
    generalize w1.setCell ⟨W.heap.size, 0, none⟩ (.int .i64 0) = W2 at *
    go_wp2_with fail
    exact bodyPost_ret (v := .tuple #[.agg #[.slice no nl nc, .int .u64 (e : Nat), .slice dO dl dc, .slice po pl pc, .slice qo ql qc, .slice dpo dpl dpc, .slice dqo dql dqc, .slice qio qil qic], .int .i64 0]) (by simp [results, Tryz.results12, go_sem, r0, r1, r2, r3, r4, r5, r6, r7]) rfl ⟨_, 0, rfl, .inl ⟨rfl, HOK.out, HAT.out⟩, HFAR.out, HKF.out⟩
  · have kb := kept_box w1 W.heap.size (.int .i64 190)
    have hx2 := heapAt_set hx (a := ⟨W.heap.size, 0, none⟩) (by show _ ≠ W.heap.size; have := HSW.out; omega) (.int .i64 190)
    have hk2 := hk.next kb (fun x hx e => by have := HSW.out; omega)
    obtain ⟨z1, z2, -⟩ := stored8 hk2 (by omega : w.heap.size ≤ w.heap.size + 1 + 1 + 1) hx2 (.slice none 0 0) (.int .u64 0) (.slice none 0 0) (.slice none 0 0) (.slice none 0 0) (.slice none 0 0) (.slice none 0 0) (.slice none 0 0)
    unfold put8w at z1 z2
    have HKF := toHid z2
    obtain ⟨r0, r1, r2, r3, r4, r5, r6, r7⟩ := cells8 z1
    obtain ⟨c0, c1, c2, c3, c4, c5, c6, c7⟩ := cells8 hx2
    have f0 := frees8 hx2 0
    have f1 := frees8 hx2 1
    have f2 := frees8 hx2 2
    have f3 := frees8 hx2 3
    have f4 := frees8 hx2 4
    have f5 := frees8 hx2 5
    have f6 := frees8 hx2 6
    have f7 := frees8 hx2 7
    have HNO := toHid hno
    clear kb hx hk hk2 hx2 z1 z2 hbe hno
    generalize w1.setCell ⟨W.heap.size, 0, none⟩ (.int .i64 190) = W2 at *
    go_wp2_with fail
    exact bodyPost_ret (v := .tuple #[.agg zeroKey, .int .i64 190]) (by simp [results, Tryz.results12, go_sem, r0, r1, r2, r3, r4, r5, r6, r7]) rfl ⟨_, 190, rfl, .inr ⟨rfl, HNO.out, rfl⟩, zeroKey_far _, HKF.out⟩

set_option maxRecDepth 20000 in
set_option maxHeartbeats 2000000 in
/-- alike: whether the numbers of each pair are the same. -/
theorem kAlike (b n : Nat) (hn : n ≤ 1000) (A A' : Nat → Option Addr) (F G F' G' : Nat → Nat) (X Y : Nat → List Nat) (w : World)
    (hc : ∀ i, i < n → w.cell? ⟨b, i * 2, none⟩ = some (.slice (A i) (F i) (G i)) ∧ w.cell? ⟨b, i * 2 + 1, none⟩ = some (.slice (A' i) (F' i) (G' i)))
    (hr : ∀ i, i < n → Row .u64 w (.slice (A i) (F i) (G i)) (X i) ∧ Row .u64 w (.slice (A' i) (F' i) (G' i)) (Y i) ∧ Digs 18446744073709551616 (X i) ∧ Digs 18446744073709551616 (Y i) ∧ (Y i).length ≤ 1000) (R : Bool) (hR : R = true ↔ ∀ i, i < n → X i = Y i) :
    Calls Tryz.prog 55 #[.slice (some ⟨b, 0, none⟩) n n] w fun e w' => e = .returned (.bool R) ∧ Kept Nought w w' := by
  have HC := toHid hc
  have HR := toHid hr
  have HRR := toHid hR
  clear hc hr hR
  go_enter Tryz.func55, Tryz.ntmps55
  go_wp2_with fail
  go_loopw [7] (fun i wr => ∃ k : Nat, k ≤ n ∧ i = .int .i64 (k : Int) ∧ Hid (∀ j, j < k → X j = Y j) ∧ Hid (Kept Nought w wr)) (fun i _ => ((n : Int) - intOf i).toNat)
  case atStart => exact ⟨0, Nat.zero_le _, rfl, fun j hj => by omega, Kept.refl _ _⟩
  case round =>
    obtain ⟨k, hk, rfl, hall, HK⟩ := hrel
    by_cases hkn : k < n
    · have hk1 : (k : Int) < (n : Int) := by omega
      obtain ⟨q0, q1⟩ := HC.out k hkn
      have p0 := HK.out.cellN q0
      have p1 := HK.out.cellN q1
      obtain ⟨rx, ry, dx, dy, hly⟩ := HR.out k hkn
      have rx := rx.grew HK.out
      have ry := ry.grew HK.out
      obtain ⟨xs, hxs⟩ : ∃ xs, xs = X k := ⟨_, rfl⟩
      obtain ⟨ys, hys⟩ : ∃ ys, ys = Y k := ⟨_, rfl⟩
      obtain ⟨ao, hao⟩ : ∃ ao, ao = A k := ⟨_, rfl⟩
      obtain ⟨bo, hbo⟩ : ∃ bo, bo = A' k := ⟨_, rfl⟩
      obtain ⟨la, hla⟩ : ∃ la, la = F k := ⟨_, rfl⟩
      obtain ⟨ca, hca⟩ : ∃ ca, ca = G k := ⟨_, rfl⟩
      obtain ⟨lb, hlb⟩ : ∃ lb, lb = F' k := ⟨_, rfl⟩
      obtain ⟨cb, hcb⟩ : ∃ cb, cb = G' k := ⟨_, rfl⟩
      rw [← hao, ← hla, ← hca] at p0 rx
      rw [← hbo, ← hlb, ← hcb] at p1 ry
      rw [← hxs] at rx dx
      rw [← hys] at ry dy hly
      have HXY : Hid (xs = ys → ∀ j, j < k + 1 → X j = Y j) := fun h j hj => by
        by_cases e : j = k
        · subst e; rw [← hxs, ← hys]; exact h
        · exact hall.out j (by omega)
      have HNE : Hid (xs ≠ ys → R = false) := fun h => by
        cases e : R with
        | false => rfl
        | true => exact absurd (by rw [hxs, hys]; exact HRR.out.1 e k hkn) h
      obtain ⟨_, _, _, e1, hlx, -, -, -, -⟩ := rx.open
      cases e1
      obtain ⟨_, _, _, e1, hlyy, -, -, -, -⟩ := ry.open
      cases e1
      obtain ⟨W, hW⟩ : ∃ W, W = wr.alloc (.cells #[.slice ao la ca, .slice bo lb cb] 77) := ⟨_, rfl⟩
      have kW : Kept Nought wr W := by rw [hW]; exact (Kept.refl Nought wr).alloc _
      have hb : W.heap[wr.heap.size]? = some (.cells #[.slice ao la ca, .slice bo lb cb] 77 (0, 0)) := by rw [hW]; exact heap_alloc_new _ _
      have s0 : W.cell? ⟨wr.heap.size, 0, none⟩ = some (.slice ao la ca) := (cell_of_row W _ 0 _ _ _ hb).trans rfl
      have s1 : W.cell? ⟨wr.heap.size, 1, none⟩ = some (.slice bo lb cb) := (cell_of_row W _ 1 _ _ _ hb).trans rfl
      have HW := toHid hW
      have HKW := toHid (HK.out.trans kW)
      have HLX := toHid hlx.out
      have HLY := toHid hlyy.out
      by_cases hlen : la = lb
      · have J := lEqual0 _ _ xs ys W (rx.grew kW) (ry.grew kW) dx dy (by rw [hlx.out, hlen, ← hlyy.out]; omega) (by omega)
        have g0 : ¬ (la : Int) ≠ (lb : Int) := by omega
        have g1 : (la : Int) = (lb : Int) := by omega
        have g2 : ((la : Int) != (lb : Int)) = false := by simpa using g1
        by_cases hv : val 18446744073709551616 xs = val 18446744073709551616 ys
        · have hxy : xs = ys := by
            have i1 : xs = digs 18446744073709551616 (val 18446744073709551616 xs) la := digs_val (by omega) dx hlx.out (by rw [Nat.mod_eq_of_lt]; rw [← hlx.out]; exact val_lt (by omega) dx)
            have i2 : ys = digs 18446744073709551616 (val 18446744073709551616 ys) la := digs_val (by omega) dy (by rw [hlyy.out, hlen]) (by rw [Nat.mod_eq_of_lt]; rw [hlen, ← hlyy.out]; exact val_lt (by omega) dy)
            rw [i1, i2, hv]
          have HT := toHid (HXY.out hxy)
          rw [decide_eq_true hv] at J
          have J' : Calls Tryz.prog 81 #[.pointer none, .slice ao la ca, .slice bo lb cb] W fun e w' => e = .returned (.int .u64 1) ∧ Kept Nought W w' := J
          clear rx ry dx dy hly hW kW hb hlx hlyy hv J q0 q1 hxs hys hao hbo hla hca hlb hcb HXY HNE HLX HLY hxy hlen
          go_wp2_with (rw [← HW.out])
          refine J'.mono ?_
          rintro e w5 ⟨rfl, k5⟩
          have HK5 := toHid (HKW.out.trans k5)
          clear J' k5 g0 g1 g2
          go_wp2_with fail
          go_roundw
          case rel => exact ⟨k + 1, by omega, by go_num, HT.out, HK5.out⟩
          case measure => simp [intOf]; omega
        · have HF := toHid (HNE.out (fun h => hv (by rw [h])))
          rw [decide_eq_false hv] at J
          have J' : Calls Tryz.prog 81 #[.pointer none, .slice ao la ca, .slice bo lb cb] W fun e w' => e = .returned (.int .u64 0) ∧ Kept Nought W w' := J
          clear rx ry dx dy hly hW kW hb hlx hlyy hv J q0 q1 hxs hys hao hbo hla hca hlb hcb HXY HNE HLX HLY hlen
          go_wp2_with (rw [← HW.out])
          refine J'.mono ?_
          rintro e w5 ⟨rfl, k5⟩
          have HK5 := toHid (HKW.out.trans k5)
          clear J' k5 g0 g1 g2
          go_wp2_with fail
          go_ret
          exact ⟨by rw [HF.out]; rfl, HK5.out⟩
      · have HF := toHid (HNE.out (fun h => hlen (by rw [← HLX.out, ← HLY.out, h])))
        have g1 : ¬ (la : Int) = (lb : Int) := by omega
        have g2 : ((la : Int) != (lb : Int)) = true := by simp; omega
        clear rx ry dx dy hly hW kW hb hlx hlyy q0 q1 hxs hys hao hbo hla hca hlb hcb HXY HNE HLX HLY hlen
        go_wp2_with (rw [← HW.out])
        go_ret
        exact ⟨by rw [HF.out]; rfl, HKW.out⟩
    · have hk1 : ¬ (k : Int) < (n : Int) := by omega
      have e : k = n := by omega
      subst e
      have HT : Hid (R = true) := HRR.out.2 hall.out
      go_wp2_with fail
      go_ret
      exact ⟨by rw [HT.out]; rfl, HK.out⟩

end Go.Proofs.YtiljkgoafknefaaGreat
