/- Put together of: Kex8 Kex9 WKeyPublic. -/
import Derived.Test.YtiljkgoafknefaaGreatPk2
import Derived.Test.YtiljkgoafknefaaGreatPk8
import Derived.Test.YtiljkgoafknefaaGreatPk39

/- Package key: Of from outside; alike; Check. (written by wip/gen/kex8.py) -/
namespace Go.Proofs.YtiljkgoafknefaaGreat
open Go.RowKit

set_option maxRecDepth 40000 in
set_option maxHeartbeats 4000000 in
/-- Of. -/
theorem kOf (ao bo : Option Addr) (L M cap dap : Nat) (xs ys : List Nat) (P Q e : Nat) (w : World) (hP : P = val 18446744073709551616 xs) (hQ : Q = val 18446744073709551616 ys) (hu : Row .u64 w (.slice ao L cap) xs) (hv : Row .u64 w (.slice bo M dap) ys) (hdx : Digs 18446744073709551616 xs) (hdy : Digs 18446744073709551616 ys) (hL : L ≤ 1000) (hM : M ≤ 1000) :
    Calls Tryz.prog 12 #[.slice ao L cap, .slice bo M dap, .int .u64 (e : Nat)] w fun r w' => ∃ kv E, r = .returned (.tuple #[.agg kv, .int .i64 ((E : Nat) : Int)]) ∧ ((E = 0 ∧ keyOk L M P Q e ∧ KeyAt w' P Q e kv) ∨ (E = 190 ∧ ¬ keyOk L M P Q e ∧ kv = zeroKey)) ∧ KeyFar w.heap.size kv ∧ Kept Nought w w' := by
  have hmf : ∀ (fn : Fn) (first cap : Array Value) (w : World), (Instr.makeFunc fn first cap).run Tryz.prog w = .ok (.func fn first cap) w := fun _ _ _ _ => rfl
  have he : ∀ args w, (callFunc 37 args).run Tryz.prog w = .ok (.enter 37 args) w := fun _ _ => by simp [go_sem]
  have hbx := boxes3 w (.slice ao L cap) (.slice bo M dap) (.int .u64 (e : Nat)) 23 23 24
  obtain ⟨W0, hW0⟩ : ∃ W0, W0 = ((w.alloc (.cells #[.slice ao L cap] 23)).alloc (.cells #[.slice bo M dap] 23)).alloc (.cells #[.int .u64 (e : Nat)] 24) := ⟨_, rfl⟩
  rw [← hW0] at hbx
  obtain ⟨k0, x1, x2, x3, hs⟩ := hbx
  obtain ⟨W, hW⟩ : ∃ W, W = W0.alloc (.cells zeroKey 32) := ⟨_, rfl⟩
  have kW : Kept Nought W0 W := by rw [hW]; exact (Kept.refl Nought W0).alloc _
  have hsW : W.heap.size = W0.heap.size + 1 := by rw [hW]; simp
  have bK : W.heap[W0.heap.size]? = some (.cells zeroKey 32 (0, 0)) := by rw [hW]; exact heap_alloc_new _ _
  rw [hs] at bK hsW
  have kE := (Kept.refl Nought W).alloc (.cells #[.int .i64 0] 27)
  have xe : Box (W.alloc (.cells #[.int .i64 0] 27)) W.heap.size (.int .i64 0) 27 := Box.new W (.int .i64 0) 27
  have hsz : (W.alloc (.cells #[.int .i64 0] 27)).heap.size = W.heap.size + 1 := by simp
  have k1 : Kept Nought w (W.alloc (.cells #[.int .i64 0] 27)) := (k0.trans kW).trans kE
  have bK1 : (W.alloc (.cells #[.int .i64 0] 27)).heap[w.heap.size + 1 + 1 + 1]? = some (.cells zeroKey 32 (0, 0)) := heapAt_alloc bK
  have c0 := ((x1.grew kW).grew kE).cell
  have c1 := ((x2.grew kW).grew kE).cell
  have c2 := ((x3.grew kW).grew kE).cell
  have hEnd : Calls Tryz.prog 37 #[.pointer (some ⟨w.heap.size, 0, none⟩), .pointer (some ⟨w.heap.size + 1, 0, none⟩), .pointer (some ⟨w.heap.size + 1 + 1, 0, none⟩), .pointer (some ⟨w.heap.size + 1 + 1 + 1, 0, none⟩)] (W.alloc (.cells #[.int .i64 0] 27)) fun r w' => OfEnd L M P Q e W.heap.size (w.heap.size + 1 + 1 + 1) w (W.alloc (.cells #[.int .i64 0] 27)) r w' := by
    by_cases hA : L ≤ 300 ∧ halfOk P
    · by_cases hB : M ≤ 300 ∧ halfOk Q
      · by_cases hC : pubE (keyWords P Q) e = 0
        · by_cases hD : Nat.gcd Q P = 1
          · by_cases hE : Nat.gcd (comN P Q) e = 1
            · exact kOf1F _ _ _ _ ao bo L M cap dap xs ys P Q e _ hP hQ hA hB hC hD hE _ _ (hu.grew k1) (hv.grew k1) hdx hdy c0 c1 c2 k1 (by omega) hsz bK1
            · exact kOf1E _ _ _ _ ao bo L M cap dap xs ys P Q e _ hP hQ hA hB hC hD hE _ _ (hu.grew k1) (hv.grew k1) hdx hdy c0 c1 c2
          · exact kOf1D _ _ _ _ ao bo L M cap dap xs ys P Q e _ hP hQ hA hB hC hD _ _ (hu.grew k1) (hv.grew k1) hdx hdy c0 c1 c2
        · exact kOf1C _ _ _ _ ao bo L M cap dap xs ys P Q e _ hP hQ hA hB hC _ _ (hu.grew k1) (hv.grew k1) hdx hdy c0 c1 c2
      · exact kOf1B _ _ _ _ ao bo L M cap dap xs ys P Q e _ hP hQ hM hA hB _ _ (hu.grew k1) (hv.grew k1) hdx hdy c0 c1
    · exact kOf1A _ _ _ _ ao bo L M cap dap xs P Q e _ hP hL hA _ _ (hu.grew k1) hdx c0 c1
  have hAt := kAttempt 37 _ W (fun n W' => (n = 0 ∧ keyOk L M P Q e ∧ ∃ kv, W'.heap[w.heap.size + 1 + 1 + 1]? = some (.cells kv 32 (0, 0)) ∧ KeyAt W' P Q e kv ∧ KeyFar W.heap.size kv ∧ Kept Nought w W') ∨ (n = 190 ∧ ¬ keyOk L M P Q e ∧ W'.heap[w.heap.size + 1 + 1 + 1]? = some (.cells zeroKey 32 (0, 0)) ∧ Kept Nought w W')) he (hEnd.mono (by
    rintro r w' (⟨hok, rfl, kv, h1, h2, h3, h4, h5⟩ | ⟨hno, rfl, h1⟩)
    · exact ⟨xe.kept h4 (by omega), .inl ⟨rfl, .inl ⟨rfl, hok, kv, h1, h2, h3, h5⟩⟩⟩
    · exact ⟨xe.grew h1, .inr ⟨_, rfl, .inr ⟨rfl, hno, (h1.block _ (lt_of_block bK1) (fun f => f)).trans bK1, k1.trans h1⟩⟩⟩))
  have HW0 := toHid hW0
  have HW := toHid hW
  have HSW := toHid hsW
  have HS0 := toHid hs
  clear hu hv hdx hdy hP hQ hL hM k0 kW kE k1 x1 x2 x3 xe hs hsz hW0 hW hsW bK bK1 c0 c1 c2 he hEnd
  unfold zeroKey at HW
  go_enter Tryz.func12, Tryz.ntmps12
  go_wp2_with (first | rw [← HW0.out] | rw [← HW.out])
  rw [HS0.out]
  refine hAt.mono ?_
  rintro r w' ⟨n, w1, rfl, ⟨hq, hbe⟩, rfl⟩
  clear hAt
  rcases hq with ⟨rfl, hok, kv, hx, hat, hfar, hk⟩ | ⟨rfl, hno, hx, hk⟩
  · obtain ⟨vn, vd, vp, vq, vdp, vdq, vqi, d, u, rfl, rn, hd1, hd2, rd, rp, rq, rdp, rdq, hu1, hu2, rqi⟩ := hat
    obtain ⟨no, nl, nc, rfl, -, -, -, -, -⟩ := rn.open
    obtain ⟨dO, dl, dc, rfl, -, -, -, -, -⟩ := rd.open
    obtain ⟨po, pl, pc, rfl, -, -, -, -, -⟩ := rp.open
    obtain ⟨qo, ql, qc, rfl, -, -, -, -, -⟩ := rq.open
    obtain ⟨dpo, dpl, dpc, rfl, -, -, -, -, -⟩ := rdp.open
    obtain ⟨dqo, dql, dqc, rfl, -, -, -, -, -⟩ := rdq.open
    obtain ⟨qio, qil, qic, rfl, -, -, -, -, -⟩ := rqi.open
    have hat : KeyAt w1 P Q e #[.slice no nl nc, .int .u64 (e : Nat), .slice dO dl dc, .slice po pl pc, .slice qo ql qc, .slice dpo dpl dpc, .slice dqo dql dqc, .slice qio qil qic] := ⟨_, _, _, _, _, _, _, d, u, rfl, rn, hd1, hd2, rd, rp, rq, rdp, rdq, hu1, hu2, rqi⟩
    have kb := kept_box w1 W.heap.size (.int .i64 0)
    have hat2 := hat.kept kb (fun v hv x hx hxe => by have := hfar v hv x hx; omega)
    have hx2 := heapAt_set hx (a := ⟨W.heap.size, 0, none⟩) (by show _ ≠ W.heap.size; have := HSW.out; omega) (.int .i64 0)
    have hk2 := hk.next kb (fun x hx e => by have := HSW.out; omega)
    obtain ⟨z1, z2, z3⟩ := stored8 hk2 (by omega : w.heap.size ≤ w.heap.size + 1 + 1 + 1) hx2 (.slice no nl nc) (.int .u64 (e : Nat)) (.slice dO dl dc) (.slice po pl pc) (.slice qo ql qc) (.slice dpo dpl dpc) (.slice dqo dql dqc) (.slice qio qil qic)
    unfold put8w at z1 z2 z3
    have HAT := toHid (hat2.kept z3 (fun v hv x hx hxe => by have h1 := hfar v hv x hx; have h2 := HSW.out; omega))
    have HFAR : Hid (KeyFar w.heap.size #[.slice no nl nc, .int .u64 (e : Nat), .slice dO dl dc, .slice po pl pc, .slice qo ql qc, .slice dpo dpl dpc, .slice dqo dql dqc, .slice qio qil qic]) := fun v hv x hx => by have h1 := hfar v hv x hx; have h2 := HSW.out; omega
    have HKF := toHid z2
    obtain ⟨r0, r1, r2, r3, r4, r5, r6, r7⟩ := cells8 z1
    obtain ⟨c0, c1, c2, c3, c4, c5, c6, c7⟩ := cells8 hx2
    have f0 := frees8 hx2 0
    have f1 := frees8 hx2 1
    have f2 := frees8 hx2 2
    have f3 := frees8 hx2 3
    have f4 := frees8 hx2 4
    have f5 := frees8 hx2 5
    have f6 := frees8 hx2 6
    have f7 := frees8 hx2 7
    have HOK := toHid hok
    clear rn rd rp rq rdp rdq rqi hat kb hat2 hx hk hk2 hfar hx2 z1 z2 z3 hbe hok hd1 hd2 hu1 hu2
    generalize w1.setCell ⟨W.heap.size, 0, none⟩ (.int .i64 0) = W2 at *
    go_wp2_with fail
    exact bodyPost_ret (v := .tuple #[.agg #[.slice no nl nc, .int .u64 (e : Nat), .slice dO dl dc, .slice po pl pc, .slice qo ql qc, .slice dpo dpl dpc, .slice dqo dql dqc, .slice qio qil qic], .int .i64 0]) (by simp [results, Tryz.results12, go_sem, r0, r1, r2, r3, r4, r5, r6, r7]) rfl ⟨_, 0, rfl, .inl ⟨rfl, HOK.out, HAT.out⟩, HFAR.out, HKF.out⟩
  · have kb := kept_box w1 W.heap.size (.int .i64 190)
    have hx2 := heapAt_set hx (a := ⟨W.heap.size, 0, none⟩) (by show _ ≠ W.heap.size; have := HSW.out; omega) (.int .i64 190)
    have hk2 := hk.next kb (fun x hx e => by have := HSW.out; omega)
    obtain ⟨z1, z2, -⟩ := stored8 hk2 (by omega : w.heap.size ≤ w.heap.size + 1 + 1 + 1) hx2 (.slice none 0 0) (.int .u64 0) (.slice none 0 0) (.slice none 0 0) (.slice none 0 0) (.slice none 0 0) (.slice none 0 0) (.slice none 0 0)
    unfold put8w at z1 z2
    have HKF := toHid z2
    obtain ⟨r0, r1, r2, r3, r4, r5, r6, r7⟩ := cells8 z1
    obtain ⟨c0, c1, c2, c3, c4, c5, c6, c7⟩ := cells8 hx2
    have f0 := frees8 hx2 0
    have f1 := frees8 hx2 1
    have f2 := frees8 hx2 2
    have f3 := frees8 hx2 3
    have f4 := frees8 hx2 4
    have f5 := frees8 hx2 5
    have f6 := frees8 hx2 6
    have f7 := frees8 hx2 7
    have HNO := toHid hno
    clear kb hx hk hk2 hx2 z1 z2 hbe hno
    generalize w1.setCell ⟨W.heap.size, 0, none⟩ (.int .i64 190) = W2 at *
    go_wp2_with fail
    exact bodyPost_ret (v := .tuple #[.agg zeroKey, .int .i64 190]) (by simp [results, Tryz.results12, go_sem, r0, r1, r2, r3, r4, r5, r6, r7]) rfl ⟨_, 190, rfl, .inr ⟨rfl, HNO.out, rfl⟩, zeroKey_far _, HKF.out⟩

set_option maxRecDepth 20000 in
set_option maxHeartbeats 2000000 in
/-- alike: whether the numbers of each pair are the same. -/
theorem kAlike (b n : Nat) (hn : n ≤ 1000) (A A' : Nat → Option Addr) (F G F' G' : Nat → Nat) (X Y : Nat → List Nat) (w : World)
    (hc : ∀ i, i < n → w.cell? ⟨b, i * 2, none⟩ = some (.slice (A i) (F i) (G i)) ∧ w.cell? ⟨b, i * 2 + 1, none⟩ = some (.slice (A' i) (F' i) (G' i)))
    (hr : ∀ i, i < n → Row .u64 w (.slice (A i) (F i) (G i)) (X i) ∧ Row .u64 w (.slice (A' i) (F' i) (G' i)) (Y i) ∧ Digs 18446744073709551616 (X i) ∧ Digs 18446744073709551616 (Y i) ∧ (Y i).length ≤ 1000) (R : Bool) (hR : R = true ↔ ∀ i, i < n → X i = Y i) :
    Calls Tryz.prog 55 #[.slice (some ⟨b, 0, none⟩) n n] w fun e w' => e = .returned (.bool R) ∧ Kept Nought w w' := by
  have HC := toHid hc
  have HR := toHid hr
  have HRR := toHid hR
  clear hc hr hR
  go_enter Tryz.func55, Tryz.ntmps55
  go_wp2_with fail
  go_loopw [7] (fun i wr => ∃ k : Nat, k ≤ n ∧ i = .int .i64 (k : Int) ∧ Hid (∀ j, j < k → X j = Y j) ∧ Hid (Kept Nought w wr)) (fun i _ => ((n : Int) - intOf i).toNat)
  case atStart => exact ⟨0, Nat.zero_le _, rfl, fun j hj => by omega, Kept.refl _ _⟩
  case round =>
    obtain ⟨k, hk, rfl, hall, HK⟩ := hrel
    by_cases hkn : k < n
    · have hk1 : (k : Int) < (n : Int) := by omega
      obtain ⟨q0, q1⟩ := HC.out k hkn
      have p0 := HK.out.cellN q0
      have p1 := HK.out.cellN q1
      obtain ⟨rx, ry, dx, dy, hly⟩ := HR.out k hkn
      have rx := rx.grew HK.out
      have ry := ry.grew HK.out
      obtain ⟨xs, hxs⟩ : ∃ xs, xs = X k := ⟨_, rfl⟩
      obtain ⟨ys, hys⟩ : ∃ ys, ys = Y k := ⟨_, rfl⟩
      obtain ⟨ao, hao⟩ : ∃ ao, ao = A k := ⟨_, rfl⟩
      obtain ⟨bo, hbo⟩ : ∃ bo, bo = A' k := ⟨_, rfl⟩
      obtain ⟨la, hla⟩ : ∃ la, la = F k := ⟨_, rfl⟩
      obtain ⟨ca, hca⟩ : ∃ ca, ca = G k := ⟨_, rfl⟩
      obtain ⟨lb, hlb⟩ : ∃ lb, lb = F' k := ⟨_, rfl⟩
      obtain ⟨cb, hcb⟩ : ∃ cb, cb = G' k := ⟨_, rfl⟩
      rw [← hao, ← hla, ← hca] at p0 rx
      rw [← hbo, ← hlb, ← hcb] at p1 ry
      rw [← hxs] at rx dx
      rw [← hys] at ry dy hly
      have HXY : Hid (xs = ys → ∀ j, j < k + 1 → X j = Y j) := fun h j hj => by
        by_cases e : j = k
        · subst e; rw [← hxs, ← hys]; exact h
        · exact hall.out j (by omega)
      have HNE : Hid (xs ≠ ys → R = false) := fun h => by
        cases e : R with
        | false => rfl
        | true => exact absurd (by rw [hxs, hys]; exact HRR.out.1 e k hkn) h
      obtain ⟨_, _, _, e1, hlx, -, -, -, -⟩ := rx.open
      cases e1
      obtain ⟨_, _, _, e1, hlyy, -, -, -, -⟩ := ry.open
      cases e1
      obtain ⟨W, hW⟩ : ∃ W, W = wr.alloc (.cells #[.slice ao la ca, .slice bo lb cb] 77) := ⟨_, rfl⟩
      have kW : Kept Nought wr W := by rw [hW]; exact (Kept.refl Nought wr).alloc _
      have hb : W.heap[wr.heap.size]? = some (.cells #[.slice ao la ca, .slice bo lb cb] 77 (0, 0)) := by rw [hW]; exact heap_alloc_new _ _
      have s0 : W.cell? ⟨wr.heap.size, 0, none⟩ = some (.slice ao la ca) := (cell_of_row W _ 0 _ _ _ hb).trans rfl
      have s1 : W.cell? ⟨wr.heap.size, 1, none⟩ = some (.slice bo lb cb) := (cell_of_row W _ 1 _ _ _ hb).trans rfl
      have HW := toHid hW
      have HKW := toHid (HK.out.trans kW)
      have HLX := toHid hlx.out
      have HLY := toHid hlyy.out
      by_cases hlen : la = lb
      · have J := lEqual0 _ _ xs ys W (rx.grew kW) (ry.grew kW) dx dy (by rw [hlx.out, hlen, ← hlyy.out]; omega) (by omega)
        have g0 : ¬ (la : Int) ≠ (lb : Int) := by omega
        have g1 : (la : Int) = (lb : Int) := by omega
        have g2 : ((la : Int) != (lb : Int)) = false := by simpa using g1
        by_cases hv : val 18446744073709551616 xs = val 18446744073709551616 ys
        · have hxy : xs = ys := by
            have i1 : xs = digs 18446744073709551616 (val 18446744073709551616 xs) la := digs_val (by omega) dx hlx.out (by rw [Nat.mod_eq_of_lt]; rw [← hlx.out]; exact val_lt (by omega) dx)
            have i2 : ys = digs 18446744073709551616 (val 18446744073709551616 ys) la := digs_val (by omega) dy (by rw [hlyy.out, hlen]) (by rw [Nat.mod_eq_of_lt]; rw [hlen, ← hlyy.out]; exact val_lt (by omega) dy)
            rw [i1, i2, hv]
          have HT := toHid (HXY.out hxy)
          rw [decide_eq_true hv] at J
          have J' : Calls Tryz.prog 81 #[.pointer none, .slice ao la ca, .slice bo lb cb] W fun e w' => e = .returned (.int .u64 1) ∧ Kept Nought W w' := J
          clear rx ry dx dy hly hW kW hb hlx hlyy hv J q0 q1 hxs hys hao hbo hla hca hlb hcb HXY HNE HLX HLY hxy hlen
          go_wp2_with (rw [← HW.out])
          refine J'.mono ?_
          rintro e w5 ⟨rfl, k5⟩
          have HK5 := toHid (HKW.out.trans k5)
          clear J' k5 g0 g1 g2
          go_wp2_with fail
          go_roundw
          case rel => exact ⟨k + 1, by omega, by go_num, HT.out, HK5.out⟩
          case measure => simp [intOf]; omega
        · have HF := toHid (HNE.out (fun h => hv (by rw [h])))
          rw [decide_eq_false hv] at J
          have J' : Calls Tryz.prog 81 #[.pointer none, .slice ao la ca, .slice bo lb cb] W fun e w' => e = .returned (.int .u64 0) ∧ Kept Nought W w' := J
          clear rx ry dx dy hly hW kW hb hlx hlyy hv J q0 q1 hxs hys hao hbo hla hca hlb hcb HXY HNE HLX HLY hlen
          go_wp2_with (rw [← HW.out])
          refine J'.mono ?_
          rintro e w5 ⟨rfl, k5⟩
          have HK5 := toHid (HKW.out.trans k5)
          clear J' k5 g0 g1 g2
          go_wp2_with fail
          go_ret
          exact ⟨by rw [HF.out]; rfl, HK5.out⟩
      · have HF := toHid (HNE.out (fun h => hlen (by rw [← HLX.out, ← HLY.out, h])))
        have g1 : ¬ (la : Int) = (lb : Int) := by omega
        have g2 : ((la : Int) != (lb : Int)) = true := by simp; omega
        clear rx ry dx dy hly hW kW hb hlx hlyy q0 q1 hxs hys hao hbo hla hca hlb hcb HXY HNE HLX HLY hlen
        go_wp2_with (rw [← HW.out])
        go_ret
        exact ⟨by rw [HF.out]; rfl, HKW.out⟩
    · have hk1 : ¬ (k : Int) < (n : Int) := by omega
      have e : k = n := by omega
      subst e
      have HT : Hid (R = true) := HRR.out.2 hall.out
      go_wp2_with fail
      go_ret
      exact ⟨by rw [HT.out]; rfl, HK.out⟩

end Go.Proofs.YtiljkgoafknefaaGreat


/- Package key: Check; the landed functions answer as the laws of layer 19 want. (written by wip/gen/kex8.py) -/
namespace Go.Proofs.YtiljkgoafknefaaGreat
open Go.RowKit

set_option maxRecDepth 40000 in
set_option maxHeartbeats 8000000 in
/-- What Check attempts. -/
theorem kChk1 (b : Nat) (s : KS) (l : KL) (E : Nat) (hE : (E = 0 ∧ KeyGood l.n l.d l.p l.q l.dp l.dq l.qi s.en) ∨ (E = 190 ∧ ¬ KeyGood l.n l.d l.p l.q l.dp l.dq l.qi s.en)) (hpl : s.pl ≤ 1000) (hql : s.ql ≤ 1000) (w : World) (hr : s.Rows w l) (hd : l.Digs) (hx : w.heap[b]? = some (.cells s.v 32 (0, 0))) :
    Calls Tryz.prog 53 #[.pointer (some ⟨b, 0, none⟩)] w fun r w' => AttE E r ∧ Kept Nought w w' := by
  obtain ⟨_, _, _, e1, hlp, -, -, -, -⟩ := hr.p.open
  cases e1
  obtain ⟨_, _, _, e1, hlq, -, -, -, -⟩ := hr.q.open
  cases e1
  have hO := (kOf s.po s.qo s.pl s.ql s.pc s.qc l.p l.q _ _ s.en w rfl rfl hr.p hr.q hd.p hd.q hpl hql).mono fun _ _ h => of19 h
  have JC : Hid (∀ W, Kept Nought w W → W.cell? ⟨b, 0, none⟩ = some (.slice s.no s.nl s.nc) ∧ W.cell? ⟨b, 1, none⟩ = some (.int .u64 ((s.en : Nat) : Int)) ∧ W.cell? ⟨b, 2, none⟩ = some (.slice s.dO s.dl s.dc) ∧ W.cell? ⟨b, 3, none⟩ = some (.slice s.po s.pl s.pc) ∧ W.cell? ⟨b, 4, none⟩ = some (.slice s.qo s.ql s.qc) ∧ W.cell? ⟨b, 5, none⟩ = some (.slice s.dpo s.dpl s.dpc) ∧ W.cell? ⟨b, 6, none⟩ = some (.slice s.dqo s.dql s.dqc) ∧ W.cell? ⟨b, 7, none⟩ = some (.slice s.qio s.qil s.qic)) := fun W k => cells8 ((k.block _ (lt_of_block hx) (fun f => f)).trans hx)
  obtain ⟨c0, c1, c2, c3, c4, c5, c6, c7⟩ := JC.out w (Kept.refl _ _)
  have hG : ∀ (E2 en : Nat) (m : KL), KeySays s.pl s.ql (val 18446744073709551616 l.p) (val 18446744073709551616 l.q) s.en E2 en m → (KeyGood l.n l.d l.p l.q l.dp l.dq l.qi s.en ↔ E2 = 0 ∧ l = m) := fun E2 en m hs => by
    constructor
    · rintro ⟨hok, d, u, hrows⟩
      rw [hlp.out, hlq.out] at hok
      have h0 : KeySays s.pl s.ql (val 18446744073709551616 l.p) (val 18446744073709551616 l.q) s.en 0 s.en l := .inl ⟨rfl, hok, rfl, d, u, hrows⟩
      obtain ⟨h1, _, h2⟩ := hs.uniq h0
      exact ⟨h1.symm, h2⟩
    · rintro ⟨rfl, rfl⟩
      rcases hs with ⟨_, hok, rfl, d, u, hrows⟩ | ⟨h, _⟩
      · exact ⟨by rw [hlp.out, hlq.out]; exact hok, d, u, hrows⟩
      · exact absurd h (by decide)
  have HG := toHid hG
  have HE := toHid hE
  have HR := toHid hr
  have HD := toHid hd
  clear hr hd hx hE hlp hlq hG hpl hql
  go_enter Tryz.func53, Tryz.ntmps53
  go_wp2_with fail
  refine hO.mono ?_
  rintro r w1 ⟨t, E2, rfl, m, hr1, hs1, _, k1⟩
  have HS1 := toHid hs1
  have HR1 := toHid hr1
  have HK1 := toHid k1
  clear hO c0 c1 c2 c3 c4 c5 c6 c7 hr1 k1
  unfold KS.v
  rcases hs1 with ⟨rfl, -, -, d, u, hrows⟩ | ⟨rfl, hno, -, -⟩
  · have HLN : Hid (m.n.length ≤ 1000 ∧ m.d.length ≤ 1000 ∧ m.p.length ≤ 1000 ∧ m.q.length ≤ 1000 ∧ m.dp.length ≤ 1000 ∧ m.dq.length ≤ 1000 ∧ m.qi.length ≤ 1000) := by
      obtain ⟨hok⟩ : Nonempty (keyOk s.pl s.ql (val 18446744073709551616 l.p) (val 18446744073709551616 l.q) s.en) := by
        rcases HS1.out with ⟨_, h, _⟩ | ⟨h, _⟩
        · exact ⟨h⟩
        · exact absurd h (by decide)
      obtain ⟨_, _, _, _, a1, a2, a3, a4, a5, a6, a7⟩ := hrows
      have hw1 : wordsN (val 18446744073709551616 l.p) ≤ 128 := words_of_bits (n := 128) (by have := hok.2.1.2.2; omega)
      have hw2 : wordsN (val 18446744073709551616 l.q) ≤ 128 := words_of_bits (n := 128) (by have := hok.2.2.1.2.2; omega)
      have hw3 : (keyWords (val 18446744073709551616 l.p) (val 18446744073709551616 l.q)).length ≤ 1000 := by
        have h := hok.2.2.2.2.1
        unfold pubE at h
        by_cases hc : 1000 < (keyWords (val 18446744073709551616 l.p) (val 18446744073709551616 l.q)).length
        · rw [if_pos (.inr (.inl hc))] at h
          exact absurd h (by decide)
        · omega
      rw [a1, a2, a3, a4, a5, a6, a7]
      simp only [digs_length]
      refine ⟨hw3, hw3, ?_, ?_, ?_, ?_, ?_⟩ <;> exact Nat.max_le.2 ⟨by omega, by omega⟩
    have J2 := kStepK t.no t.dO t.po t.qo t.dpo t.dqo t.qio t.nl t.nc t.en t.dl t.dc t.pl t.pc t.ql t.qc t.dpl t.dpc t.dql t.dqc t.qil t.qic w1
    clear hrows
    go_wp2_with fail
    refine J2.mono ?_
    rintro r w2 ⟨rfl, k2⟩
    obtain ⟨W, hW⟩ : ∃ W, W = w2.alloc (.cells t.v 32) := ⟨_, rfl⟩
    have kW : Kept Nought w2 W := by rw [hW]; exact (Kept.refl Nought w2).alloc _
    have hxW : W.heap[w2.heap.size]? = some (.cells t.v 32 (0, 0)) := by rw [hW]; exact heap_alloc_new _ _
    obtain ⟨d0, d1, d2, d3, d4, d5, d6, d7⟩ := cells8 hxW
    obtain ⟨c0, c1, c2, c3, c4, c5, c6, c7⟩ := JC.out W ((HK1.out.trans k2).trans kW)
    obtain ⟨V, hV⟩ : ∃ V, V = W.alloc (.cells #[.slice s.no s.nl s.nc, .slice t.no t.nl t.nc, .slice s.dO s.dl s.dc, .slice t.dO t.dl t.dc, .slice s.po s.pl s.pc, .slice t.po t.pl t.pc, .slice s.qo s.ql s.qc, .slice t.qo t.ql t.qc, .slice s.dpo s.dpl s.dpc, .slice t.dpo t.dpl t.dpc, .slice s.dqo s.dql s.dqc, .slice t.dqo t.dql t.dqc, .slice s.qio s.qil s.qic, .slice t.qio t.qil t.qic] 77) := ⟨_, rfl⟩
    have kV : Kept Nought W V := by rw [hV]; exact (Kept.refl Nought W).alloc _
    have hxV := heap_alloc_new W (.cells #[.slice s.no s.nl s.nc, .slice t.no t.nl t.nc, .slice s.dO s.dl s.dc, .slice t.dO t.dl t.dc, .slice s.po s.pl s.pc, .slice t.po t.pl t.pc, .slice s.qo s.ql s.qc, .slice t.qo t.ql t.qc, .slice s.dpo s.dpl s.dpc, .slice t.dpo t.dpl t.dpc, .slice s.dqo s.dql s.dqc, .slice t.dqo t.dql t.dqc, .slice s.qio s.qil s.qic, .slice t.qio t.qil t.qic] 77)
    rw [← hV] at hxV
    have HKV := toHid (((HK1.out.trans k2).trans kW).trans kV)
    have kk1 := (k2.trans kW).trans kV
    have hsr := HR.out.grew HKV.out
    have htr := HR1.out.grew kk1
    have htd := HS1.out.digs
    have hsd := HD.out
    obtain ⟨h1, h2, h3, h4, h5, h6, h7⟩ := HLN.out
    obtain ⟨R, hR⟩ : ∃ R : Bool, (R = true ↔ l = m) := by
      by_cases h : l = m
      · exact ⟨true, iff_of_true rfl h⟩
      · exact ⟨false, iff_of_false (by decide) h⟩
    have JA := kAlike W.heap.size 7 (by omega) (fun i => [s.no, s.dO, s.po, s.qo, s.dpo, s.dqo, s.qio].getD i none) (fun i => [t.no, t.dO, t.po, t.qo, t.dpo, t.dqo, t.qio].getD i none) (fun i => [s.nl, s.dl, s.pl, s.ql, s.dpl, s.dql, s.qil].getD i 0) (fun i => [s.nc, s.dc, s.pc, s.qc, s.dpc, s.dqc, s.qic].getD i 0) (fun i => [t.nl, t.dl, t.pl, t.ql, t.dpl, t.dql, t.qil].getD i 0) (fun i => [t.nc, t.dc, t.pc, t.qc, t.dpc, t.dqc, t.qic].getD i 0) (fun i => [l.n, l.d, l.p, l.q, l.dp, l.dq, l.qi].getD i []) (fun i => [m.n, m.d, m.p, m.q, m.dp, m.dq, m.qi].getD i []) V
      (fun i hi => by
        have : i = 0 ∨ i = 1 ∨ i = 2 ∨ i = 3 ∨ i = 4 ∨ i = 5 ∨ i = 6 := by omega
        rcases this with rfl | rfl | rfl | rfl | rfl | rfl | rfl <;> exact ⟨(cell_of_row V _ _ _ _ _ hxV).trans rfl, (cell_of_row V _ _ _ _ _ hxV).trans rfl⟩)
      (fun i hi => by
        have : i = 0 ∨ i = 1 ∨ i = 2 ∨ i = 3 ∨ i = 4 ∨ i = 5 ∨ i = 6 := by omega
        rcases this with rfl | rfl | rfl | rfl | rfl | rfl | rfl
        · exact ⟨hsr.n, htr.n, hsd.n, htd.n, h1⟩
        · exact ⟨hsr.d, htr.d, hsd.d, htd.d, h2⟩
        · exact ⟨hsr.p, htr.p, hsd.p, htd.p, h3⟩
        · exact ⟨hsr.q, htr.q, hsd.q, htd.q, h4⟩
        · exact ⟨hsr.dp, htr.dp, hsd.dp, htd.dp, h5⟩
        · exact ⟨hsr.dq, htr.dq, hsd.dq, htd.dq, h6⟩
        · exact ⟨hsr.qi, htr.qi, hsd.qi, htd.qi, h7⟩) R (hR.trans ⟨fun h i hi => by rw [h], fun h => by
          have g0 : l.n = m.n := h 0 (by omega)
          have g1 : l.d = m.d := h 1 (by omega)
          have g2 : l.p = m.p := h 2 (by omega)
          have g3 : l.q = m.q := h 3 (by omega)
          have g4 : l.dp = m.dp := h 4 (by omega)
          have g5 : l.dq = m.dq := h 5 (by omega)
          have g6 : l.qi = m.qi := h 6 (by omega)
          cases l
          cases m
          simp only at g0 g1 g2 g3 g4 g5 g6
          subst g0 g1 g2 g3 g4 g5 g6
          rfl⟩)
    have HGG := toHid ((HG.out 0 _ m HS1.out).trans ⟨fun h => h.2, fun h => ⟨rfl, h⟩⟩)
    have HRR := toHid hR
    have HWW := toHid hW
    have HVV := toHid hV
    clear J2 k2 hW kW hxW hV kV hxV kk1 hsr htr htd hsd h1 h2 h3 h4 h5 h6 h7 hR HR HR1 HD HG HS1 HLN HK1 JC
    unfold KS.v at HWW
    go_wp2_with (first | rw [← HWW.out] | rw [← HVV.out])
    refine JA.mono ?_
    rintro r w4 ⟨rfl, k4⟩
    have HK4 := toHid (HKV.out.trans k4)
    clear JA k4 HKV d0 d1 d2 d3 d4 d5 d6 d7 c0 c1 c2 c3 c4 c5 c6 c7 HWW HVV
    cases R with
    | true =>
      have hRf := kRefuseNo 190 w4
      have hE0 : Hid (E = 0) := by
        rcases HE.out with ⟨h, _⟩ | ⟨_, h⟩
        · exact h
        · exact absurd (HGG.out.2 (HRR.out.1 rfl)) h
      clear HE HGG HRR
      go_wp2_with fail
      refine hRf.mono ?_
      rintro r w5 ⟨rfl, rfl⟩
      go_wp2
      go_end0
      rw [hE0.out]
      exact ⟨.ok, HK4.out⟩
    | false =>
      have hRf := kRefuseYes 190 w4
      have hE0 : Hid (E = 190) := by
        rcases HE.out with ⟨_, h⟩ | ⟨h, _⟩
        · exact absurd (HRR.out.2 (HGG.out.1 h)) (by decide)
        · exact h
      clear HE HGG HRR
      go_wp2_with fail
      refine hRf.mono ?_
      rintro r w5 ⟨rfl, rfl⟩
      exact ⟨rfl, by rw [hE0.out]; exact .no (by decide), HK4.out⟩
  · have J2 := kStepKE t.no t.dO t.po t.qo t.dpo t.dqo t.qio t.nl t.nc t.en t.dl t.dc t.pl t.pc t.ql t.qc t.dpl t.dpc t.dql t.dqc t.qil t.qic 190 (by decide) w1
    have hE0 : Hid (E = 190) := by
      rcases HE.out with ⟨_, h⟩ | ⟨h, _⟩
      · exact absurd ((HG.out 190 _ m HS1.out).1 h).1 (by decide)
      · exact h
    clear HE HG HR HR1 HD HS1 JC hno
    go_wp2_with fail
    refine J2.mono ?_
    rintro r w2 ⟨rfl, k2⟩
    exact ⟨rfl, by rw [hE0.out]; exact .no (by decide), HK1.out.trans k2⟩

set_option maxRecDepth 20000 in
set_option maxHeartbeats 2000000 in
/-- Check. -/
theorem kChk (s : KS) (l : KL) (E : Nat) (hE : (E = 0 ∧ KeyGood l.n l.d l.p l.q l.dp l.dq l.qi s.en) ∨ (E = 190 ∧ ¬ KeyGood l.n l.d l.p l.q l.dp l.dq l.qi s.en)) (hpl : s.pl ≤ 1000) (hql : s.ql ≤ 1000) (w : World) (hr : s.Rows w l) (hd : l.Digs) :
    Calls Tryz.prog 16 #[.agg s.v] w fun r w' => r = .returned (.int .i64 (E : Nat)) ∧ Kept Nought w w' := by
  have hmf : ∀ (fn : Fn) (first cap : Array Value) (w : World), (Instr.makeFunc fn first cap).run Tryz.prog w = .ok (.func fn first cap) w := fun _ _ _ _ => rfl
  have he : ∀ args w, (callFunc 53 args).run Tryz.prog w = .ok (.enter 53 args) w := fun _ _ => by simp [go_sem]
  obtain ⟨W, hW⟩ : ∃ W, W = w.alloc (.cells s.v 32) := ⟨_, rfl⟩
  have k0 : Kept Nought w W := by rw [hW]; exact (Kept.refl Nought w).alloc _
  have hx : W.heap[w.heap.size]? = some (.cells s.v 32 (0, 0)) := by rw [hW]; exact heap_alloc_new _ _
  have kE := (Kept.refl Nought W).alloc (.cells #[.int .i64 0] 27)
  have hA := kAttemptK 53 #[.pointer (some ⟨w.heap.size, 0, none⟩)] W E he (kChk1 w.heap.size s l E hE hpl hql _ (hr.grew (k0.trans kE)) hd (heapAt_alloc hx))
  have HW := toHid hW
  have HK0 := toHid k0
  clear hE hpl hql hr hd hW k0 hx kE he
  unfold KS.v at HW ⊢
  go_enter Tryz.func16, Tryz.ntmps16
  go_wp2_with (rw [← HW.out])
  refine hA.mono ?_
  rintro r w1 ⟨rfl, k1⟩
  have HK1 := toHid (HK0.out.trans k1)
  clear hA k1
  go_wp2
  go_ret
  exact ⟨rfl, HK1.out⟩

theorem kcPub : KPub := fun ao L cap xs e w _ hu hd hL => kPub ao L cap xs e w hu hd hL

theorem kcOf : KOfC := fun ao bo L M cap dap xs ys P Q e w hP hQ _ hu hv hdx hdy hL hM => kOf ao bo L M cap dap xs ys P Q e w hP hQ hu hv hdx hdy hL hM

theorem kcSiz : KSiz := fun ao L cap xs w hu hd hL => kSiz ao L cap xs w hu hd hL

theorem kcChk : KChk := fun ano ado apo aqo adpo adqo aqio anl anc adl adc apl apc aql aqc adpl adpc adql adqc aqil aqic e ans ads aps aqs adps adqs aqis E w _ hE hn hd hp hq hdp hdq hqi gn gd gp gq gdp gdq gqi hpl hql =>
  kChk ⟨ano, anl, anc, e, ado, adl, adc, apo, apl, apc, aqo, aql, aqc, adpo, adpl, adpc, adqo, adql, adqc, aqio, aqil, aqic⟩ ⟨ans, ads, aps, aqs, adps, adqs, aqis⟩ E hE hpl hql w ⟨hn, hd, hp, hq, hdp, hdq, hqi⟩ ⟨gn, gd, gp, gq, gdp, gdq, gqi⟩

theorem kcCom : KCom := fun ao bo L M cap dap xs ys E RL w hE hRL hu hv hdx hdy hL hM => by
  by_cases hno : val 18446744073709551616 xs < 2 ∨ val 18446744073709551616 ys < 2
  · have hE1 : E = 1 := by rw [hE, comE, if_neg (by omega), if_pos hno]
    have h := kCom ao bo L M cap dap xs ys _ _ E RL rfl rfl hL hM (.inr ⟨hE1, hno⟩) (by rw [hRL, if_neg (by omega), if_neg (by omega)]) w hu hv hdx hdy
    exact h
  · have hE0 : E = 0 := by rw [hE, comE, if_neg (by omega), if_neg hno]
    have hp : ¬ wordsN (comN (val 18446744073709551616 xs) (val 18446744073709551616 ys)) ≤ 0 := fun h => by
      have h1 := (wordsN_le _ _).1 h
      rw [Nat.pow_zero] at h1
      have h2 : 1 ≤ (val 18446744073709551616 xs - 1) / Nat.gcd (val 18446744073709551616 xs - 1) (val 18446744073709551616 ys - 1) := Nat.div_pos (Nat.le_of_dvd (by omega) (Nat.gcd_dvd_left _ _)) (Nat.gcd_pos_of_pos_left _ (by omega))
      have h3 : 1 * 1 ≤ comN (val 18446744073709551616 xs) (val 18446744073709551616 ys) := Nat.mul_le_mul h2 (by omega)
      omega
    have h := kCom ao bo L M cap dap xs ys _ _ E RL rfl rfl hL hM (.inl ⟨hE0, by omega, by omega⟩) (by rw [hRL, if_pos hE0, if_pos hE0, Nat.max_eq_left (by omega)]) w hu hv hdx hdy
    exact h

end Go.Proofs.YtiljkgoafknefaaGreat


/- The walk of the statement on public keys, of the landed contracts. -/
namespace Go.Proofs.YtiljkgoafknefaaGreat
open Go.RowKit

set_option maxRecDepth 20000 in
set_option maxHeartbeats 1000000 in
theorem wKeyPublic (hC : KCom) (hS : KSiz) (hK : KChk) (hP : KPub) (u : Value) (xs : List Nat) (e : Int) (w : World) (hu : Row .u64 w u xs) (hdx : Digs 18446744073709551616 xs) (he : (Lit.int .u64 e).wf = true) :
    Calls Tryz.prog 3 #[u, .int .u64 e] w fun e w' => e = .returned (.bool true) ∧ Below w.heap.size w w' := by
  obtain ⟨he0, he1⟩ := bounds_u64 he
  obtain ⟨e, rfl⟩ := Int.eq_ofNat_of_zero_le he0
  have heb : e < 18446744073709551616 := by omega
  obtain ⟨ao, L, cap, rfl, hL, _, _, _, _⟩ := hu.open
  have hA := f19Awake hC hS hK w
  obtain ⟨E, hE⟩ : ∃ E, E = pubE xs e := ⟨_, rfl⟩
  have JF := toHid fun W (k : Kept Nought w W) (hl : L ≤ 1000) => hP ao L cap xs e W heb (hu.grew k) hdx hl
  have JR := toHid fun W (k : Kept Nought w W) (hl : L ≤ 1000) => r18Public ao L cap xs e heb E hE W (hu.grew k) hdx (by omega)
  rw [← hE] at JF
  clear hu hdx hL he hE hC hS hK hP
  by_cases hf : fewL L
  · have hl := hf.le
    have HF := toHid fun W => few19a ao L cap W true (iff_of_true rfl hf)
    clear hf
    go_enter Tryz.func3, Tryz.ntmps3
    go_wp2_with fail
    refine hA.mono ?_
    rintro r w1 ⟨rfl, k1⟩
    have HK2 := toHid (k1.alloc (.cells #[.slice ao L cap] 23))
    have J1 := HF.out w1
    clear hA k1
    go_wp2_with fail
    refine J1.mono ?_
    rintro r w2 ⟨rfl, rfl⟩
    generalize w1.alloc (.cells #[.slice ao L cap] 23) = w3 at *
    have J2 := JF.out w3 HK2.out (by omega)
    clear J1
    go_wp2_with fail
    refine J2.mono ?_
    rintro r w4 ⟨rfl, k4⟩
    have HK4 := toHid (HK2.out.trans k4)
    have J3 := JR.out w4 HK4.out (by omega)
    clear J2 k4
    go_wp2_with fail
    refine J3.mono ?_
    rintro r w5 ⟨rfl, k5⟩
    have HK5 := toHid (HK4.out.trans k5)
    clear J3 k5
    go_wp2_with fail
    go_ret
    exact ⟨by first | rfl | simp, below_kept HK5.out (Nat.le_refl _)⟩
  · have HF := toHid fun W => few19a ao L cap W false (iff_of_false (by decide) hf)
    go_enter Tryz.func3, Tryz.ntmps3
    go_wp2_with fail
    refine hA.mono ?_
    rintro r w1 ⟨rfl, k1⟩
    have HK2 := toHid (k1.alloc (.cells #[.slice ao L cap] 23))
    have J1 := HF.out w1
    clear hA k1
    go_wp2_with fail
    refine J1.mono ?_
    rintro r w2 ⟨rfl, rfl⟩
    clear J1 JF JR
    go_wp2_with fail
    go_ret
    exact ⟨rfl, below_kept HK2.out (Nat.le_refl _)⟩

end Go.Proofs.YtiljkgoafknefaaGreat

