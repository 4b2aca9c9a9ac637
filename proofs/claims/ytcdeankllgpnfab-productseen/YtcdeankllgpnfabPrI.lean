/- Package product: divideByBits. -/
import Derived.Test.YtcdeankllgpnfabBitA
import Derived.BigRegion
import Derived.Deep.OwnRows
import Derived.StillTailTactics
namespace Go.Proofs.Ytcdeankllgpnfab
open Go.RowKit

theorem evs3 (k : Nat) (e : Ev) : List.replicate (3 * k) e ++ [e, e, e] = List.replicate (3 * (k + 1)) e := by
  rw [show [e, e, e] = List.replicate 3 e from rfl, List.replicate_append_replicate, Nat.mul_add]

theorem made_map (n : Nat) : madeCells #[Value.int .u64 0] n = ((List.replicate n 0).map fun z : Nat => Value.int .u64 (z : Int)).toArray := by
  have := zeros_map .u64 n
  rw [Nat.mul_one] at this
  rw [← this]
  rfl

/-- Two rows of noughts, made one behind the other. -/
theorem two_made (w : World) (A B : Nat) (CA CB : Array Value) (hA : CA = madeCells #[.int .u64 0] A) (hB : CB = madeCells #[.int .u64 0] B) (lA : A ≤ 1000000) (lB : B ≤ 1000000) :
    OwnN .u64 24 ((w.alloc (.cells CA 24)).alloc (.cells CB 24)).drew w.heap.size (.slice (some ⟨w.heap.size, 0, none⟩) A A) A (List.replicate A 0) ∧ OwnN .u64 24 ((w.alloc (.cells CA 24)).alloc (.cells CB 24)).drew w.heap.size (.slice (some ⟨w.heap.size + 1, 0, none⟩) B B) B (List.replicate B 0) ∧ Kept Nought w ((w.alloc (.cells CA 24)).alloc (.cells CB 24)).drew := by
  subst hA hB
  rw [made_map, made_map]
  refine ⟨own_of_block (heapAt_drew (heapAt_alloc (heap_alloc_new _ _))) (by simp) (by unfold maxLen; omega) (Nat.le_refl _), own_of_block (heapAt_drew ?_) (by simp) (by unfold maxLen; omega) (by omega), (((Kept.refl Nought w).alloc _).alloc _).drew⟩
  have := heap_alloc_new (w.alloc (.cells ((List.replicate A 0).map fun z : Nat => Value.int .u64 (z : Int)).toArray 24)) (.cells ((List.replicate B 0).map fun z : Nat => Value.int .u64 (z : Int)).toArray 24)
  simpa using this

theorem val_noughts (n : Nat) : val 18446744073709551616 (List.replicate n 0) = 0 := val_zeros _ (fun _ hd => (List.mem_replicate.1 hd).2)

theorem digs_noughts (n : Nat) : Digs 18446744073709551616 (List.replicate n 0) := fun _ hd => by rw [(List.mem_replicate.1 hd).2]; omega

theorem or_word {q T s : Nat} (hq : q < 18446744073709551616) (hT : T ≤ 1) (hs : s < 64) : bits .or .u64 (q : Int) (IntKind.u64.wrap ((T : Int) * 2 ^ s)) = ((q ||| T * 2 ^ s : Nat) : Int) ∧ q ||| T * 2 ^ s < 18446744073709551616 := by
  have h1 : T * 2 ^ s < 18446744073709551616 := by
    have h2 : T * 2 ^ s ≤ 1 * 2 ^ s := Nat.mul_le_mul_right _ hT
    have h3 : 2 ^ s < 2 ^ 64 := Nat.pow_lt_pow_right (by omega) hs
    omega
  refine ⟨?_, Nat.or_lt_two_pow (n := 64) hq h1⟩
  rw [show (T : Int) * 2 ^ s = ((T * 2 ^ s : Nat) : Int) by simp, IntKind.wrap_u64, show ((T * 2 ^ s : Nat) : Int) % 18446744073709551616 = ((T * 2 ^ s : Nat) : Int) by omega]
  exact u64_or_nat _ _ (by omega) (by omega)

set_option maxRecDepth 20000 in
set_option maxHeartbeats 2000000 in
/-- divideByBits. -/
theorem pBits (o : Tr) (ao bo : Option Addr) (L M cap dap : Nat) (xs ys : List Nat) (X Y : Nat) (hX : X = val 18446744073709551616 xs) (hY : Y = val 18446744073709551616 ys) (w : World) (ht : TrRoom w o (3 * (64 * L))) (hu : RowT w o (.slice ao L cap) xs) (hv : RowT w o (.slice bo M dap) ys) (hdx : Digs 18446744073709551616 xs) (hdy : Digs 18446744073709551616 ys) (hL : L ≤ 100000) (hM : M ≤ 100000) :
    Calls Try.prog 31 #[trPtr o, .slice ao L cap, .slice bo M dap] w fun e w' => ∃ v1 v2, e = .returned (.tuple #[v1, v2]) ∧
      ∃ q, OwnN .u64 24 w' w.heap.size v1 L (digs 18446744073709551616 q L) ∧ ∃ r, OwnN .u64 24 w' w.heap.size v2 M (digs 18446744073709551616 r M) ∧ (0 < Y → q = X / Y ∧ r = X % Y) ∧ ∃ o', Did w o (List.replicate (3 * (64 * L)) (1, (M : Nat), 0)) w' o' := by
  obtain ⟨i0, hi0, hz0, hz1, hz2⟩ := info_parts Try.info24
  obtain ⟨_, _, _, e1, hLx, _, _, _, _⟩ := hu.1.open
  cases e1
  obtain ⟨_, _, _, e1, hLy, _, _, _, _⟩ := hv.1.open
  cases e1
  have eL := toHid hLx.out
  have eM := toHid hLy.out
  have hYb : Hid (Y < 18446744073709551616 ^ M) := by unfold Hid; rw [hY, ← hLy.out]; exact val_lt (by omega) hdy
  have hXb : Hid (X < 2 ^ (64 * L)) := by unfold Hid; rw [hX, ← B64, ← hLx.out]; exact val_lt (by omega) hdx
  have hdigx : Hid (∀ k, dig 18446744073709551616 X k = xs.getD k 0) := fun k => by rw [hX]; exact dig_val (by omega) hdx k
  have hxb : Hid (∀ k, xs.getD k 0 < 18446744073709551616) := fun k => hdx.getD (by omega) _
  have HU := toHid hu
  have HV := toHid hv
  have HT := toHid ht
  have HDY := toHid hdy
  have HY := toHid hY
  obtain ⟨tp, htp⟩ : ∃ tp, tp = trPtr o := ⟨_, rfl⟩
  rw [← htp]
  have HTP := toHid htp
  clear hu hv ht hLx hLy hdx hdy htp hX hY
  obtain ⟨N, hN⟩ : ∃ N, N = 64 * L := ⟨_, rfl⟩
  have gN : (64 : Int) * (L : Int) = (N : Int) := by omega
  rw [← hN] at hXb HT ⊢
  have hNb : N ≤ 6400000 := by omega
  have HN := toHid hN
  clear hN
  obtain ⟨CL, hCL⟩ : ∃ C, C = madeCells #[.int .u64 0] L := ⟨_, rfl⟩
  obtain ⟨CM, hCM⟩ : ∃ C, C = madeCells #[.int .u64 0] M := ⟨_, rfl⟩
  have hmkL : ∀ W, (Instr.makeSlice 23 (.int .i64 (L : Int)) (.int .i64 (L : Int))).run Try.prog W = .ok (.slice (some ⟨W.heap.size, 0, none⟩) L L) (W.alloc (.cells CL 24)) := fun W => by rw [hCL]; exact run_make_row (P := Try.prog) _ _ i0 _ Try.underlying23 hi0 hz0 hz1 rfl _ _ L (by rw [hz2]; omega) (by omega) W
  have hmkM : ∀ W, (Instr.makeSlice 23 (.int .i64 (M : Int)) (.int .i64 (M : Int))).run Try.prog W = .ok (.slice (some ⟨W.heap.size, 0, none⟩) M M) (W.alloc (.cells CM 24)) := fun W => by rw [hCM]; exact run_make_row (P := Try.prog) _ _ i0 _ Try.underlying23 hi0 hz0 hz1 rfl _ _ M (by rw [hz2]; omega) (by omega) W
  have HCL := toHid hCL
  have HCM := toHid hCM
  clear hCL hCM
  go_enter Try.func31, Try.ntmps31
  go_wp2_with fail
  go_region
  · have hm2 := two_made w L M CL CM HCL.out HCM.out (by omega) (by omega)
    generalize ((w.alloc (.cells CL 24)).alloc (.cells CM 24)).drew = W1 at *
    obtain ⟨hoL, hoM, k1⟩ := hm2
    clear hmkL hmkM HCL HCM
    go_wp2_with fail
    go_loopw [9, 25] (fun rv i wr => ∃ (k : Nat) (o1 : Tr) (rs qs : List Nat), k ≤ N ∧ i = .int .i64 (k : Int) ∧ Hid (Did w o (List.replicate (3 * k) (1, (M : Int), 0)) wr o1) ∧ Hid (rs.length = M ∧ Digs 18446744073709551616 rs) ∧ Hid (qs.length = L ∧ Digs 18446744073709551616 qs) ∧ OwnN .u64 24 wr w.heap.size rv M rs ∧ OwnN .u64 24 wr w.heap.size (.slice (some ⟨w.heap.size, 0, none⟩) L L) L qs ∧ Hid (∀ b, rv.ownBlock = some b → b ≠ w.heap.size) ∧ Hid (0 < Y → val 18446744073709551616 rs = X / 2 ^ (N - k) % Y ∧ val 18446744073709551616 qs = X / 2 ^ (N - k) / Y * 2 ^ (N - k))) (fun _ i _ => N - (intOf i).toNat)
    case atStart =>
      refine ⟨0, o, _, _, Nat.zero_le _, rfl, Did.of_kept k1 HT.out.1, ⟨by simp, digs_noughts M⟩, ⟨by simp, digs_noughts L⟩, hoM, hoL, (fun b hb => by simp [Value.ownBlock] at hb; omega), (fun hy => ?_)⟩
      rw [val_noughts, val_noughts, Nat.sub_zero, Nat.div_eq_of_lt hXb.out, Nat.zero_mod, Nat.zero_div, Nat.zero_mul]
      exact ⟨rfl, rfl⟩
    case round =>
      clear hoL hoM k1
      obtain ⟨k, o1, rs, qs, hk, rfl, HD, HRS, HQS, hor, hoq, HNE, HVAL⟩ := hrel
      by_cases hkn : k < N
      · have hk0 : (0 : Int) ≤ (k : Int) := Int.natCast_nonneg _
        have hk1 : (k : Int) < (N : Int) := by omega
        obtain ⟨p, hp⟩ : ∃ p, p = N - 1 - k := ⟨_, rfl⟩
        have gp : (N : Int) - 1 - (k : Int) = (p : Int) := by omega
        have hpL : p / 64 < L := by have := HN.out; omega
        have gp1 : (p : Int) / 64 < (L : Int) := by omega
        have gp2 : (0 : Int) ≤ (p : Int) / 64 := by omega
        have gp3 : ((p : Int) / 64).toNat = p / 64 := by omega
        have hroom : TrRoom wr o1 3 := HD.out.room (by rw [List.length_replicate]; exact HT.out.less (by omega))
        have hu2 := HU.out.did HD.out
        have hv2 := HV.out.did HD.out
        obtain ⟨_, _, _, e2, _, _, _, _, hnum⟩ := hu2.1.open
        cases e2
        obtain ⟨b2, off2, rfl, hc2⟩ := hnum (p / 64) hpL
        have hx := hxb.out (p / 64)
        obtain ⟨x, hxx⟩ : ∃ x, x = xs.getD (p / 64) 0 := ⟨_, rfl⟩
        rw [← hxx] at hc2 hx
        obtain ⟨bt, hbt⟩ : ∃ bt, bt = x / 2 ^ (p % 64) := ⟨_, rfl⟩
        have hbtb : bt < 18446744073709551616 := by rw [hbt]; exact Nat.lt_of_le_of_lt (Nat.div_le_self _ _) hx
        have ebt : (x : Int) / 2 ^ (p % 64) = (bt : Int) := by rw [hbt]; simp
        have hbit : bt % 2 = X / 2 ^ p % 2 := by rw [hbt, hxx, ← hdigx.out, bit_dig64]
        have hrowr := own_rowT hor HRS.out.1 hroom.1
        obtain ⟨T, hT⟩ : ∃ T, T = takenN (2 * val 18446744073709551616 rs + bt % 2) Y M := ⟨_, rfl⟩
        have hTle : T ≤ 1 := by rw [hT]; exact taken_le _ _ _
        have hBr := pBring o1 _ _ rs ys bt hbtb T wr hroom hrowr hv2 HRS.out.2 HDY.out (by rw [HRS.out.1, eM.out]) (by rw [eM.out]; omega) (by rw [eM.out, ← HY.out]; exact hT)
        rw [HD.out.ptr, ← HTP.out, eM.out, ← HY.out] at hBr
        obtain ⟨LF, hLF⟩ : ∃ LF, LF = leftN (2 * val 18446744073709551616 rs + bt % 2) Y M := ⟨_, rfl⟩
        rw [← hLF] at hBr
        have HNX : Hid (0 < Y → LF = X / 2 ^ p % Y ∧ T = (2 * (X / 2 ^ (p + 1) % Y) + X / 2 ^ p % 2) / Y ∧ val 18446744073709551616 qs = X / 2 ^ (p + 1) / Y * 2 ^ (p + 1)) := fun hy => by
          obtain ⟨v1, v2⟩ := HVAL.out hy
          rw [show N - k = p + 1 by omega] at v1 v2
          obtain ⟨b1, b2⟩ := bring_ok (R := val 18446744073709551616 rs) (M := Y) (n := M) (bit := bt % 2) hy (by rw [v1]; exact Nat.mod_lt _ hy) hYb.out (by omega)
          rw [v1, hbit] at b1 b2
          rw [hLF, hT, v1, hbit]
          exact ⟨b2.trans rest_bit, b1, v2⟩
        have hq0 : Hid (∀ j, qs.getD j 0 < 18446744073709551616) := fun j => HQS.out.2.getD (by omega) _
        have hqq := hq0.out (p / 64)
        obtain ⟨or1, or2⟩ := or_word (s := p % 64) hqq hTle (by omega)
        have HP : Hid (N - (k + 1) = p) := by unfold Hid; omega
        clear hbt hT hLF hxx hnum hu2 hv2 hrowr hbit HVAL hp hq0
        go_wp2_with fail
        refine hBr.mono ?_
        rintro e w2 ⟨v2, rfl, ho2, o2, d2⟩
        have hoq2 := d2.kept.own hoq (own_apart hoq hroom.1)
        have HD2 := toHid (HD.out.trans d2)
        have hti2 := (d2.room (k := 0) hroom).1
        have hF2 : ¬ trFoot o2 w.heap.size := own_apart hoq2 hti2 _ rfl
        have hNE2 : Hid (∀ b, v2.ownBlock = some b → b ≠ w.heap.size) := fun b hb e => by
          have h1 := (ho2.lt b hb).1
          have h2 := owns_lt hoq
          omega
        have hcq : w2.cell? ⟨w.heap.size, p / 64, none⟩ = some (.int .u64 (qs.getD (p / 64) 0 : Nat)) := by
          rw [World.ownsRow.cellAt hoq2 (p / 64) (by omega), List.getElem?_map, List.getD_eq_getElem?_getD, List.getElem?_eq_getElem (by rw [HQS.out.1]; exact hpL)]
          rfl
        have hfq := World.ownsRow.frozenAt hoq2 (p / 64)
        obtain ⟨z, hz⟩ : ∃ z, z = qs.getD (p / 64) 0 ||| T * 2 ^ (p % 64) := ⟨_, rfl⟩
        have HZ := toHid hz
        rw [← hz] at or1 or2
        have hST := toHid (World.ownsRow.stored hoq2 (p / 64) (.int .u64 (z : Int))).1
        have hOR : Hid (OwnN .u64 24 w2 w.heap.size v2 M (digs 18446744073709551616 LF M)) := own_base ho2 (fun b hb => by have h1 := (ho2.lt b hb).1; have h2 := HD.out.size; omega)
        obtain ⟨pi, hpi⟩ : ∃ pi, pi = p / 64 := ⟨_, rfl⟩
        have gw : IntKind.i64.wrap ((p : Int) / 64) = (pi : Int) := by rw [IntKind.wrap_i64]; omega
        have gw1 : (pi : Int) < (L : Int) := by omega
        have HPI := toHid hpi
        obtain ⟨ps, hps⟩ : ∃ ps, ps = p % 64 := ⟨_, rfl⟩
        have gt : ((p : Int)).tmod 64 = (ps : Int) := by rw [Int.tmod_eq_emod_of_nonneg (by omega)]; omega
        have gt1 : (ps : Int) ≤ 64 := by omega
        have HPS := toHid hps
        rw [← hps] at or1
        rw [← hpi] at hcq hfq hST
        generalize hqz : qs.getD (p / 64) 0 = q at *
        have HQZ := toHid hqz
        rw [hpi, hqz, ← hpi] at hcq
        clear hBr hor hoq HD d2 ho2 hoq2 hti2 hz hroom HRS HNE hpi hps hqz gp1 gp2 gp3
        go_wp2_with fail
        go_still_tail 10, (by kernel_rfl)
        change wpList _ _ _ _ _ w2.drew
        go_wp2_with fail
        go_roundw
        case rel =>
          have k3 : Kept (fun b => b = w.heap.size) w2 (w2.setCell ⟨w.heap.size, pi, none⟩ (.int .u64 (z : Int))).drew := ((Kept.refl (fun b => b = w.heap.size) w2).setCell ⟨w.heap.size, pi, none⟩ (fun _ => rfl) _).drew
          have hST2 : OwnN .u64 24 (w2.setCell ⟨w.heap.size, pi, none⟩ (.int .u64 (z : Int))).drew w.heap.size (.slice (some ⟨w.heap.size, 0, none⟩) L L) L (qs.set pi z) := by
            unfold OwnN
            rw [List.map_set]
            exact hST.out
          refine ⟨k + 1, o2, digs 18446744073709551616 LF M, qs.set pi z, by omega, by go_num, ?_, ⟨digs_length _ _ _, digs_digs (by omega) _ _⟩, ⟨by rw [List.length_set]; exact HQS.out.1, digs_setB HQS.out.2 or2⟩, k3.own hOR.out (fun b hb => hNE2.out b hb), hST2, hNE2, (fun hy => ?_)⟩
          · unfold Hid
            rw [← evs3]
            exact HD2.out.wroteNew k3 (by omega) hF2
          · obtain ⟨v1, v2, v3⟩ := HNX.out hy
            have hqb := quot_bit (p := p) hy HQS.out.2 (by rw [HQS.out.1]; exact hpL) v3 v2 hTle
            rw [HQZ.out, ← HZ.out, ← HPI.out] at hqb
            rw [HP.out, val_digs, hqb]
            exact ⟨by rw [v1, Nat.mod_eq_of_lt (Nat.lt_trans (Nat.mod_lt _ hy) hYb.out)], rfl⟩
        case measure => simp [intOf]; omega
      · have hk1 : ¬ (k : Int) < (N : Int) := by omega
        obtain rfl : k = N := by omega
        have hq2 : digs 18446744073709551616 (val 18446744073709551616 qs) L = qs := (digs_val (by omega) HQS.out.2 HQS.out.1 (by rw [Nat.mod_eq_of_lt]; have := val_lt (by omega) HQS.out.2; rwa [HQS.out.1] at this)).symm
        have hr2 : digs 18446744073709551616 (val 18446744073709551616 rs) M = rs := (digs_val (by omega) HRS.out.2 HRS.out.1 (by rw [Nat.mod_eq_of_lt]; have := val_lt (by omega) HRS.out.2; rwa [HRS.out.1] at this)).symm
        have HQ2 := toHid hq2
        have HR2 := toHid hr2
        clear hdigx hxb hq2 hr2
        go_wp2_with fail
        go_ret2
        refine ⟨_, _, rfl, val 18446744073709551616 qs, by rw [HQ2.out]; exact hoq, val 18446744073709551616 rs, by rw [HR2.out]; exact hor, (fun hy => ?_), o1, HD.out⟩
        obtain ⟨v1, v2⟩ := HVAL.out hy
        rw [Nat.sub_self, Nat.pow_zero, Nat.div_one] at v1 v2
        exact ⟨by rw [v2, Nat.mul_one], v1⟩
  · have hm2 := two_made w M L CM CL HCM.out HCL.out (by omega) (by omega)
    generalize ((w.alloc (.cells CM 24)).alloc (.cells CL 24)).drew = W1 at *
    obtain ⟨hoM, hoL, k1⟩ := hm2
    clear hmkL hmkM HCL HCM
    go_wp2_with fail
    go_loopw [9, 25] (fun rv i wr => ∃ (k : Nat) (o1 : Tr) (rs qs : List Nat), k ≤ N ∧ i = .int .i64 (k : Int) ∧ Hid (Did w o (List.replicate (3 * k) (1, (M : Int), 0)) wr o1) ∧ Hid (rs.length = M ∧ Digs 18446744073709551616 rs) ∧ Hid (qs.length = L ∧ Digs 18446744073709551616 qs) ∧ OwnN .u64 24 wr w.heap.size rv M rs ∧ OwnN .u64 24 wr w.heap.size (.slice (some ⟨(w.heap.size + 1), 0, none⟩) L L) L qs ∧ Hid (∀ b, rv.ownBlock = some b → b ≠ (w.heap.size + 1)) ∧ Hid (0 < Y → val 18446744073709551616 rs = X / 2 ^ (N - k) % Y ∧ val 18446744073709551616 qs = X / 2 ^ (N - k) / Y * 2 ^ (N - k))) (fun _ i _ => N - (intOf i).toNat)
    case atStart =>
      refine ⟨0, o, _, _, Nat.zero_le _, rfl, Did.of_kept k1 HT.out.1, ⟨by simp, digs_noughts M⟩, ⟨by simp, digs_noughts L⟩, hoM, hoL, (fun b hb => by simp [Value.ownBlock] at hb; omega), (fun hy => ?_)⟩
      rw [val_noughts, val_noughts, Nat.sub_zero, Nat.div_eq_of_lt hXb.out, Nat.zero_mod, Nat.zero_div, Nat.zero_mul]
      exact ⟨rfl, rfl⟩
    case round =>
      clear hoL hoM k1
      obtain ⟨k, o1, rs, qs, hk, rfl, HD, HRS, HQS, hor, hoq, HNE, HVAL⟩ := hrel
      by_cases hkn : k < N
      · have hk0 : (0 : Int) ≤ (k : Int) := Int.natCast_nonneg _
        have hk1 : (k : Int) < (N : Int) := by omega
        obtain ⟨p, hp⟩ : ∃ p, p = N - 1 - k := ⟨_, rfl⟩
        have gp : (N : Int) - 1 - (k : Int) = (p : Int) := by omega
        have hpL : p / 64 < L := by have := HN.out; omega
        have gp1 : (p : Int) / 64 < (L : Int) := by omega
        have gp2 : (0 : Int) ≤ (p : Int) / 64 := by omega
        have gp3 : ((p : Int) / 64).toNat = p / 64 := by omega
        have hroom : TrRoom wr o1 3 := HD.out.room (by rw [List.length_replicate]; exact HT.out.less (by omega))
        have hu2 := HU.out.did HD.out
        have hv2 := HV.out.did HD.out
        obtain ⟨_, _, _, e2, _, _, _, _, hnum⟩ := hu2.1.open
        cases e2
        obtain ⟨b2, off2, rfl, hc2⟩ := hnum (p / 64) hpL
        have hx := hxb.out (p / 64)
        obtain ⟨x, hxx⟩ : ∃ x, x = xs.getD (p / 64) 0 := ⟨_, rfl⟩
        rw [← hxx] at hc2 hx
        obtain ⟨bt, hbt⟩ : ∃ bt, bt = x / 2 ^ (p % 64) := ⟨_, rfl⟩
        have hbtb : bt < 18446744073709551616 := by rw [hbt]; exact Nat.lt_of_le_of_lt (Nat.div_le_self _ _) hx
        have ebt : (x : Int) / 2 ^ (p % 64) = (bt : Int) := by rw [hbt]; simp
        have hbit : bt % 2 = X / 2 ^ p % 2 := by rw [hbt, hxx, ← hdigx.out, bit_dig64]
        have hrowr := own_rowT hor HRS.out.1 hroom.1
        obtain ⟨T, hT⟩ : ∃ T, T = takenN (2 * val 18446744073709551616 rs + bt % 2) Y M := ⟨_, rfl⟩
        have hTle : T ≤ 1 := by rw [hT]; exact taken_le _ _ _
        have hBr := pBring o1 _ _ rs ys bt hbtb T wr hroom hrowr hv2 HRS.out.2 HDY.out (by rw [HRS.out.1, eM.out]) (by rw [eM.out]; omega) (by rw [eM.out, ← HY.out]; exact hT)
        rw [HD.out.ptr, ← HTP.out, eM.out, ← HY.out] at hBr
        obtain ⟨LF, hLF⟩ : ∃ LF, LF = leftN (2 * val 18446744073709551616 rs + bt % 2) Y M := ⟨_, rfl⟩
        rw [← hLF] at hBr
        have HNX : Hid (0 < Y → LF = X / 2 ^ p % Y ∧ T = (2 * (X / 2 ^ (p + 1) % Y) + X / 2 ^ p % 2) / Y ∧ val 18446744073709551616 qs = X / 2 ^ (p + 1) / Y * 2 ^ (p + 1)) := fun hy => by
          obtain ⟨v1, v2⟩ := HVAL.out hy
          rw [show N - k = p + 1 by omega] at v1 v2
          obtain ⟨b1, b2⟩ := bring_ok (R := val 18446744073709551616 rs) (M := Y) (n := M) (bit := bt % 2) hy (by rw [v1]; exact Nat.mod_lt _ hy) hYb.out (by omega)
          rw [v1, hbit] at b1 b2
          rw [hLF, hT, v1, hbit]
          exact ⟨b2.trans rest_bit, b1, v2⟩
        have hq0 : Hid (∀ j, qs.getD j 0 < 18446744073709551616) := fun j => HQS.out.2.getD (by omega) _
        have hqq := hq0.out (p / 64)
        obtain ⟨or1, or2⟩ := or_word (s := p % 64) hqq hTle (by omega)
        have HP : Hid (N - (k + 1) = p) := by unfold Hid; omega
        clear hbt hT hLF hxx hnum hu2 hv2 hrowr hbit HVAL hp hq0
        go_wp2_with fail
        refine hBr.mono ?_
        rintro e w2 ⟨v2, rfl, ho2, o2, d2⟩
        have hoq2 := d2.kept.own hoq (own_apart hoq hroom.1)
        have HD2 := toHid (HD.out.trans d2)
        have hti2 := (d2.room (k := 0) hroom).1
        have hF2 : ¬ trFoot o2 (w.heap.size + 1) := own_apart hoq2 hti2 _ rfl
        have hNE2 : Hid (∀ b, v2.ownBlock = some b → b ≠ (w.heap.size + 1)) := fun b hb e => by
          have h1 := (ho2.lt b hb).1
          have h2 := owns_lt hoq
          omega
        have hcq : w2.cell? ⟨(w.heap.size + 1), p / 64, none⟩ = some (.int .u64 (qs.getD (p / 64) 0 : Nat)) := by
          rw [World.ownsRow.cellAt hoq2 (p / 64) (by omega), List.getElem?_map, List.getD_eq_getElem?_getD, List.getElem?_eq_getElem (by rw [HQS.out.1]; exact hpL)]
          rfl
        have hfq := World.ownsRow.frozenAt hoq2 (p / 64)
        obtain ⟨z, hz⟩ : ∃ z, z = qs.getD (p / 64) 0 ||| T * 2 ^ (p % 64) := ⟨_, rfl⟩
        have HZ := toHid hz
        rw [← hz] at or1 or2
        have hST := toHid (World.ownsRow.stored hoq2 (p / 64) (.int .u64 (z : Int))).1
        have hOR : Hid (OwnN .u64 24 w2 w.heap.size v2 M (digs 18446744073709551616 LF M)) := own_base ho2 (fun b hb => by have h1 := (ho2.lt b hb).1; have h2 := HD.out.size; omega)
        obtain ⟨pi, hpi⟩ : ∃ pi, pi = p / 64 := ⟨_, rfl⟩
        have gw : IntKind.i64.wrap ((p : Int) / 64) = (pi : Int) := by rw [IntKind.wrap_i64]; omega
        have gw1 : (pi : Int) < (L : Int) := by omega
        have HPI := toHid hpi
        obtain ⟨ps, hps⟩ : ∃ ps, ps = p % 64 := ⟨_, rfl⟩
        have gt : ((p : Int)).tmod 64 = (ps : Int) := by rw [Int.tmod_eq_emod_of_nonneg (by omega)]; omega
        have gt1 : (ps : Int) ≤ 64 := by omega
        have HPS := toHid hps
        rw [← hps] at or1
        rw [← hpi] at hcq hfq hST
        generalize hqz : qs.getD (p / 64) 0 = q at *
        have HQZ := toHid hqz
        rw [hpi, hqz, ← hpi] at hcq
        clear hBr hor hoq HD d2 ho2 hoq2 hti2 hz hroom HRS HNE hpi hps hqz gp1 gp2 gp3
        go_wp2_with fail
        go_still_tail 10, (by kernel_rfl)
        change wpList _ _ _ _ _ w2.drew
        go_wp2_with fail
        go_roundw
        case rel =>
          have k3 : Kept (fun b => b = (w.heap.size + 1)) w2 (w2.setCell ⟨(w.heap.size + 1), pi, none⟩ (.int .u64 (z : Int))).drew := ((Kept.refl (fun b => b = (w.heap.size + 1)) w2).setCell ⟨(w.heap.size + 1), pi, none⟩ (fun _ => rfl) _).drew
          have hST2 : OwnN .u64 24 (w2.setCell ⟨(w.heap.size + 1), pi, none⟩ (.int .u64 (z : Int))).drew w.heap.size (.slice (some ⟨(w.heap.size + 1), 0, none⟩) L L) L (qs.set pi z) := by
            unfold OwnN
            rw [List.map_set]
            exact hST.out
          refine ⟨k + 1, o2, digs 18446744073709551616 LF M, qs.set pi z, by omega, by go_num, ?_, ⟨digs_length _ _ _, digs_digs (by omega) _ _⟩, ⟨by rw [List.length_set]; exact HQS.out.1, digs_setB HQS.out.2 or2⟩, k3.own hOR.out (fun b hb => hNE2.out b hb), hST2, hNE2, (fun hy => ?_)⟩
          · unfold Hid
            rw [← evs3]
            exact HD2.out.wroteNew k3 (by omega) hF2
          · obtain ⟨v1, v2, v3⟩ := HNX.out hy
            have hqb := quot_bit (p := p) hy HQS.out.2 (by rw [HQS.out.1]; exact hpL) v3 v2 hTle
            rw [HQZ.out, ← HZ.out, ← HPI.out] at hqb
            rw [HP.out, val_digs, hqb]
            exact ⟨by rw [v1, Nat.mod_eq_of_lt (Nat.lt_trans (Nat.mod_lt _ hy) hYb.out)], rfl⟩
        case measure => simp [intOf]; omega
      · have hk1 : ¬ (k : Int) < (N : Int) := by omega
        obtain rfl : k = N := by omega
        have hq2 : digs 18446744073709551616 (val 18446744073709551616 qs) L = qs := (digs_val (by omega) HQS.out.2 HQS.out.1 (by rw [Nat.mod_eq_of_lt]; have := val_lt (by omega) HQS.out.2; rwa [HQS.out.1] at this)).symm
        have hr2 : digs 18446744073709551616 (val 18446744073709551616 rs) M = rs := (digs_val (by omega) HRS.out.2 HRS.out.1 (by rw [Nat.mod_eq_of_lt]; have := val_lt (by omega) HRS.out.2; rwa [HRS.out.1] at this)).symm
        have HQ2 := toHid hq2
        have HR2 := toHid hr2
        clear hdigx hxb hq2 hr2
        go_wp2_with fail
        go_ret2
        refine ⟨_, _, rfl, val 18446744073709551616 qs, by rw [HQ2.out]; exact hoq, val 18446744073709551616 rs, by rw [HR2.out]; exact hor, (fun hy => ?_), o1, HD.out⟩
        obtain ⟨v1, v2⟩ := HVAL.out hy
        rw [Nat.sub_self, Nat.pow_zero, Nat.div_one] at v1 v2
        exact ⟨by rw [v2, Nat.mul_one], v1⟩

end Go.Proofs.Ytcdeankllgpnfab
