/- Package nat: Parse, walked: any text as the number that it is, or none. -/
import Derived.Test.YtcdpmiheeenmmaaDoorNatS
import Derived.Lib.TrimU
namespace Go.Proofs.YtcdpmiheeenmmaaDoor
open Go.RowKit Go.Shelf

theorem own_iter {W : World} {base n k : Nat} {e : TypeId} {v : Value} {xs : List Value} {s : ByteArray} {pos : Nat} (h : W.ownsRow base e 1 v n xs) (hk : W.heap[k]? = some (.stringIter s pos)) (pos' : Nat) : (W.iterAt k s pos').ownsRow base e 1 v n xs := by
  refine ⟨h.1, ?_⟩
  rcases h.2 with h1 | ⟨g, cap, cur, e1, hb, hblk, h4⟩
  · exact .inl h1
  · refine .inr ⟨g, cap, cur, e1, hb, ?_, h4⟩
    rw [Lib.iterAt_other W k g s pos' (fun e => by subst e; rw [hblk] at hk; cases hk)]
    exact hblk

theorem kept_iter {w W : World} (h : Kept Nought w W) {k : Nat} (hk : w.heap.size ≤ k) (s : ByteArray) (pos : Nat) : Kept Nought w (W.iterAt k s pos) :=
  kept_of_below (Lib.below_iterAt (below_kept h (Nat.le_refl _)) hk s pos)

theorem rune_hex {c : UInt8} : runeHex c.toNat = isHex c := rfl

theorem rune_val {c : UInt8} (h : isHex c = true) : runeVal c.toNat = hexOf c := by
  simp [isHex] at h
  unfold runeVal hexOf
  by_cases h1 : c.toNat ≤ 57
  · rw [if_pos (by omega), if_pos h1]
  · rw [if_neg (by omega), if_pos (by omega), if_neg h1]

set_option maxRecDepth 20000 in
set_option maxHeartbeats 2000000 in
/-- Parse. -/
theorem nParse (s : ByteArray) (ok : Bool) (R : List Nat) (w : World) (hs : s.size ≤ 1000000) (hno : parseOk s = false → ok = false ∧ R = [])
    (hyes : parseOk s = true → ok = true ∧ R = digs 18446744073709551616 (hexNum (s.toList.drop 2)) (max (wordsN (hexNum (s.toList.drop 2))) 1)) :
    Calls Tryd.prog 27 #[.string s] w fun r w' => ∃ v', r = .returned (.tuple #[v', .bool ok]) ∧ Row .u64 w' v' R ∧ Kept Nought w w' := by
  obtain ⟨i0, hi0, hz0, hz1, hz2⟩ := info_parts Tryd.info39
  have hC := Any.strings_CutPrefix l103 s { data := #[48, 120] } w
  rw [show ({ data := #[48, 120] } : ByteArray).data.toList = [48, 120] from rfl] at hC
  cases hp : Lib.hasPrefix s.data.toList [48, 120] with
  | false =>
    rw [hp] at hC
    obtain ⟨rfl, rfl⟩ := hno (prefix_no hp)
    clear hno hyes hp
    go_enter Tryd.func27, Tryd.ntmps27
    go_wp2_with fail
    refine hC.mono ?_
    rintro e w' ⟨rfl, rfl⟩
    go_wp2
    go_ret2
    exact ⟨_, rfl, Row.nil _ _, Kept.refl _ _⟩
  | true =>
    rw [hp] at hC
    obtain ⟨D, hD1, hD2⟩ := prefix_yes hp
    rw [hD2] at hC
    obtain ⟨e1, e2⟩ := parse_split hD1
    rw [e1] at hno hyes
    rw [e2] at hyes
    obtain ⟨DS, hDS⟩ : ∃ DS : ByteArray, DS = ⟨D.toArray⟩ := ⟨_, rfl⟩
    rw [← hDS] at hC hno hyes
    have hDL : DS.data.toList = D := by rw [hDS]
    have hDsz : DS.size = D.length := by rw [size_list, hDL]
    have hDle : DS.size ≤ 1000000 := by
      have : s.size = D.length + 2 := by rw [size_list, hD1]; rfl
      omega
    clear hDS hp hD1 hD2 e1 e2
    cases hm : mayB DS with
    | false =>
      rw [hm, Bool.false_and] at hno
      obtain ⟨rfl, rfl⟩ := hno rfl
      have hM := nMay DS false hm w hDle
      clear hno hyes hm
      go_enter Tryd.func27, Tryd.ntmps27
      go_wp2_with fail
      refine hC.mono ?_
      rintro e w' ⟨rfl, rfl⟩
      go_wp2_with fail
      refine hM.mono ?_
      rintro e w' ⟨rfl, rfl⟩
      go_wp2
      go_ret2
      exact ⟨_, rfl, Row.nil _ _, Kept.refl _ _⟩
    | true =>
      rw [hm, Bool.true_and] at hno hyes
      have hM := nMay DS true hm w hDle
      obtain ⟨m0, m1, m2⟩ := of_decide_eq_true hm
      have HNO : Hid (D.all isHex = false → ok = false ∧ R = []) := hno
      have HYES : Hid (D.all isHex = true → ok = true ∧ R = digs 18446744073709551616 (hexNum D) ((D.length + 15) / 16)) := fun h => by
        obtain ⟨r1, r2⟩ := hyes h
        refine ⟨r1, ?_⟩
        rw [r2, hex_words h]
        · intro e; apply m0; rw [hDsz, e]; rfl
        · rcases m2 with e | e
          · left; rw [← hDL, e]
          · right; rw [← hDL]; exact e
      have HDL : Hid (DS.data.toList = D) := hDL
      obtain ⟨M, hMM⟩ : ∃ M, M = DS.size := ⟨_, rfl⟩
      have HM : Hid (D.length = M) := by rw [hMM, hDsz]; rfl
      obtain ⟨n, hn⟩ : ∃ n, n = (M + 15) / 16 := ⟨_, rfl⟩
      have hn' : ((M : Int) + 15) / 16 = (n : Int) := by omega
      have hn16 : M ≤ 16 * n := by omega
      have hnb : n ≤ 1000000 := by omega
      have HN : Hid ((M + 15) / 16 = n) := hn.symm
      have hM0 : M ≠ 0 := by rw [hMM]; exact m0
      have hM1 : M ≤ 4800 := by rw [hMM]; exact m1
      have hsz : DS.size = M := hMM.symm
      clear hno hyes hm m0 m1 m2 hn hMM hDL hDsz hDle
      go_enter Tryd.func27, Tryd.ntmps27
      go_wp2_with fail
      refine hC.mono ?_
      rintro e w' ⟨rfl, rfl⟩
      go_wp2_with fail
      refine hM.mono ?_
      rintro e w' ⟨rfl, rfl⟩
      clear hC hM
      go_wp2_with (at_make; refine wpList_make_full _ rfl _ _ 25 rfl w'.heap.size 39 i0 _ 1 Tryd.underlying25 hi0 hz0 hz1 _ _ _ _ n rfl rfl (by first | rfl | omega) (by first | rfl | omega) (by rw [hz2]; omega) (by unfold maxLen; omega) (Nat.le_refl _) ?_; intro w1 ho1 hg1; rw [zeros_map] at ho1; have k1 := grown_kept hg1)
      have hlt1 := lt_of_block (own_block ho1)
      have HIT := World.iter_heap w1 DS 0
      have hsz1 : w'.heap.size < w1.heap.size := hlt1
      have ho2 : (w1.iter DS 0).ownsRow w'.heap.size 39 1 (.slice (some ⟨w'.heap.size, 0, none⟩) n n) n ((List.replicate n 0).map fun z => .int .u64 (z : Nat)) := World.ownsRow.alloc ho1 _
      have k2 : Kept Nought w' (w1.iter DS 0) := k1.alloc _
      have HO2 : Hid _ := ho2
      clear ho1 hg1 k1 hlt1 ho2
      have HITT : Hid ((w1.iter DS 0).heap[w1.heap.size]? = some (.stringIter DS 0)) := HIT
      clear HIT
      go_loopw [7] (fun _ wr => ∃ (pos : Nat) (zs : List Nat), pos ≤ M ∧ Hid (wr.heap[w1.heap.size]? = some (.stringIter DS pos)) ∧ Hid (zs.length = n ∧ Digs 18446744073709551616 zs ∧ val 18446744073709551616 zs = hexNum (D.take pos) * 16 ^ (M - pos) ∧ (D.take pos).all isHex = true) ∧ Hid (wr.ownsRow w'.heap.size 39 1 (.slice (some ⟨w'.heap.size, 0, none⟩) n n) n (zs.map fun z => .int .u64 (z : Nat))) ∧ Kept Nought w' wr) (fun _ wr => M - wr.iterPos w1.heap.size)
      case atStart => exact ⟨0, List.replicate n 0, Nat.zero_le _, HITT, ⟨List.length_replicate, (fun d hd => by simp at hd; omega), by rw [val_zeros _ (fun d hd => by simp at hd; exact hd.2)]; simp [hexNum], by simp⟩, HO2, k2⟩
      case round =>
        clear HITT HO2 k2
        obtain ⟨pos, zs, hpos, hit, hzs, hown, hkp⟩ := hrel
        by_cases hlt : pos < M
        · have hps : pos < DS.size := by omega
          have hDat : D[pos]? = some DS[pos] := by
            have := at_list DS pos hps
            rw [ByteArray.toList_eq, HDL.out] at this
            exact this
          obtain ⟨c, hc⟩ : ∃ c, c = DS[pos] := ⟨_, rfl⟩
          by_cases hasc : (DS[pos]).toNat < 128
          · have hnext := fun ty => Lib.run_next_ascii_at (P := Tryd.prog) wr w1.heap.size DS pos ty hit.out hps hasc
            rw [← hc] at hnext hDat hasc
            have hDV := fun W => nDigitValue c.toNat (by omega) W
            rw [rune_hex] at hDV
            have hit2 : Hid ((wr.iterAt w1.heap.size DS (pos + 1)).heap[w1.heap.size]? = some (.stringIter DS (pos + 1))) := Lib.iterAt_heap wr w1.heap.size DS pos (pos + 1) hit.out
            have hown2 := own_iter hown.out hit.out (pos + 1)
            have hkp2 := kept_iter hkp (show w'.heap.size ≤ w1.heap.size by omega) DS (pos + 1)
            generalize wr.iterAt w1.heap.size DS (pos + 1) = W1 at *
            have HDat : Hid (D[pos]? = some c) := hDat
            clear hDat
            cases hh : isHex c with
            | false =>
              obtain ⟨rfl, rfl⟩ := HNO.out (all_false HDat.out hh)
              rw [hh] at hDV
              clear hown2 hc
              go_wp2_with fail
              refine (hDV _).mono ?_
              rintro e w' ⟨rfl, rfl⟩
              go_wp2
              go_ret2
              exact ⟨_, rfl, Row.nil _ _, hkp2⟩
            | true =>
              rw [hh, rune_val hh] at hDV
              have hd16 := hexOf_lt hh
              have hplt : pos < D.length := by have := HM.out; omega
              have hcD : D[pos] = c := by
                have := HDat.out
                rw [List.getElem?_eq_getElem hplt] at this
                exact Option.some.inj this
              have hT1 := hexNum_take hplt
              rw [hcD] at hT1
              obtain ⟨z1, z2, z3, z4⟩ := hzs.out
              obtain ⟨j, hj⟩ : ∃ j, j = M - 1 - pos := ⟨_, rfl⟩
              have hJ : (M : Int) - 1 - (pos : Int) = (j : Int) := by omega
              have hj16 : j / 16 < n := by omega
              obtain ⟨f1, f2⟩ := hex_step (d := hexOf c) (show M = pos + 1 + j by omega) z2 (by omega) z3
              rw [← hT1] at f2
              obtain ⟨o1, o2, o3⟩ := hex_or (hexNum (D.take pos)) (j % 16) (hexOf c) (by omega) hd16
              rw [← f1] at o1 o2
              have hcell : W1.cell? ⟨w'.heap.size, j / 16, none⟩ = some (.int .u64 ((zs.getD (j / 16) 0 : Nat) : Int)) := by
                rw [World.ownsRow.cellAt hown2 (j / 16) (by omega), List.getElem?_map, List.getD_eq_getElem?_getD, List.getElem?_eq_getElem (by omega)]
                rfl
              have hf := World.ownsRow.frozenAt hown2 (j / 16)
              have hst := fun u => (World.ownsRow.stored hown2 (j / 16) u).1
              have hall2 : (D.take (pos + 1)).all isHex = true := by
                rw [List.take_add_one, HDat.out, List.all_append, z4]
                simpa using hh
              have HALL : Hid (zs.length = n ∧ Digs 18446744073709551616 (zs.set (j / 16) (zs.getD (j / 16) 0 + hexOf c * 16 ^ (j % 16))) ∧ val 18446744073709551616 (zs.set (j / 16) (zs.getD (j / 16) 0 + hexOf c * 16 ^ (j % 16))) = hexNum (D.take (pos + 1)) * 16 ^ (M - (pos + 1)) ∧ (D.take (pos + 1)).all isHex = true) := by
                refine ⟨z1, ?_, f2, hall2⟩
                intro d hd
                rcases List.mem_or_eq_of_mem_set hd with h | h
                · exact z2 d h
                · omega
              have HST : Hid (∀ u, World.ownsRow (W1.setCell ⟨w'.heap.size, j / 16, none⟩ u) w'.heap.size 39 1 (.slice (some ⟨w'.heap.size, 0, none⟩) n n) n ((zs.map fun z => .int .u64 (z : Nat)).set (j / 16) u)) := hst
              have hjb : j ≤ 4800 := by omega
              clear f1 f2 hj hT1 z1 z2 z3 z4 hst hall2 hown2 hcD hc hzs hown
              generalize zs.getD (j / 16) 0 = z at *
              generalize z + hexOf c * 16 ^ (j % 16) = Z at *
              have e16 : ((hexOf c * 16 ^ (j % 16) : Nat) : Int) = (hexOf c : Int) * 2 ^ (4 * (j % 16)) := by
                rw [show (2 : Int) ^ (4 * (j % 16)) = 16 ^ (j % 16) by rw [Int.pow_mul]; rfl]
                push_cast
                rfl
              have O1 : Hid (bits .or .u64 (z : Int) ((hexOf c * 16 ^ (j % 16) : Nat) : Int) = (Z : Int)) := o1
              clear o1
              have j1 : (0 : Int) ≤ (j : Int) / 16 := by omega
              have j2 : (j : Int) / 16 < (n : Int) := by omega
              have j3 : ((j : Int) / 16).toNat = j / 16 := by omega
              go_wp2_with fail
              refine (hDV _).mono ?_
              rintro e w9 ⟨rfl, rfl⟩
              go_wp2_with fail
              go_region
              go_wp2
              rw [← e16, O1.out]
              have hitS : ((w9.setCell ⟨w'.heap.size, j / 16, none⟩ (.int .u64 (Z : Int))).drew).heap[w1.heap.size]? = some (.stringIter DS (pos + 1)) := heapAt_set hit2.out (show w1.heap.size ≠ w'.heap.size by omega) _
              refine ⟨⟨pos + 1, zs.set (j / 16) Z, by omega, hitS, ⟨by rw [List.length_set]; exact HALL.out.1, HALL.out.2⟩, ?_, (hkp2.setCell ⟨w'.heap.size, j / 16, none⟩ (fun h => absurd h (by simp)) _).drew⟩, ?_⟩
              · unfold Hid
                rw [List.map_set]
                exact HST.out _
              · have h1 : ((w9.setCell ⟨w'.heap.size, j / 16, none⟩ (.int .u64 (Z : Int))).drew).iterPos w1.heap.size = pos + 1 := by unfold World.iterPos; rw [hitS]
                have h2 : wr.iterPos w1.heap.size = pos := by unfold World.iterPos; rw [hit.out]
                rw [h1, h2]
                omega
          · have hhigh := decode_high DS pos hps (by omega)
            have hrl := Lib.rune_le DS pos
            have hnext := fun ty => Lib.run_next_any_at (P := Tryd.prog) wr w1.heap.size DS pos ty hit.out hps
            have hkp2 := kept_iter hkp (show w'.heap.size ≤ w1.heap.size by omega) DS (pos + (Utf8.decode DS pos).2)
            have hno : isHex c = false := by rw [hc]; simp [isHex]; omega
            rw [← hc] at hDat
            obtain ⟨rfl, rfl⟩ := HNO.out (all_false hDat hno)
            obtain ⟨r, hr⟩ : ∃ r, r = (Utf8.decode DS pos).1 := ⟨_, rfl⟩
            rw [← hr] at hhigh hrl hnext
            have hDV := fun W => nDigitValue r hrl W
            have hrh : runeHex r = false := by simp [runeHex]; omega
            rw [hrh] at hDV
            generalize wr.iterAt w1.heap.size DS (pos + (Utf8.decode DS pos).2) = W1 at *
            clear hr hc hDat hno hrh
            go_wp2_with fail
            refine (hDV _).mono ?_
            rintro e w' ⟨rfl, rfl⟩
            go_wp2
            go_ret2
            exact ⟨_, rfl, Row.nil _ _, hkp2⟩
        · have hps : ¬ pos < DS.size := by omega
          have hnext := fun ty => Lib.run_next_end_at (P := Tryd.prog) wr w1.heap.size DS pos ty hit.out hps
          have hpM : pos = M := by omega
          obtain ⟨z1, z2, z3, z4⟩ := hzs.out
          rw [hpM, Nat.sub_self, Nat.pow_zero, Nat.mul_one, List.take_of_length_le (by have := HM.out; omega)] at z3
          rw [hpM, List.take_of_length_le (by have := HM.out; omega)] at z4
          obtain ⟨rfl, rfl⟩ := HYES.out z4
          have hfin : zs = digs 18446744073709551616 (hexNum D) ((D.length + 15) / 16) := by
            refine digs_val (by omega) z2 (by rw [HM.out, HN.out]; exact z1) ?_
            rw [z3, Nat.mod_eq_of_lt]
            have := hexNum_lt z4
            refine Nat.lt_of_lt_of_le this ?_
            rw [show (18446744073709551616 : Nat) ^ ((D.length + 15) / 16) = 16 ^ (16 * ((D.length + 15) / 16)) by rw [Nat.pow_mul]]
            exact Nat.pow_le_pow_right (by omega) (by omega)
          have hrow : Row .u64 wr (.slice (some ⟨w'.heap.size, 0, none⟩) n n) (digs 18446744073709551616 (hexNum D) ((D.length + 15) / 16)) := by
            rw [← hfin]
            exact Row.of_own (base := w'.heap.size) (e := 39) (by rw [z1]; exact hown.out)
          clear hfin z1 z2 z3 z4 hzs hown
          go_wp2_with fail
          go_ret2
          exact ⟨_, rfl, hrow, hkp⟩

end Go.Proofs.YtcdpmiheeenmmaaDoor
