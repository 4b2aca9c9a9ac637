/- Package nat: Bytes, walked. -/
import Derived.Test.YtcdpmiheeenmmaaDoorNatK
namespace Go.Proofs.YtcdpmiheeenmmaaDoor
open Go.RowKit Go.Shelf

set_option maxRecDepth 20000 in
set_option maxHeartbeats 1000000 in
/-- Bytes. -/
theorem nBytes (v : Value) (xs : List Nat) (n : Int) (w : World) (h : Row .u64 w v xs) (hd : Digs 18446744073709551616 xs) (hl : xs.length ≤ 100000000) :
    Calls Tryd.prog 14 #[v, .int .i64 n] w fun r w' => ∃ v', r = .returned (.tuple #[v', .int .i64 (bytCode (val 18446744073709551616 xs) xs.length n)]) ∧ Row .u8 w' v' (bytList (val 18446744073709551616 xs) xs.length n) ∧ Kept Nought w w' := by
  obtain ⟨i0, hi0, hz0, hz1, hz2⟩ := info_parts Tryd.info5
  have hBt := nBits v xs w h hd hl
  obtain ⟨ao, L, cap, rfl, hL, c1, c2, c3, hnum⟩ := h.open
  rw [hL.out]
  by_cases h1 : 2400 < n ∨ 300 < L
  · obtain ⟨e1, e2⟩ := byt_long (V := val 18446744073709551616 xs) (len := L) (n := n) h1
    rw [e1, e2]
    clear hBt hnum h
    by_cases h2 : 2400 < n
    · go_enter Tryd.func14, Tryd.ntmps14
      go_wp2
      go_ret2
      exact ⟨_, rfl, Row.nil _ _, Kept.refl _ _⟩
    · have h3 : (300 : Int) < (L : Int) := by rcases h1 with h | h <;> omega
      clear h1
      go_enter Tryd.func14, Tryd.ntmps14
      go_wp2
      go_ret2
      exact ⟨_, rfl, Row.nil _ _, Kept.refl _ _⟩
  · have h2 : ¬ 2400 < n := fun h => h1 (.inl h)
    have h3 : ¬ (300 : Int) < (L : Int) := fun h => h1 (.inr (by omega))
    have hbb : blen (val 18446744073709551616 xs) ≤ 64 * L := (blen_le _ _).2 (by
      have := val_lt (by omega) hd
      rwa [hL.out, show (18446744073709551616 : Nat) ^ L = 2 ^ (64 * L) by rw [Nat.pow_mul]] at this)
    have hwN : Hid (wordsN (val 18446744073709551616 xs) ≤ L) := by rw [← hL.out]; exact words_len hd
    have hdg : Hid (∀ i, xs.getD i 0 = dig 18446744073709551616 (val 18446744073709551616 xs) i) := fun i => (dig_val (by omega) hd i).symm
    have hlt : Hid (∀ i, dig 18446744073709551616 (val 18446744073709551616 xs) i < 18446744073709551616) := fun i => Nat.mod_lt _ (by omega)
    have HNUM : Hid (∀ i, i < L → NumAt .u64 w ao xs i) := hnum
    by_cases h4 : n < 0 ∨ n.toNat < (blen (val 18446744073709551616 xs) + 7) / 8
    · obtain ⟨e1, e2⟩ := byt_range (V := val 18446744073709551616 xs) (len := L) (n := n) h1 h4
      rw [e1, e2]
      have h5 : n < ((blen (val 18446744073709551616 xs) : Nat) + 7 : Int) / 8 := by rcases h4 with h | h <;> omega
      clear hnum h e1 e2 h1 h4 hwN hdg hlt HNUM
      generalize val 18446744073709551616 xs = V at *
      generalize blen V = M at *
      go_enter Tryd.func14, Tryd.ntmps14
      go_wp2_with fail
      refine hBt.mono ?_
      rintro e w' ⟨rfl, rfl⟩
      go_wp2
      go_ret2
      exact ⟨_, rfl, Row.nil _ _, Kept.refl _ _⟩
    · obtain ⟨m, rfl⟩ := Int.eq_ofNat_of_zero_le (show 0 ≤ n by omega)
      obtain ⟨e1, e2⟩ := byt_ok (V := val 18446744073709551616 xs) (len := L) (n := m) (by omega) (by omega) (by omega)
      rw [e1, e2]
      have h5 : ¬ (m : Int) < ((blen (val 18446744073709551616 xs) : Nat) + 7 : Int) / 8 := by omega
      have hm : m ≤ 2400 := by omega
      clear hnum h e1 e2 h1 h4
      generalize val 18446744073709551616 xs = V at *
      generalize blen V = M at *
      go_enter Tryd.func14, Tryd.ntmps14
      go_wp2_with fail
      refine hBt.mono ?_
      rintro e w' ⟨rfl, rfl⟩
      clear hBt
      go_wp2_with (at_make; refine wpList_make_full _ rfl _ _ 22 rfl w'.heap.size 5 i0 _ 1 Tryd.underlying22 hi0 hz0 hz1 _ _ _ _ m rfl rfl rfl rfl (by rw [hz2]; omega) (by unfold maxLen; omega) (Nat.le_refl _) ?_; intro w1 ho1 hg1; rw [zeros_map] at ho1; have k1 := grown_kept hg1)
      have hb1 := own_block ho1
      have hlt1 := lt_of_block hb1
      rw [← laidB_zero V m] at hb1
      have HB1 : Hid _ := hb1
      clear ho1 hg1 hb1
      go_loopw [7, 28] (fun r i wr => ∃ k : Nat, k ≤ L ∧ i = .int .i64 (k : Int) ∧ (∃ q : Nat, Hid (q = m - 8 * k) ∧ r = .slice (some ⟨w'.heap.size, 0, none⟩) q m) ∧ Hid (wr.heap[w'.heap.size]? = some (.cells ((laidB V m k).map fun z => Value.int .u8 (z : Nat)).toArray 5 (0, 0))) ∧ Kept Nought w' wr ∧ w'.heap.size < wr.heap.size) (fun _ i _ => L - (intOf i).toNat)
      case atStart => exact ⟨0, Nat.zero_le _, rfl, ⟨m, by simp [Hid], rfl⟩, HB1, k1, hlt1⟩
      case round =>
        clear HB1 k1 hlt1
        obtain ⟨k, hk, rfl, ⟨q, hq, rfl⟩, hblk, hkp, hsz⟩ := hrel
        by_cases hkL : k < L
        · have hk1 : (k : Int) < (L : Int) := by omega
          obtain ⟨b, off, rfl, hc⟩ := (HNUM.out k hkL).grew hkp
          rw [hdg.out k] at hc
          have hx := hlt.out k
          obtain ⟨x, hxx⟩ : ∃ x, x = dig 18446744073709551616 V k := ⟨_, rfl⟩
          rw [← hxx] at hc hx
          have HX : Hid (x = dig 18446744073709551616 V k) := hxx
          clear hxx
          have hP := wPut (x : Int) (by omega) (by omega) wr
          go_wp2_with fail
          refine hP.mono ?_
          rintro e w2 ⟨rfl, rfl⟩
          clear hP
          have kA : Kept Nought w' (wr.alloc (.cells (putCells (x : Int) 8) 107)) := hkp.alloc _
          have hblk2 : Hid ((wr.alloc (.cells (putCells (x : Int) 8) 107)).heap[w'.heap.size]? = some (.cells ((laidB V m k).map fun z => Value.int .u8 (z : Nat)).toArray 5 (0, 0))) := heapAt_alloc hblk.out
          have hpc : Hid (∀ j z, (bytes8 x)[j]? = some z → (wr.alloc (.cells (putCells (x : Int) 8) 107)).cell? ⟨wr.heap.size, j, none⟩ = some (.int .u8 (z : Nat))) := by
            intro j z hz
            rw [put_cells]
            have hb := World.alloc_heap_new wr (.cells ((bytes8 x).map fun z => Value.int .u8 (z : Nat)).toArray 107)
            have hrow := Row.of_block (k := .u8) (n := 8) hb (by simp [bytes8]) (by unfold maxLen; omega)
            obtain ⟨ao', cap', e, _, _, _, h4⟩ := hrow
            obtain ⟨b', off', e', hcell⟩ := h4 j (List.getElem?_eq_some_iff.1 hz).1
            cases e
            cases e'
            rw [Nat.zero_add, List.getD_eq_getElem?_getD, hz] at hcell
            exact hcell
          have hs2 : (wr.alloc (.cells (putCells (x : Int) 8) 107)).heap.size = wr.heap.size + 1 := by simp
          generalize wr.alloc (.cells (putCells (x : Int) 8) 107) = W2 at *
          cases q with
          | zero =>
            have hLay := nLay0 w'.heap.size wr.heap.size m W2 (by omega)
            have HE : Hid (laidB V m k = laidB V m (k + 1)) := by
              have := hq.out
              unfold Hid laidB
              simp only [show m - 8 * k = 0 by omega, show m - 8 * (k + 1) = 0 by omega]
            go_wp2_with fail
            refine hLay.mono ?_
            rintro e w3 ⟨rfl, hg3, k3⟩
            have HG3 : Hid _ := hg3
            clear hLay hg3
            go_wp2
            go_roundw
            case rel => exact ⟨k + 1, by omega, by go_num, ⟨0, by have := hq.out; show 0 = m - 8 * (k + 1); omega, rfl⟩, by unfold Hid; rw [← HE.out, HG3.out]; exact hblk2.out, kA.trans k3, by have := k3.size; omega⟩
            case measure => simp [intOf]; omega
          | succ q =>
            have hmany : min (q + 1) 8 ≤ 8 := by omega
            have hLay := nLay w'.heap.size wr.heap.size (q + 1) m (min (q + 1) 8) _ (((bytes8 x).drop (8 - min (q + 1) 8)).map fun z => Value.int .u8 (z : Nat)) 5 W2 (by omega) (by have := hq.out; omega) (by omega) rfl hblk2.out (by rw [List.length_map, laidB_length]) (by simp [bytes8]; omega) (fun j u hu => by
                rw [List.getElem?_map, List.getElem?_drop] at hu
                cases hz : (bytes8 x)[8 - min (q + 1) 8 + j]? with
                | none => rw [hz] at hu; cases hu
                | some z => rw [hz] at hu; cases hu; exact hpc.out _ _ hz) (fun u hu => by obtain ⟨z, _, rfl⟩ := List.mem_map.1 hu; rfl)
            have HE : Hid (splice ((laidB V m k).map fun z => Value.int .u8 (z : Nat)) (q + 1 - min (q + 1) 8) (((bytes8 x).drop (8 - min (q + 1) 8)).map fun z => Value.int .u8 (z : Nat)) = (laidB V m (k + 1)).map fun z => Value.int .u8 (z : Nat)) := by
              have e := hq.out
              have := laidB_step (V := V) (n := m) (i := k) (by omega)
              unfold Hid
              rw [splice_map, HX.out, ← this, e]
            have hq2 : Hid (q + 1 - min (q + 1) 8 = m - 8 * (k + 1)) := by have := hq.out; show q + 1 - min (q + 1) 8 = m - 8 * (k + 1); omega
            rw [HE.out] at hLay
            generalize q + 1 - min (q + 1) 8 = q2 at *
            go_wp2_with fail
            refine hLay.mono ?_
            rintro e w3 ⟨rfl, hg3, k3⟩
            have HG3 : Hid _ := hg3
            clear hLay hg3
            go_wp2
            go_roundw
            case rel => exact ⟨k + 1, by omega, by go_num, ⟨q2, hq2, rfl⟩, HG3, kA.next k3 (fun x hx e => by omega), by have := k3.size; omega⟩
            case measure => simp [intOf]; omega
        · have hk1 : ¬ (k : Int) < (L : Int) := by omega
          have e : k = L := by omega
          subst e
          go_wp2
          go_ret2
          have hfin := hblk.out
          rw [laidB_all hwN.out] at hfin
          exact ⟨_, rfl, Row.of_block hfin (bes_length _ _ _) (by unfold maxLen; omega), hkp⟩

end Go.Proofs.YtcdpmiheeenmmaaDoor
