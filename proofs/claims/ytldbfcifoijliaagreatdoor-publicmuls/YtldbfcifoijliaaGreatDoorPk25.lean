/- Put together of: NatL Pub1 Law21. -/
import Derived.Test.YtldbfcifoijliaaGreatDoorPk14
import Derived.Test.YtldbfcifoijliaaGreatDoorPk17
import Derived.Test.YtldbfcifoijliaaGreatDoorPk24

/- Package nat: Bytes, walked. -/
namespace Go.Proofs.YtldbfcifoijliaaGreatDoor
open Go.RowKit Go.Shelf

set_option maxRecDepth 20000 in
set_option maxHeartbeats 1000000 in
/-- Bytes; the answer lies in new memory. -/
theorem nBytesF (v : Value) (xs : List Nat) (n : Int) (w : World) (h : Row .u64 w v xs) (hd : Digs 18446744073709551616 xs) (hl : xs.length ≤ 100000000) :
    Calls Tryz.prog 29 #[v, .int .i64 n] w fun r w' => ∃ v', r = .returned (.tuple #[v', .int .i64 (bytCode (val 18446744073709551616 xs) xs.length n)]) ∧ Row .u8 w' v' (bytList (val 18446744073709551616 xs) xs.length n) ∧ (∀ b, v'.ownBlock = some b → w.heap.size ≤ b) ∧ Kept Nought w w' := by
  obtain ⟨i0, hi0, hz0, hz1, hz2⟩ := info_parts Tryz.info5
  have hBt := nBits v xs w h hd hl
  obtain ⟨ao, L, cap, rfl, hL, c1, c2, c3, hnum⟩ := h.open
  rw [hL.out]
  by_cases h1 : 2400 < n ∨ 300 < L
  · obtain ⟨e1, e2⟩ := byt_long (V := val 18446744073709551616 xs) (len := L) (n := n) h1
    rw [e1, e2]
    clear hBt hnum h
    by_cases h2 : 2400 < n
    · go_enter Tryz.func29, Tryz.ntmps29
      go_wp2
      go_ret2
      exact ⟨_, rfl, Row.nil _ _, fun b hb => by simp [Value.ownBlock] at hb, Kept.refl _ _⟩
    · have h3 : (300 : Int) < (L : Int) := by rcases h1 with h | h <;> omega
      clear h1
      go_enter Tryz.func29, Tryz.ntmps29
      go_wp2
      go_ret2
      exact ⟨_, rfl, Row.nil _ _, fun b hb => by simp [Value.ownBlock] at hb, Kept.refl _ _⟩
  · have h2 : ¬ 2400 < n := fun h => h1 (.inl h)
    have h3 : ¬ (300 : Int) < (L : Int) := fun h => h1 (.inr (by omega))
    have hbb : blen (val 18446744073709551616 xs) ≤ 64 * L := (blen_le _ _).2 (by
      have := val_lt (by omega) hd
      rwa [hL.out, show (18446744073709551616 : Nat) ^ L = 2 ^ (64 * L) by rw [Nat.pow_mul]] at this)
    have hwN : Hid (wordsN (val 18446744073709551616 xs) ≤ L) := by rw [← hL.out]; exact words_len hd
    have hdg : Hid (∀ i, xs.getD i 0 = dig 18446744073709551616 (val 18446744073709551616 xs) i) := fun i => (dig_val (by omega) hd i).symm
    have hlt : Hid (∀ i, dig 18446744073709551616 (val 18446744073709551616 xs) i < 18446744073709551616) := fun i => Nat.mod_lt _ (by omega)
    have HNUM : Hid (∀ i, i < L → NumAt .u64 w ao xs i) := hnum
    by_cases h4 : n < 0 ∨ n.toNat < (blen (val 18446744073709551616 xs) + 7) / 8
    · obtain ⟨e1, e2⟩ := byt_range (V := val 18446744073709551616 xs) (len := L) (n := n) h1 h4
      rw [e1, e2]
      have h5 : n < ((blen (val 18446744073709551616 xs) : Nat) + 7 : Int) / 8 := by rcases h4 with h | h <;> omega
      clear hnum h e1 e2 h1 h4 hwN hdg hlt HNUM
      generalize val 18446744073709551616 xs = V at *
      generalize blen V = M at *
      go_enter Tryz.func29, Tryz.ntmps29
      go_wp2_with fail
      refine hBt.mono ?_
      rintro e w' ⟨rfl, rfl⟩
      go_wp2
      go_ret2
      exact ⟨_, rfl, Row.nil _ _, fun b hb => by simp [Value.ownBlock] at hb, Kept.refl _ _⟩
    · obtain ⟨m, rfl⟩ := Int.eq_ofNat_of_zero_le (show 0 ≤ n by omega)
      obtain ⟨e1, e2⟩ := byt_ok (V := val 18446744073709551616 xs) (len := L) (n := m) (by omega) (by omega) (by omega)
      rw [e1, e2]
      have h5 : ¬ (m : Int) < ((blen (val 18446744073709551616 xs) : Nat) + 7 : Int) / 8 := by omega
      have hm : m ≤ 2400 := by omega
      clear hnum h e1 e2 h1 h4
      generalize val 18446744073709551616 xs = V at *
      generalize blen V = M at *
      go_enter Tryz.func29, Tryz.ntmps29
      go_wp2_with fail
      refine hBt.mono ?_
      rintro e w' ⟨rfl, rfl⟩
      clear hBt
      go_wp2_with (at_make; refine wpList_make_full _ rfl _ _ 25 rfl w'.heap.size 5 i0 _ 1 Tryz.underlying25 hi0 hz0 hz1 _ _ _ _ m rfl rfl rfl rfl (by rw [hz2]; omega) (by unfold maxLen; omega) (Nat.le_refl _) ?_; intro w1 ho1 hg1; rw [zeros_map] at ho1; have k1 := grown_kept hg1)
      have hb1 := own_block ho1
      have hlt1 := lt_of_block hb1
      rw [← laidB_zero V m] at hb1
      have HB1 : Hid _ := hb1
      clear ho1 hg1 hb1
      go_loopw [7, 28] (fun r i wr => ∃ k : Nat, k ≤ L ∧ i = .int .i64 (k : Int) ∧ (∃ q : Nat, Hid (q = m - 8 * k) ∧ r = .slice (some ⟨w'.heap.size, 0, none⟩) q m) ∧ Hid (wr.heap[w'.heap.size]? = some (.cells ((laidB V m k).map fun z => Value.int .u8 (z : Nat)).toArray 5 (0, 0))) ∧ Kept Nought w' wr ∧ w'.heap.size < wr.heap.size) (fun _ i _ => L - (intOf i).toNat)
      case atStart => exact ⟨0, Nat.zero_le _, rfl, ⟨m, by simp [Hid], rfl⟩, HB1, k1, hlt1⟩
      case round =>
        clear HB1 k1 hlt1
        obtain ⟨k, hk, rfl, ⟨q, hq, rfl⟩, hblk, hkp, hsz⟩ := hrel
        by_cases hkL : k < L
        · have hk1 : (k : Int) < (L : Int) := by omega
          obtain ⟨b, off, rfl, hc⟩ := (HNUM.out k hkL).grew hkp
          rw [hdg.out k] at hc
          have hx := hlt.out k
          obtain ⟨x, hxx⟩ : ∃ x, x = dig 18446744073709551616 V k := ⟨_, rfl⟩
          rw [← hxx] at hc hx
          have HX : Hid (x = dig 18446744073709551616 V k) := hxx
          clear hxx
          have hP := wPut (x : Int) (by omega) (by omega) wr
          go_wp2_with fail
          refine hP.mono ?_
          rintro e w2 ⟨rfl, rfl⟩
          clear hP
          have kA : Kept Nought w' (wr.alloc (.cells (putCells (x : Int) 8) 101)) := hkp.alloc _
          have hblk2 : Hid ((wr.alloc (.cells (putCells (x : Int) 8) 101)).heap[w'.heap.size]? = some (.cells ((laidB V m k).map fun z => Value.int .u8 (z : Nat)).toArray 5 (0, 0))) := heapAt_alloc hblk.out
          have hpc : Hid (∀ j z, (bytes8 x)[j]? = some z → (wr.alloc (.cells (putCells (x : Int) 8) 101)).cell? ⟨wr.heap.size, j, none⟩ = some (.int .u8 (z : Nat))) := by
            intro j z hz
            rw [put_cells]
            have hb := World.alloc_heap_new wr (.cells ((bytes8 x).map fun z => Value.int .u8 (z : Nat)).toArray 101)
            have hrow := Row.of_block (k := .u8) (n := 8) hb (by simp [bytes8]) (by unfold maxLen; omega)
            obtain ⟨ao', cap', e, _, _, _, h4⟩ := hrow
            obtain ⟨b', off', e', hcell⟩ := h4 j (List.getElem?_eq_some_iff.1 hz).1
            cases e
            cases e'
            rw [Nat.zero_add, List.getD_eq_getElem?_getD, hz] at hcell
            exact hcell
          have hs2 : (wr.alloc (.cells (putCells (x : Int) 8) 101)).heap.size = wr.heap.size + 1 := by simp
          generalize wr.alloc (.cells (putCells (x : Int) 8) 101) = W2 at *
          cases q with
          | zero =>
            have hLay := nLay0 w'.heap.size wr.heap.size m W2 (by omega)
            have HE : Hid (laidB V m k = laidB V m (k + 1)) := by
              have := hq.out
              unfold Hid laidB
              simp only [show m - 8 * k = 0 by omega, show m - 8 * (k + 1) = 0 by omega]
            go_wp2_with fail
            refine hLay.mono ?_
            rintro e w3 ⟨rfl, hg3, k3⟩
            have HG3 : Hid _ := hg3
            clear hLay hg3
            go_wp2
            go_roundw
            case rel => exact ⟨k + 1, by omega, by go_num, ⟨0, by have := hq.out; show 0 = m - 8 * (k + 1); omega, rfl⟩, by unfold Hid; rw [← HE.out, HG3.out]; exact hblk2.out, kA.trans k3, by have := k3.size; omega⟩
            case measure => simp [intOf]; omega
          | succ q =>
            have hmany : min (q + 1) 8 ≤ 8 := by omega
            have hLay := nLay w'.heap.size wr.heap.size (q + 1) m (min (q + 1) 8) _ (((bytes8 x).drop (8 - min (q + 1) 8)).map fun z => Value.int .u8 (z : Nat)) 5 W2 (by omega) (by have := hq.out; omega) (by omega) rfl hblk2.out (by rw [List.length_map, laidB_length]) (by simp [bytes8]; omega) (fun j u hu => by
                rw [List.getElem?_map, List.getElem?_drop] at hu
                cases hz : (bytes8 x)[8 - min (q + 1) 8 + j]? with
                | none => rw [hz] at hu; cases hu
                | some z => rw [hz] at hu; cases hu; exact hpc.out _ _ hz) (fun u hu => by obtain ⟨z, _, rfl⟩ := List.mem_map.1 hu; rfl)
            have HE : Hid (splice ((laidB V m k).map fun z => Value.int .u8 (z : Nat)) (q + 1 - min (q + 1) 8) (((bytes8 x).drop (8 - min (q + 1) 8)).map fun z => Value.int .u8 (z : Nat)) = (laidB V m (k + 1)).map fun z => Value.int .u8 (z : Nat)) := by
              have e := hq.out
              have := laidB_step (V := V) (n := m) (i := k) (by omega)
              unfold Hid
              rw [splice_map, HX.out, ← this, e]
            have hq2 : Hid (q + 1 - min (q + 1) 8 = m - 8 * (k + 1)) := by have := hq.out; show q + 1 - min (q + 1) 8 = m - 8 * (k + 1); omega
            rw [HE.out] at hLay
            generalize q + 1 - min (q + 1) 8 = q2 at *
            go_wp2_with fail
            refine hLay.mono ?_
            rintro e w3 ⟨rfl, hg3, k3⟩
            have HG3 : Hid _ := hg3
            clear hLay hg3
            go_wp2
            go_roundw
            case rel => exact ⟨k + 1, by omega, by go_num, ⟨q2, hq2, rfl⟩, HG3, kA.next k3 (fun x hx e => by omega), by have := k3.size; omega⟩
            case measure => simp [intOf]; omega
        · have hk1 : ¬ (k : Int) < (L : Int) := by omega
          have e : k = L := by omega
          subst e
          go_wp2
          go_ret2
          have hfin := hblk.out
          rw [laidB_all hwN.out] at hfin
          exact ⟨_, rfl, Row.of_block hfin (bes_length _ _ _) (by unfold maxLen; omega), fun b hb => by simp [Value.ownBlock] at hb; omega, hkp⟩

end Go.Proofs.YtldbfcifoijliaaGreatDoor


/- The plain side of layer 21 (package sconceref21): number, Apply. -/
namespace Go.Proofs.YtldbfcifoijliaaGreatDoor
open Go.RowKit

/-- The error of a number's bytes: just so many, below N. -/
def numE (N : Nat) (ms : List Nat) : Nat := if ms.length = sizeN N ∧ bev ms < N then 0 else 1

theorem dlen_bev {ms : List Nat} (h : Digs 256 ms) : dlen (bev ms) ≤ ms.length := (dlen_le _ _).2 (Nat.lt_of_lt_of_le (bev_ltB h) (Nat.pow_le_pow_left (by omega) _))

theorem dlen_val21 {xs : List Nat} (hd : Digs 18446744073709551616 xs) : dlen (val 18446744073709551616 xs) ≤ 2 * xs.length := (dlen_le _ _).2 (by
  rw [Nat.pow_mul]
  exact val_lt (by omega) hd)

theorem cmp_ge {a b : Nat} : cmpN a b ≥ 0 ↔ b ≤ a := by
  unfold cmpN
  split
  · constructor <;> intro h <;> omega
  · split <;> constructor <;> intro h <;> omega

set_option maxRecDepth 20000 in
set_option maxHeartbeats 1000000 in
/-- number. -/
theorem r21number (u : Value) (ns : List Nat) (bo : Option Addr) (M dap : Nat) (ms : List Nat) (w : World) (hu : Row .u64 w u ns) (hdn : Digs 18446744073709551616 ns) (hln : ns.length ≤ 1000000) (hv : Row .u8 w (.slice bo M dap) ms) (hdm : Digs 256 ms) (hlm : M ≤ 1000000) :
    Calls Tryz.prog 30 #[u, .slice bo M dap] w fun e w' => ∃ v', e = .returned (.tuple #[v', .int .i64 (numE (val 18446744073709551616 ns) ms : Nat)]) ∧ (numE (val 18446744073709551616 ns) ms = 0 → IsBig w' v' (bev ms) ∧ ∀ x, v'.ownBlock = some x → w.heap.size ≤ x) ∧ (∃ xo xn xc, v' = .slice xo xn xc) ∧ Kept Nought w w' := by
  obtain ⟨_, _, _, e1, hM, -, -, -, -⟩ := hv.open
  cases e1
  have hF := rFromBytes _ ms w hv hdm (by rw [hM.out]; omega)
  have JS := toHid fun W (k : Kept Nought w W) => r18Size u ns W (hu.grew k) hdn (by omega)
  have JO := toHid fun W (k : Kept Nought w W) => rOf u ns W (hu.grew k) hdn (by omega)
  obtain ⟨ao, L, cap, rfl, -, -, -, -, -⟩ := hu.open
  have HM := toHid hM.out
  have hsz : sizeN (val 18446744073709551616 ns) ≤ 8000001 := by
    unfold sizeN
    have := blen_val hdn
    omega
  clear hu hdn hln hv hdm hM
  generalize val 18446744073709551616 ns = N at *
  go_enter Tryz.func30, Tryz.ntmps30
  go_wp2_with fail
  refine hF.mono ?_
  rintro e w1 ⟨v1, rfl, b1, f1, k1⟩
  have HK1 := toHid k1
  have HF1 := toHid f1
  have hS := JS.out w1 k1
  obtain ⟨xo, xn, xc, rfl, -, -⟩ := b1.length
  have HB1 := toHid b1
  clear hF k1 b1 JS f1
  generalize hz : sizeN N = z at *
  have HZ := toHid hz
  clear hz
  by_cases h1 : M = z
  · have g1 : ((M : Int) == (z : Int)) = true := by simp [h1]
    have g1' : (M : Int) = (z : Int) := by omega
    subst h1
    go_wp2_with fail
    refine hS.mono ?_
    rintro e w2 ⟨rfl, k2⟩
    have HK2 := toHid (HK1.out.trans k2)
    have HB2 := toHid (HB1.out.grew k2)
    have hO := JO.out w2 HK2.out
    clear hS k2 HB1
    go_wp2_with fail
    refine hO.mono ?_
    rintro e w3 ⟨v3, rfl, b3, _, k3⟩
    have HK3 := toHid (HK2.out.trans k3)
    have HB3 := toHid (HB2.out.grew k3)
    have hC := rCmp _ v3 (bev ms) N w3 HB3.out b3
    obtain ⟨yo, yn, yc, rfl, -, -⟩ := b3.length
    clear hO k3 HB2 b3
    by_cases h2 : bev ms < N
    · have HE : Hid (numE N ms = 0) := by unfold Hid numE; rw [if_pos ⟨by rw [HM.out, HZ.out], h2⟩]
      rw [cmpN_lt h2] at hC
      clear h2
      go_wp2_with fail
      refine hC.mono ?_
      rintro e w4 ⟨rfl, m4, rfl⟩
      have k4 : Kept Nought w3 (w3.drewN m4) := (Kept.refl Nought w3).drewN m4
      go_wp2_with fail
      go_ret2
      exact ⟨_, by rw [HE.out]; rfl, fun _ => ⟨HB3.out.grew k4, HF1.out⟩, ⟨_, _, _, rfl⟩, HK3.out.trans k4⟩
    · have HE : Hid (numE N ms = 1) := by unfold Hid numE; rw [if_neg (fun h => h2 h.2)]
      have g2 : cmpN (bev ms) N ≥ 0 := cmp_ge.2 (by omega)
      have g2' : (0 : Int) ≤ cmpN (bev ms) N := g2
      generalize cmpN (bev ms) N = c at *
      clear h2
      go_wp2_with fail
      refine hC.mono ?_
      rintro e w4 ⟨rfl, m4, rfl⟩
      have k4 : Kept Nought w3 (w3.drewN m4) := (Kept.refl Nought w3).drewN m4
      go_wp2_with fail
      go_ret2
      exact ⟨_, by rw [HE.out]; rfl, fun h => by rw [HE.out] at h; omega, ⟨_, _, _, rfl⟩, HK3.out.trans k4⟩
  · have HE : Hid (numE N ms = 1) := by unfold Hid numE; rw [if_neg (fun h => h1 (by rw [← HM.out, ← HZ.out]; exact h.1))]
    have g1 : ¬ (M : Int) = (z : Int) := by omega
    clear h1
    go_wp2_with fail
    refine hS.mono ?_
    rintro e w2 ⟨rfl, k2⟩
    clear hS
    go_wp2_with fail
    go_ret2
    exact ⟨_, by rw [HE.out]; rfl, fun h => by rw [HE.out] at h; omega, ⟨_, _, _, rfl⟩, HK1.out.trans k2⟩

/-- The error of Apply. -/
def appE (ns : List Nat) (e : Nat) (ms : List Nat) : Nat := if pubE ns e = 0 then numE (val 18446744073709551616 ns) ms else 190

/-- What Apply answers. -/
def appL (ns : List Nat) (e : Nat) (ms : List Nat) : List Nat := if appE ns e ms = 0 then bes (bev ms ^ e % val 18446744073709551616 ns) ms.length ms.length else []

theorem pubE_cases (ns : List Nat) (e : Nat) : pubE ns e = 0 ∨ pubE ns e = 190 := by unfold pubE; split <;> simp

theorem pubE_len {ns : List Nat} {e : Nat} (h : pubE ns e = 0) : ns.length ≤ 1000 := by
  unfold pubE at h
  split at h
  · cases h
  · next h1 => omega

theorem numE_cases (N : Nat) (ms : List Nat) : numE N ms = 0 ∨ numE N ms = 1 := by unfold numE; split <;> simp

set_option maxRecDepth 20000 in
set_option maxHeartbeats 1000000 in
/-- Apply. -/
theorem r21Apply (ao : Option Addr) (L cap : Nat) (ns : List Nat) (e : Nat) (he : e < 18446744073709551616) (bo : Option Addr) (M dap : Nat) (ms : List Nat) (w : World) (hu : Row .u64 w (.slice ao L cap) ns) (hdn : Digs 18446744073709551616 ns) (hln : L ≤ 1000000) (hv : Row .u8 w (.slice bo M dap) ms) (hdm : Digs 256 ms) (hlm : M ≤ 1000000) :
    Calls Tryz.prog 9 #[.slice ao L cap, .int .u64 (e : Nat), .slice bo M dap] w fun q w' => ∃ v', q = .returned (.tuple #[v', .int .i64 (appE ns e ms : Nat)]) ∧ Row .u8 w' v' (appL ns e ms) ∧ (∀ b, v'.ownBlock = some b → w.heap.size ≤ b) ∧ Kept Nought w w' := by
  obtain ⟨_, _, _, e1, hL, -, -, -, -⟩ := hu.open
  cases e1
  obtain ⟨_, _, _, e1, hM, -, -, -, -⟩ := hv.open
  cases e1
  have hP := r18Public ao L cap ns e he _ rfl w hu hdn hln
  have JN := toHid fun W (k : Kept Nought w W) => r21number (.slice ao L cap) ns bo M dap ms W (hu.grew k) hdn (by have := hL.out; omega) (hv.grew k) hdm hlm
  have JO := toHid fun W (k : Kept Nought w W) => rOf (.slice ao L cap) ns W (hu.grew k) hdn (by have := hL.out; omega)
  have HD : Hid (dlen (bev ms) ≤ M) := by unfold Hid; rw [← hM.out]; exact dlen_bev hdm
  have HDN : Hid (pubE ns e = 0 → dlen (val 18446744073709551616 ns) ≤ 2000) := fun h => by
    have h1 := pubE_len h
    have h2 := dlen_val21 hdn
    omega
  have HM := toHid hM.out
  have HA : Hid (appE ns e ms = if pubE ns e = 0 then numE (val 18446744073709551616 ns) ms else 190) := rfl
  have HAL : Hid (appL ns e ms = if appE ns e ms = 0 then bes (bev ms ^ e % val 18446744073709551616 ns) M M else []) := by unfold Hid; rw [← hM.out]; rfl
  have HC := pubE_cases ns e
  have HNC := numE_cases (val 18446744073709551616 ns) ms
  have HN0 : Hid (numE (val 18446744073709551616 ns) ms = 0 → bev ms < val 18446744073709551616 ns) := fun h => by
    unfold numE at h
    split at h
    · next h1 => exact h1.2
    · cases h
  clear hu hdn hln hv hdm hL hM
  generalize val 18446744073709551616 ns = N at *
  generalize pubE ns e = pe at *
  generalize appE ns e ms = ae at *
  generalize appL ns e ms = al at *
  go_enter Tryz.func9, Tryz.ntmps9
  go_wp2_with fail
  refine hP.mono ?_
  rintro r w1 ⟨rfl, k1⟩
  have HK1 := toHid k1
  clear hP k1
  rcases HC with rfl | rfl
  · have hN := JN.out w1 HK1.out
    go_wp2_with fail
    refine hN.mono ?_
    rintro r w2 ⟨v2, rfl, b2, ⟨xo, xn, xc, rfl⟩, k2⟩
    have HK2 := toHid (HK1.out.trans k2)
    clear hN k2
    rcases HNC with h0 | h0
    · have HB2 := toHid (b2 h0).1
      have hlt := HN0.out h0
      have HA0 : Hid (ae = 0) := by unfold Hid; have h9 := HA.out; simp at h9; rw [h9, h0]
      have HS := toHid (rSmall e he w2)
      rw [h0]
      clear b2 h0
      go_wp2_with fail
      refine HS.out.mono ?_
      rintro r w3 ⟨v3, rfl, b3, _, k3⟩
      have HK3 := toHid (HK2.out.trans k3)
      have hO := JO.out w3 HK3.out
      have HB3 := toHid (HB2.out.grew k3)
      have HE3 := toHid b3
      obtain ⟨yo, yn, yc, rfl, -, -⟩ := b3.length
      clear HS k3 b3
      go_wp2_with fail
      refine hO.mono ?_
      rintro r w4 ⟨v4, rfl, b4, _, k4⟩
      have HK4 := toHid (HK3.out.trans k4)
      have hX := rExpMod _ _ v4 (bev ms) e N w4 (HB3.out.grew k4) (HE3.out.grew k4) b4 (by omega) (by have := HD.out; omega) (by have := HDN.out (by first | rfl | trivial); omega)
      obtain ⟨zo, zn, zc, rfl, -, -⟩ := b4.length
      clear hO k4 b4
      go_wp2_with fail
      refine hX.mono ?_
      rintro r w5 ⟨v5, rfl, b5, _, k5⟩
      have HK5 := toHid (HK4.out.trans k5)
      have hT := rToBytes v5 (bev ms ^ e % N) M w5 b5 (by omega)
      obtain ⟨tq, tn, tc, rfl, -, -⟩ := b5.length
      clear hX k5 b5
      go_wp2_with fail
      refine hT.mono ?_
      rintro r w6 ⟨v6, rfl, r6, o6, k6⟩
      have HK6 := toHid (HK5.out.trans k6)
      have HR6 : Hid (Row .u8 w6 v6 al) := by unfold Hid; rw [HAL.out, if_pos HA0.out]; exact r6
      have HO6 : Hid (∀ b, v6.ownBlock = some b → w.heap.size ≤ b) := fun b hb => by
        rw [o6] at hb
        cases hb
        exact HK5.out.size
      obtain ⟨ro, rn, rc, rfl, -, -⟩ := r6.open
      clear hT k6 r6 o6
      go_wp2_with fail
      go_ret2
      exact ⟨_, by rw [HA0.out]; rfl, HR6.out, HO6.out, HK6.out⟩
    · have HA1 : Hid (ae = 1) := by unfold Hid; have h9 := HA.out; simp at h9; rw [h9, h0]
      have HL1 : Hid (al = []) := by unfold Hid; rw [HAL.out, if_neg (by rw [HA1.out]; omega)]
      rw [h0]
      clear b2 h0
      go_wp2_with fail
      go_ret2
      exact ⟨_, by rw [HA1.out]; rfl, by rw [HL1.out]; exact Row.nil _ _, (fun b hb => by cases hb), HK2.out⟩
  · have HA1 : Hid (ae = 190) := by unfold Hid; have h9 := HA.out; simp at h9; exact h9
    have HL1 : Hid (al = []) := by unfold Hid; rw [HAL.out, if_neg (by rw [HA1.out]; omega)]
    go_wp2_with fail
    go_ret2
    exact ⟨_, by rw [HA1.out]; rfl, by rw [HL1.out]; exact Row.nil _ _, (fun b hb => by cases hb), HK1.out⟩

end Go.Proofs.YtldbfcifoijliaaGreatDoor


/- Layer 21: what the landed Apply must answer, as a proposition; what the laws ask first; numbers of powers. -/
namespace Go.Proofs.YtldbfcifoijliaaGreatDoor
open Go.RowKit

/-- Apply, landed. -/
def PApp : Prop := ∀ (ao : Option Addr) (L cap : Nat) (ns : List Nat) (e : Nat) (bo : Option Addr) (M dap : Nat) (ms : List Nat) (w : World), e < 18446744073709551616 → Row .u64 w (.slice ao L cap) ns → Digs 18446744073709551616 ns → L ≤ 1000 → Row .u8 w (.slice bo M dap) ms → Digs 256 ms → M ≤ 10000 →
  Calls Tryz.prog 8 #[.slice ao L cap, .int .u64 (e : Nat), .slice bo M dap] w fun q w' => ∃ v', q = .returned (.tuple #[v', .int .i64 (appE ns e ms : Nat)]) ∧ Row .u8 w' v' (appL ns e ms) ∧ (∀ b, v'.ownBlock = some b → w.heap.size ≤ b) ∧ Kept Nought w w'

theorem appL_digs (ns : List Nat) (e : Nat) (ms : List Nat) : Digs 256 (appL ns e ms) := by
  unfold appL
  split
  · exact bes_digs _ _ _
  · exact Digs.nil _

theorem appL_len {ns : List Nat} {e : Nat} {ms : List Nat} (h : appE ns e ms = 0) : (appL ns e ms).length = ms.length := by
  unfold appL
  rw [if_pos h]
  exact bes_length _ _ _

theorem bev_bes21 (V n : Nat) : ∀ i, i ≤ n → bev (bes V n i) = V / 256 ^ (n - i) % 256 ^ i
  | 0, _ => by simp [bes, bev, Nat.mod_one]
  | i + 1, h => by
    unfold bes
    rw [bev_snoc, bev_bes21 V n i (by omega)]
    unfold dig
    rw [show n - i = (n - 1 - i) + 1 by omega, show n - (i + 1) = n - 1 - i by omega, Nat.pow_succ 256 (n - 1 - i), ← Nat.div_div_eq_div_mul]
    generalize V / 256 ^ (n - 1 - i) = A
    rw [Nat.pow_succ, Nat.mul_comm (256 ^ i), Nat.mod_mul]
    omega

theorem bev_back21 {V n : Nat} (h : V < 256 ^ n) : bev (bes V n n) = V := by
  rw [bev_bes21 V n n (Nat.le_refl _), Nat.sub_self, Nat.pow_zero, Nat.div_one, Nat.mod_eq_of_lt h]

theorem size_fit (N : Nat) : N < 256 ^ sizeN N := by
  have h := (blen_le N (8 * sizeN N)).1 (by unfold sizeN; omega)
  rwa [Nat.pow_mul] at h

theorem app_zero {ns : List Nat} {e : Nat} {ms : List Nat} (h : appE ns e ms = 0) : pubE ns e = 0 ∧ ms.length = sizeN (val 18446744073709551616 ns) ∧ bev ms < val 18446744073709551616 ns := by
  unfold appE at h
  split at h
  · next h1 =>
    refine ⟨h1, ?_⟩
    unfold numE at h
    split at h
    · next h2 => exact h2
    · omega
  · omega

theorem app_of {ns : List Nat} {e : Nat} {ms : List Nat} (h1 : pubE ns e = 0) (h2 : ms.length = sizeN (val 18446744073709551616 ns)) (h3 : bev ms < val 18446744073709551616 ns) : appE ns e ms = 0 := by
  unfold appE numE
  rw [if_pos h1, if_pos ⟨h2, h3⟩]

/-- The number that a power's bytes are. -/
theorem app_val {ns : List Nat} {e : Nat} {ms : List Nat} (h : appE ns e ms = 0) : bev (appL ns e ms) = bev ms ^ e % val 18446744073709551616 ns := by
  obtain ⟨_, h2, h3⟩ := app_zero h
  unfold appL
  rw [if_pos h, h2]
  exact bev_back21 (Nat.lt_trans (Nat.mod_lt _ (by omega)) (size_fit _))

theorem pow_prod (A B e N : Nat) : (A * B % N) ^ e % N = A ^ e % N * (B ^ e % N) % N := by
  rw [← Nat.pow_mod, Nat.mul_pow, Nat.mul_mod]

set_option maxHeartbeats 400000 in
/-- Few. -/
theorem f21Few (ao bo : Option Addr) (L cap M dap : Nat) (R : Bool) (hR : R = true ↔ L ≤ 12 ∧ M ≤ 200) (w : World) :
    Calls Tryz.prog 7 #[.slice ao L cap, .slice bo M dap] w fun r w' => r = .returned (.bool R) ∧ w' = w := by
  by_cases h1 : L ≤ 12
  · have g1 : (L : Int) ≤ 12 := by omega
    by_cases h2 : M ≤ 200
    · have g2 : (M : Int) ≤ 200 := by omega
      obtain rfl : R = true := hR.2 ⟨h1, h2⟩
      clear hR
      go_enter Tryz.func7, Tryz.ntmps7
      go_wp2_with fail
      go_ret
      exact ⟨rfl, rfl⟩
    · have g2 : ¬ (M : Int) ≤ 200 := by omega
      obtain rfl : R = false := by
        cases e : R with
        | false => rfl
        | true => have := hR.1 e; omega
      clear hR
      go_enter Tryz.func7, Tryz.ntmps7
      go_wp2_with fail
      go_ret
      exact ⟨rfl, rfl⟩
  · have g1 : ¬ (L : Int) ≤ 12 := by omega
    obtain rfl : R = false := by
      cases e : R with
      | false => rfl
      | true => have := hR.1 e; omega
    clear hR
    go_enter Tryz.func7, Tryz.ntmps7
    go_wp2_with fail
    go_ret
    exact ⟨rfl, rfl⟩

theorem ex21 : (appE [1, 9223372036854775808] 3 [0, 0, 0, 0, 0, 0, 0, 0, 0, 0, 0, 0, 0, 0, 0, 1] = 0 ∧ appL [1, 9223372036854775808] 3 [0, 0, 0, 0, 0, 0, 0, 0, 0, 0, 0, 0, 0, 0, 0, 1] = [0, 0, 0, 0, 0, 0, 0, 0, 0, 0, 0, 0, 0, 0, 0, 1]) ∧ appE [1, 9223372036854775808] 4 [0, 0, 0, 0, 0, 0, 0, 0, 0, 0, 0, 0, 0, 0, 0, 1] = 190 := by decide +kernel

end Go.Proofs.YtldbfcifoijliaaGreatDoor

