/- Put together of: Oap2 Oap3. -/
import Derived.Test.YtnhkfdbeacmepaaDoorPk29
import Derived.Test.YtnhkfdbeacmepaaDoorPk30
import Derived.Laws.AppendOwnNone

/- Package oaep: masks and what it hands out, unmasked, noughts; slices.Clone of bytes. -/
namespace Go.Proofs.YtnhkfdbeacmepaaDoor
open Go.RowKit Go.Shelf

set_option maxHeartbeats 2000000 in
set_option maxRecDepth 20000 in
/-- slices.Clone of bytes. -/
theorem zClone (ad : Addr) (n c : Nat) (xs : List Nat) (w : World) (h : Row .u8 w (.slice (some ad) n c) xs) (hn : n ≤ 1000000) :
    Calls Tryd.prog 36 #[.slice (some ad) n c] w fun e w' => ∃ v', e = .returned v' ∧ OwnB w' w.heap.size v' xs ∧ Kept Nought w w' := by
  obtain ⟨_, _, _, e1, hL, _, _, _, _⟩ := h.open
  cases e1
  have hq : ∀ (w : World) (a : Option Addr) (n c : Nat), (binOp .eql 22 (.slice a n c) (.slice none 0 0)).run Tryd.prog w = .ok (.bool a.isNone) w := fun w a n c => Lib.run_eql_slice_nil w _ _ a n c _ _ Tryd.underlying22
  have k0 : Kept Nought w (w.alloc (.cells #[] 5)) := (Kept.refl Nought w).alloc _
  have hr := toHid (h.grew k0)
  have hO : Hid (OwnB (w.alloc (.cells #[] 5)) w.heap.size (.slice (some ⟨w.heap.size, 0, none⟩) 0 0) []) := World.ownsRow_made w #[] 0 (Nat.le_refl _) (Nat.zero_le _) rfl
  have HK0 := toHid k0
  have hl : Hid (xs.length ≤ 1000000) := by have := hL.out; unfold Hid; omega
  clear h k0 hL
  go_enter Tryd.func36, Tryd.ntmps36
  go_wp2_with (at_builtin; refine wpList_append_row rfl _ _ rfl w.heap.size _ [] rfl hO.out _ rfl xs hr.out (by have := hl.out; simp; omega) (by simp) ?_)
  intro v' w1 hown hg
  have HK1 : Hid (Kept Nought w w1) := HK0.out.grown hg (fun k hk hlt => by simp [Value.ownBlock] at hk; omega)
  have HO1 := toHid hown
  clear hown hg
  go_wp2_with fail
  go_ret
  exact ⟨v', rfl, HO1.out, HK1.out⟩

/-- masks: both parameters are boxed; the function value holds the boxes. -/
theorem zMasks (po : Option Addr) (h : Int) (w : World) :
    Calls Tryd.prog 28 #[.pointer po, .int .i64 h] w fun e w' => e = .returned (.func (.func 48) #[] #[.pointer (some ⟨w.heap.size, 0, none⟩), .pointer (some ⟨w.heap.size + 1, 0, none⟩)]) ∧ Boxed w' w.heap.size 48 (.pointer po) ∧ Boxed w' (w.heap.size + 1) 3 (.int .i64 h) ∧ w'.heap.size = w.heap.size + 2 ∧ Kept Nought w w' := by
  have b1 := (Boxed.new w 48 (.pointer po)).alloc (.cells #[.int .i64 h] 3)
  have b2 := Boxed.new (w.alloc (.cells #[.pointer po] 48)) 3 (.int .i64 h)
  rw [World.size_alloc] at b2
  have hs : ((w.alloc (.cells #[.pointer po] 48)).alloc (.cells #[.int .i64 h] 3)).heap.size = w.heap.size + 2 := by simp
  have k : Kept Nought w ((w.alloc (.cells #[.pointer po] 48)).alloc (.cells #[.int .i64 h] 3)) := ((Kept.refl Nought w).alloc _).alloc _
  have H1 := toHid b1
  have H2 := toHid b2
  have H3 := toHid hs
  have H4 := toHid k
  clear b1 b2 hs k
  go_enter Tryd.func28, Tryd.ntmps28
  go_wp2
  go_ret
  exact ⟨rfl, H1.out, H2.out, H3.out, H4.out⟩

set_option maxRecDepth 20000 in
set_option maxHeartbeats 2000000 in
/-- What masks hands out: the mask of a seed is laid over a part of a block, in its place. -/
theorem zLay (o : Tr) (h : Int) (p q b cap s n s2 m : Nat) (zs : List Nat) (w : World) (hz : hszN h ≠ 0) (ht : TrRoom w o 1) (hT : TabH w) (ha : ApT o) (hp : Boxed w p 48 (trPtr o)) (hq : Boxed w q 3 (.int .i64 h)) (hB : Blk w b cap zs) (hd : Digs 256 zs) (hs : s + n ≤ zs.length) (hs2 : s2 + m ≤ zs.length) (hl : zs.length ≤ 10000) :
    Calls Tryd.prog 48 #[.slice (some ⟨b, s, none⟩) n (cap - s), .slice (some ⟨b, s2, none⟩) m (cap - s2), .pointer (some ⟨p, 0, none⟩), .pointer (some ⟨q, 0, none⟩)] w fun e w' => e = .returned (.tuple #[]) ∧ Blk w' b cap (lyB zs s n (mskN h ((zs.drop s2).take m) n)) ∧ ∃ w1 o', Did w o [(1, (n : Int), 0)] w1 o' ∧ Kept (fun x => x = b) w1 w' := by
  have J1 := tSpanDid o (n : Int) w ht.1
  have hab := hB.apart ht.1
  have hqt := boxed_tr hq ht.1 (by decide) (by decide)
  have cp := hp.cell
  obtain ⟨SD, hSD⟩ : ∃ SD, SD = (zs.drop s2).take m := ⟨_, rfl⟩
  obtain ⟨PT, hPT⟩ : ∃ PT, PT = (zs.drop s).take n := ⟨_, rfl⟩
  have dS : Digs 256 SD := by rw [hSD]; exact (hd.drop _).take _
  have dP : Digs 256 PT := by rw [hPT]; exact (hd.drop _).take _
  have lP : PT.length = n := by rw [hPT, List.length_take, List.length_drop]; omega
  have lS : SD.length ≤ 10000 := by rw [hSD, List.length_take, List.length_drop]; omega
  have hE : mskE h (n : Int) = 0 := (hsh_ok hz).2 n (by omega)
  have hn : n ≤ 10000 := by omega
  have HK : Hid (∀ w1 o', Did w o [(1, (n : Int), 0)] w1 o' → TabH w1 ∧ w1.cell? ⟨q, 0, none⟩ = some (.int .i64 h) ∧ Blk w1 b cap zs ∧ Row .u8 w1 (.slice (some ⟨b, s, none⟩) n (cap - s)) PT ∧ Row .u8 w1 (.slice (some ⟨b, s2, none⟩) m (cap - s2)) SD) := fun w1 o' d => by
    have hB1 := hB.kept d.kept hab
    exact ⟨hT.did ha d, (boxed_but hq d.kept hqt).cell, hB1, by rw [hPT]; exact hB1.part hs, by rw [hSD]; exact hB1.part hs2⟩
  have JM := toHid fun W (hT1 : TabH W) (hr : Row .u8 W (.slice (some ⟨b, s2, none⟩) m (cap - s2)) SD) => gMask h _ SD n W hT1 hr dS (by omega) hE
  have HMD : Hid (Digs 256 (mskN h SD n)) := mskN_digs h SD n
  have HFIN : Hid (lyB zs s n (mskN h SD n) = zs.take s ++ xorN PT (mskN h SD n) ++ zs.drop (s + n)) := by unfold Hid lyB; rw [hPT]
  rw [← hSD]
  have HXL : Hid ((xorN PT (mskN h SD n)).length = n) := by unfold Hid; rw [xorN_length, lP]
  have HDP := toHid dP
  have HLP := toHid lP
  have HS := toHid hs
  generalize mskN h SD n = MK at *
  clear hp hq hB hd hT ha hab hqt hSD hPT dS dP lP lS hE hl hs2 hz ht hs
  generalize trPtr o = tp at *
  go_enter Tryd.func48, Tryd.ntmps48
  go_wp2_with fail
  refine J1.mono ?_
  rintro e w1 ⟨rfl, o1, d1⟩
  obtain ⟨hT1, cq, hB1, rP1, rS1⟩ := HK.out w1 o1 d1
  have J2 := JM.out w1 hT1 rS1
  have HD1 := toHid d1
  have HB1 := toHid hB1
  have HP1 := toHid rP1
  clear J1 cp HK JM hT1 hB1 rP1 rS1 d1
  go_wp2_with fail
  refine J2.mono ?_
  rintro e w2 ⟨v2, rfl, o2, k2⟩
  have J3 := gXor _ _ PT MK w2 (HP1.out.grew k2) o2.row HDP.out HMD.out (by have := HLP.out; omega)
  have HB2 := toHid (HB1.out.grew k2)
  have HK2 := toHid k2
  clear J2 o2 k2 HB1 HP1 cq
  go_wp2_with fail
  refine J3.mono ?_
  rintro e w3 ⟨v3, rfl, o3, k3⟩
  have r3 := o3.row
  obtain ⟨ao3, n3, c3, rfl, hL3, _, _, _, _⟩ := r3.open
  obtain rfl : n3 = n := hL3.out.symm.trans HXL.out
  obtain ⟨w4, hrun, hB4, k4⟩ := (HB2.out.grew k3).copy s n3 (cap - s) HS.out ao3 n3 c3 _ r3 rfl
  rw [← HFIN.out] at hB4
  have HB4 := toHid hB4
  have HK4 : Hid (Kept (fun x => x = b) w1 w4) := ((HK2.out.trans k3).mono (fun _ _ f => f.elim)).trans k4
  clear J3 o3 k3 r3 hL3 hB4 k4 HB2 HK2
  go_wp2_with fail
  go_end0
  exact ⟨rfl, HB4.out, w1, o1, HD1.out, HK4.out⟩

/-- What stands while a block is masked, part by part: a is the world that the caller began in. -/
structure LayS (a : World) (o0 : Tr) (m : List Ev) (h : Int) (p q b cap : Nat) (zs : List Nat) (w : World) (o : Tr) : Prop where
  did : Did a o0 m w o
  old : a.heap.size ≤ b
  bp : Boxed w p 48 (trPtr o0)
  bq : Boxed w q 3 (.int .i64 h)
  blk : Blk w b cap zs

theorem boxed_blk {w : World} {p b cap : Nat} {t : TypeId} {v : Value} {zs : List Nat} (h : Boxed w p t v) (hB : Blk w b cap zs) (ht : t ≠ 5) : p ≠ b := by
  rintro rfl
  obtain ⟨ts, h1, _⟩ := hB
  have h0 : w.heap[p]? = some (.cells #[v] t (0, 0)) := h
  rw [h1] at h0
  simp only [Option.some.injEq, Obj.cells.injEq] at h0
  exact ht h0.2.1.symm

theorem zLayS {a : World} {o0 o : Tr} {ms : List Ev} {h : Int} {p q b cap : Nat} {zs : List Nat} {w : World} (hS : LayS a o0 ms h p q b cap zs w o) (s n s2 m : Nat) (hz : hszN h ≠ 0) (ht : TrRoom a o0 (ms.length + 1)) (hT : TabH a) (ha : ApT o0) (hd : Digs 256 zs) (hs : s + n ≤ zs.length) (hs2 : s2 + m ≤ zs.length) (hl : zs.length ≤ 10000) :
    Calls Tryd.prog 48 #[.slice (some ⟨b, s, none⟩) n (cap - s), .slice (some ⟨b, s2, none⟩) m (cap - s2), .pointer (some ⟨p, 0, none⟩), .pointer (some ⟨q, 0, none⟩)] w fun e w' => e = .returned (.tuple #[]) ∧ ∃ o', LayS a o0 (ms ++ [(1, (n : Int), 0)]) h p q b cap (lyB zs s n (mskN h ((zs.drop s2).take m) n)) w' o' := by
  have ht1 := hS.did.room ht
  have hb := hS.blk.apart ht1.1
  have hp := boxed_tr hS.bp ht1.1 (by decide) (by decide)
  have hq := boxed_tr hS.bq ht1.1 (by decide) (by decide)
  have np := boxed_blk hS.bp hS.blk (by decide)
  have nq := boxed_blk hS.bq hS.blk (by decide)
  refine (zLay o h p q b cap s n s2 m zs w hz ht1 (hT.did ha hS.did) (ha.did hT hS.did) (by rw [hS.did.ptr]; exact hS.bp) hS.bq hS.blk hd hs hs2 hl).mono ?_
  rintro e w' ⟨rfl, hB, w1, o', d, k⟩
  have hb' : ¬ trFoot o' b := fun f => hb (d.foot hS.blk.lt f)
  exact ⟨rfl, o', (hS.did.trans d).wroteNew k hS.old hb', hS.old, boxed_but (boxed_but hS.bp d.kept hp) k np, boxed_but (boxed_but hS.bq d.kept hq) k nq, hB⟩

/-- The block of em, as unmasked leaves it. -/
def unmN (h : Int) (em : List Nat) : List Nat := em.take 1 ++ xorN ((em.drop 1).take (hszN h)) (mskN h (em.drop (1 + hszN h)) (hszN h)) ++ opD h em

theorem unm_one {h : Int} {em : List Nat} : lyB em 1 (hszN h) (mskN h ((em.drop (1 + hszN h)).take (em.length - (1 + hszN h))) (hszN h)) = em.take 1 ++ xorN ((em.drop 1).take (hszN h)) (mskN h (em.drop (1 + hszN h)) (hszN h)) ++ em.drop (1 + hszN h) := by
  unfold lyB
  rw [List.take_of_length_le (l := em.drop (1 + hszN h)) (by simp)]

theorem unm_two {h : Int} {A S D : List Nat} (h1 : A.length = 1) (h2 : S.length = hszN h) : lyB (A ++ S ++ D) (1 + hszN h) D.length (mskN h (((A ++ S ++ D).drop 1).take (hszN h)) D.length) = A ++ S ++ xorN D (mskN h S D.length) := by
  have e1 : (A ++ S ++ D).take (1 + hszN h) = A ++ S := by rw [List.take_append_of_le_length (by simp; omega), List.take_of_length_le (by simp; omega)]
  have e2 : (A ++ S ++ D).drop (1 + hszN h) = D := by
    rw [List.drop_append_of_le_length (by simp; omega), List.drop_of_length_le (by simp; omega)]
    rfl
  have e3 : (A ++ S ++ D).drop (1 + hszN h + D.length) = [] := List.drop_of_length_le (by simp; omega)
  have e4 : ((A ++ S ++ D).drop 1).take (hszN h) = S := by
    rw [List.append_assoc, ← h1, List.drop_left, ← h2, List.take_left]
  unfold lyB
  rw [e1, e2, e3, e4, List.append_nil, List.take_of_length_le (Nat.le_refl _)]

theorem unm_len {h : Int} {em : List Nat} (hl : 1 + hszN h ≤ em.length) : (unmN h em).length = em.length := by
  unfold unmN opD
  simp [xorN_length]
  omega

theorem unm_parts {h : Int} {em : List Nat} (hl : 1 + hszN h ≤ em.length) : (unmN h em).take 1 = em.take 1 ∧ (unmN h em).drop (1 + hszN h) = opD h em := by
  have e1 : (em.take 1).length = 1 := by rw [List.length_take]; omega
  have e2 : (xorN ((em.drop 1).take (hszN h)) (mskN h (em.drop (1 + hszN h)) (hszN h))).length = hszN h := by rw [xorN_length, List.length_take, List.length_drop]; omega
  unfold unmN
  constructor
  · rw [List.append_assoc, List.take_append_of_le_length (by omega), List.take_of_length_le (by omega)]
  · rw [List.drop_append_of_le_length (by rw [List.length_append, e1, e2]; omega), List.drop_of_length_le (by rw [List.length_append, e1, e2]; omega)]
    rfl

theorem unm_digs {h : Int} {em : List Nat} (hd : Digs 256 em) : Digs 256 (unmN h em) :=
  ((hd.take 1).append (xorN_digs ((hd.drop 1).take _) (mskN_digs _ _ _))).append (xorN_digs (hd.drop _) (mskN_digs _ _ _))

set_option maxRecDepth 20000 in
set_option maxHeartbeats 4000000 in
/-- unmasked. -/
theorem zUnmasked (o : Tr) (h : Int) (eo : Option Addr) (L ec : Nat) (em : List Nat) (w : World) (hz : hszN h ≠ 0) (ht : TrRoom w o 2) (hT : TabH w) (ha : ApT o) (he : Row .u8 w (.slice eo L ec) em) (hd : Digs 256 em) (h1 : 2 * hszN h + 2 ≤ L) (h2 : L ≤ 1024) :
    Calls Tryd.prog 34 #[trPtr o, .int .i64 h, .slice eo L ec] w fun e w' => ∃ g, e = .returned (.slice (some ⟨g, 0, none⟩) L L) ∧ w.heap.size ≤ g ∧ Blk w' g L (unmN h em) ∧ ∃ o', Did w o [(1, (hszN h : Nat), 0), (1, ((L - (1 + hszN h) : Nat) : Int), 0)] w' o' := by
  obtain ⟨i0, hi0, hz0, hz1, hz2⟩ := info_parts Tryd.info8s
  obtain ⟨_, _, _, e1, hLe, _, _, _, _⟩ := he.open
  cases e1
  have hL : em.length = L := hLe.out
  have hz64 := hsz_le h
  have JS := toHid fun W => z13Size h W
  obtain ⟨z, hzz⟩ : ∃ z, z = hszN h := ⟨_, rfl⟩
  have e1 := unm_one (h := h) (em := em)
  have e2 := unm_two (h := h) (A := em.take 1) (S := xorN ((em.drop 1).take (hszN h)) (mskN h (em.drop (1 + hszN h)) (hszN h))) (D := em.drop (1 + hszN h)) (by rw [List.length_take]; omega) (by rw [xorN_length, List.length_take, List.length_drop]; omega)
  rw [← e1, List.length_drop, ← hzz, hL] at e2
  have e3 : lyB (lyB em 1 z (mskN h ((em.drop (1 + z)).take (L - (1 + z))) z)) (1 + z) (L - (1 + z)) (mskN h (((lyB em 1 z (mskN h ((em.drop (1 + z)).take (L - (1 + z))) z)).drop 1).take z) (L - (1 + z))) = unmN h em := by
    rw [e2]
    unfold unmN opD
    rw [List.length_drop, ← hzz, hL]
  clear e1 e2
  have l1 := lyB_length (zs := em) (s := 1) (n := z) (mskN h ((em.drop (1 + z)).take (L - (1 + z))) z) (by omega)
  have d1 := lyB_digs (zs := em) (s := 1) (n := z) hd (mskN_digs h ((em.drop (1 + z)).take (L - (1 + z))) z)
  have HL1 : Hid (∀ p q b W o1, LayS w o [] h p q b L em W o1 → _) := fun p q b W o1 g => zLayS g 1 z (1 + z) (L - (1 + z)) hz (ht.less (by simp)) hT ha hd (by omega) (by omega) (by omega)
  have HL2 : Hid (∀ p q b W o1, LayS w o ([] ++ [(1, (z : Int), 0)]) h p q b L (lyB em 1 z (mskN h ((em.drop (1 + z)).take (L - (1 + z))) z)) W o1 → _) := fun p q b W o1 g => zLayS g (1 + z) (L - (1 + z)) 1 z hz (ht.less (by simp)) hT ha d1 (by omega) (by omega) (by omega)
  rw [e3] at HL2
  rw [← hzz] at hz64 h1 JS ⊢
  generalize lyB em 1 z (mskN h ((em.drop (1 + z)).take (L - (1 + z))) z) = E1 at *
  have HE := toHid he
  have HLE := toHid hL
  have HT := toHid hT
  have HA := toHid ha
  have HTR := toHid ht
  have HZZ := toHid hzz
  clear he hd hT ha ht hz hzz hL hLe e3 l1 d1
  obtain ⟨po, hpo⟩ : ∃ po, trPtr o = .pointer po := by
    cases o with
    | none => exact ⟨_, rfl⟩
    | some x => exact ⟨_, rfl⟩
  rw [hpo]
  have HTP := toHid hpo
  clear hpo
  go_enter Tryd.func34, Tryd.ntmps34
  go_wp2_with (at_make; refine wpList_make_full _ rfl _ _ 22 rfl w.heap.size 5 i0 _ 1 Tryd.underlying22 hi0 hz0 hz1 _ _ _ _ L rfl rfl rfl rfl (by rw [hz2]; omega) (by unfold maxLen; omega) (Nat.le_refl _) ?_; intro w1 ho1 hg1; rw [zeros_map] at ho1; have k1 := grown_kept hg1; have hB1 : Blk w1 w.heap.size L (List.replicate L 0) := Blk.of_arr (own_block ho1) (by simp) (by unfold maxLen; omega); obtain ⟨w2, hrun, hB2, k2⟩ := hB1.copy 0 L L (by simp) eo L ec em (HE.out.grew k1) rfl; rw [show List.take 0 (List.replicate L 0) ++ em ++ List.drop (0 + L) (List.replicate L 0) = em by simp] at hB2; have HB2 := toHid hB2; have HK2 := toHid (kept_new k1 k2 (Nat.le_refl _)); clear ho1 hg1 k1 hB1 hB2 k2)
  have J3 := JS.out w2
  clear JS hrun
  go_wp2_with fail
  refine J3.mono ?_
  rintro e w3 ⟨rfl, k3⟩
  have J4 := zCut w.heap.size L L z w3 hz64 h1 (Nat.le_refl _) (by unfold maxLen; omega)
  clear J3
  go_wp2_with fail
  refine J4.mono ?_
  rintro e w4 ⟨rfl, k4⟩
  have J5 := zMasks po h w4
  have HK4 := toHid ((HK2.out.trans k3).trans k4)
  have HB4 := toHid ((HB2.out.grew k3).grew k4)
  clear J4 k3 k4 HK2 HB2
  go_wp2_with fail
  refine J5.mono ?_
  rintro e w5 ⟨rfl, b1, b2, hs5, k5⟩
  have HK5 := toHid (HK4.out.trans k5)
  have HB5 := toHid (HB4.out.grew k5)
  have hsz : w.heap.size ≤ w4.heap.size := HK4.out.size
  have hlt : w.heap.size < w4.heap.size := HB4.out.lt
  generalize hp : w4.heap.size = p at *
  rw [← HTP.out] at b1
  have HS5 : Hid (LayS w o [] h p (p + 1) w.heap.size L em w5 o) := ⟨Did.of_kept HK5.out HTR.out.1, Nat.le_refl _, b1, b2, HB5.out⟩
  have J6 := HL1.out p (p + 1) w.heap.size w5 o HS5.out
  clear J5 HL1 HK4 HB4 k5 b1 b2 hp HS5 HK5 HB5
  go_wp2_with fail
  refine J6.mono ?_
  rintro e w6 ⟨rfl, o6, hS6⟩
  have J7 := HL2.out p (p + 1) w.heap.size w6 o6 hS6
  clear J6 HL2 hS6
  go_wp2_with fail
  refine J7.mono ?_
  rintro e w7 ⟨rfl, o7, hS7⟩
  have HS7 := toHid hS7
  clear J7 hS7
  go_wp2_with fail
  go_ret
  exact ⟨w.heap.size, rfl, Nat.le_refl _, HS7.out.blk, o7, HS7.out.did⟩

end Go.Proofs.YtnhkfdbeacmepaaDoor


/- Package oaep: noughts, message, Decode, of any trace. -/
namespace Go.Proofs.YtnhkfdbeacmepaaDoor
open Go.RowKit Go.Shelf

set_option maxRecDepth 20000 in
set_option maxHeartbeats 2000000 in
/-- noughts. -/
theorem zNoughts (o : Tr) (bo : Option Addr) (M cap : Nat) (rs : List Nat) (a : Nat) (Q : Bool) (w : World) (hQ : Q = true ↔ ∀ j, j < M → j < a → rs.getD j 0 = 0) (ht : TrIn w o) (h : RowB w o (.slice bo M cap) rs) (hd : Digs 256 rs) (hM : M ≤ 10000) (ha : a ≤ M) :
    Calls Tryd.prog 54 #[trPtr o, .slice bo M cap, .int .i64 (a : Int)] w fun e w' => e = .returned (.int .u64 ((bN Q : Nat) : Int)) ∧ ∃ o', Did w o [(1, (M : Int), 0)] w' o' := by
  have J0 := tSpanDid o (M : Int) w ht
  have HB := toHid h
  have HD := toHid hd
  have HQ := toHid hQ
  have JL := toHid fun (i : Nat) (hi : i ≤ 10000) W => wLess (i : Int) (a : Int) (by omega) (by omega) (by omega) W
  clear h hd hQ
  generalize trPtr o = tp at *
  go_enter Tryd.func54, Tryd.ntmps54
  go_wp2_with fail
  refine J0.mono ?_
  rintro e w1 ⟨rfl, o1, d1⟩
  have HR1 := toHid (HB.out.did d1)
  have HD1 := toHid d1
  clear J0 d1 HB
  go_wp2_with fail
  go_loopw [7, 16] (fun uv iv wr => ∃ (i U : Nat), i ≤ M ∧ U < 256 ∧ uv = .int .u64 (U : Int) ∧ iv = .int .i64 (i : Int) ∧ Hid (U = 0 ↔ ∀ j, j < i → j < a → rs.getD j 0 = 0) ∧ Hid (Kept Nought w1 wr)) (fun _ iv _ => M - (intOf iv).toNat)
  case atStart => exact ⟨0, 0, by omega, by omega, rfl, rfl, iff_of_true rfl (fun j h => by omega), Kept.refl _ _⟩
  case round =>
    obtain ⟨i, U, hi, hU, rfl, rfl, HI, HK⟩ := hrel
    by_cases hiM : i < M
    · have g1 : (i : Int) < (M : Int) := by omega
      have g0 : (0 : Int) ≤ (i : Int) := by omega
      have gi : IntKind.u64.wrap (i : Int) = (i : Int) := by rw [IntKind.wrap_u64]; omega
      have ga : IntKind.u64.wrap (a : Int) = (a : Int) := by rw [IntKind.wrap_u64]; omega
      obtain ⟨_, _, _, e1, _, _, _, _, hnum⟩ := (HR1.out.grew HK.out).open
      cases e1
      obtain ⟨bb, off, rfl, hcell⟩ := hnum i hiM
      have hz : rs.getD i 0 < 256 := HD.out.getD (by omega) i
      have J2 := JL.out i (by omega) wr
      rw [bor_bN] at J2
      have HNX : Hid (∀ y, (y = 0 ↔ (i < a → rs.getD i 0 = 0)) → (U ||| y = 0 ↔ ∀ j, j < i + 1 → j < a → rs.getD j 0 = 0)) := fun y hy => by
        rw [or_zero_iff, HI.out, hy]
        constructor
        · rintro ⟨h1, h2⟩ j h3 h4
          by_cases e : j = i
          · subst e; exact h2 h4
          · exact h1 j (by omega) h4
        · intro h1
          exact ⟨fun j h3 h4 => h1 j (by omega) h4, fun h4 => h1 i (by omega) h4⟩
      generalize rs.getD i 0 = z at *
      have gz : IntKind.u64.wrap (z : Int) = (z : Int) := by rw [IntKind.wrap_u64]; omega
      obtain ⟨y, hy, hy2, hyb⟩ : ∃ y : Nat, bits .and .u64 (z : Int) (msk ((bN (decide (i < a)) : Nat) : Int)) = (y : Int) ∧ (y = 0 ↔ (i < a → z = 0)) ∧ y < 256 := by
        by_cases hia : i < a
        · refine ⟨z, ?_, ⟨fun e _ => e, fun e => e hia⟩, hz⟩
          rw [decide_eq_true hia, show msk ((bN true : Nat) : Int) = 18446744073709551615 from by decide +kernel]
          have := u64_and_nat z 18446744073709551615 (by omega) (by omega)
          rw [show (18446744073709551615 : Int) = ((18446744073709551615 : Nat) : Int) from rfl, this, show (18446744073709551615 : Nat) = 2 ^ 64 - 1 from rfl, Nat.and_two_pow_sub_one_of_lt_two_pow (by omega)]
        · refine ⟨0, ?_, ⟨fun _ e => absurd e hia, fun _ => rfl⟩, by omega⟩
          rw [decide_eq_false hia, show msk ((bN false : Nat) : Int) = 0 from by decide +kernel]
          have := u64_and_nat z 0 (by omega) (by omega)
          rw [show (0 : Int) = ((0 : Nat) : Int) from rfl, this, Nat.and_zero]
      have HN := toHid (HNX.out y hy2)
      have JM : Hid (∀ W, Calls Tryd.prog 75 #[.int .u64 ((bN (decide (i < a)) : Nat) : Int)] W fun e w' => e = .returned (.int .u64 (msk ((bN (decide (i < a)) : Nat) : Int))) ∧ w' = W) := fun W => wMask _ (by omega) (by have := bN_lt (decide (i < a)); omega) W
      generalize msk ((bN (decide (i < a)) : Nat) : Int) = mk at *
      generalize ((bN (decide (i < a)) : Nat) : Int) = fl at *
      have e7 := u64_or_nat U y (by omega) (by omega)
      have hU2 : U ||| y < 256 := Nat.or_lt_two_pow (n := 8) (by omega) hyb
      generalize U ||| y = U2 at *
      clear hnum HNX HI hy2
      go_wp2_with fail
      refine J2.mono ?_
      rintro e w3 ⟨rfl, rfl⟩
      clear J2
      go_wp2_with fail
      go_region_held3 (fun w' => w'.cell? ⟨bb, off + i, none⟩ = some (.int .u8 (z : Int))) (first | (go_keep; done) | assumption)
        (first
        | (go_at_call 75; refine (JM.out _).mono ?_; rintro e w4 ⟨rfl, rfl⟩))
      all_goals
        go_wp2_with fail
        go_roundw
        case rel => exact ⟨i + 1, U2, by omega, hU2, by first | rfl | (rw [gz, hy, e7]) | (rw [hy, e7]) | rw [e7], by go_num, HN.out, HK.out.drew⟩
        case measure => simp [intOf]; omega
    · obtain rfl : i = M := by omega
      have g1 : ¬ (i : Int) < (i : Int) := by omega
      have J4 := wZero (U : Int) (by omega) (by omega) wr
      rw [zer_bN] at J4
      have HF : Hid (bN (decide (U = 0)) = bN Q) := by
        unfold Hid
        congr 1
        by_cases h : U = 0
        · rw [decide_eq_true h]
          exact (HQ.out.2 (fun j h1 h2 => HI.out.1 h j h1 h2)).symm
        · rw [decide_eq_false h]
          cases hq : Q with
          | false => rfl
          | true => exact absurd (HI.out.2 (fun j h1 h2 => HQ.out.1 hq j h1 h2)) h
      rw [HF.out] at J4
      have HDF := toHid (HD1.out.grew HK.out)
      clear HI HK HF
      go_wp2_with fail
      refine J4.mono ?_
      rintro e w4 ⟨rfl, rfl⟩
      go_wp2_with fail
      go_ret
      exact ⟨rfl, _, HDF.out⟩

theorem fstN_zeros : ∀ (l : List Nat) (j : Nat), j < fstN l → l.getD j 0 = 0
  | [], j, h => absurd h (by simp [fstN])
  | x :: l, j, h => by
    unfold fstN at h
    by_cases e : x = 0
    · rw [if_pos e] at h
      cases j with
      | zero => simpa using e
      | succ j => simpa using fstN_zeros l j (by omega)
    · rw [if_neg e] at h
      exact absurd h (by omega)

theorem and4_bN (a b c d : Bool) : bits .and .u64 (bits .and .u64 (bits .and .u64 ((bN a : Nat) : Int) ((bN b : Nat) : Int)) ((bN c : Nat) : Int)) ((bN d : Nat) : Int) = ((bN (a && b && c && d) : Nat) : Int) := by
  rw [and_bN, and_bN, and_bN]

/-- Where the first byte 1 stands, and whether there are noughts alone ahead of it. -/
theorem fnd_first {rs : List Nat} {a : Nat} {F Q : Bool} (hf : FndR rs 1 0 (-1) a (bN F)) (hq : Q = true ↔ ∀ j, j < rs.length → j < a → rs.getD j 0 = 0) : a ≤ rs.length ∧ ((F && Q) = true ↔ rs.getD (fstN rs) 0 = 1) ∧ ((F && Q) = true → a = fstN rs ∧ a + 1 ≤ rs.length) := by
  rcases hf with ⟨hs, h1, _, _, h4, h5⟩ | ⟨hs, rfl, h5⟩
  · have hF : F = true := by
      cases F
      · exact absurd hs (by decide)
      · rfl
    subst hF
    have hz : Q = true → fstN rs = a := fun e => fstN_at h1 (by rw [h4]; omega) (fun j hj => hq.1 e j (by omega) hj)
    refine ⟨by omega, ⟨fun e => ?_, fun e => ?_⟩, fun e => ⟨(hz (by simpa using e)).symm, by omega⟩⟩
    · rw [hz (by simpa using e)]
      exact h4
    · have hlt : fstN rs < rs.length := by
        by_cases hh : fstN rs < rs.length
        · exact hh
        · rw [List.getD_eq_getElem?_getD, List.getElem?_eq_none (by omega)] at e
          exact absurd e (by simp)
      have hge : a ≤ fstN rs := by
        by_cases hh : a ≤ fstN rs
        · exact hh
        · exact absurd e (h5 _ (by omega) (by omega) (by omega))
      have hle : ∀ j, j < fstN rs → rs.getD j 0 = 0 := fstN_zeros rs
      have : Q = true := hq.2 (fun j _ h => hle j (by omega))
      rw [this]
      rfl
  · have hF : F = false := by
      cases F
      · rfl
      · exact absurd hs (by decide)
    subst hF
    refine ⟨Nat.le_refl _, ⟨fun e => absurd e (by simp), fun e => ?_⟩, fun e => absurd e (by simp)⟩
    have hlt : fstN rs < rs.length := by
      by_cases hh : fstN rs < rs.length
      · exact hh
      · rw [List.getD_eq_getElem?_getD, List.getElem?_eq_none (by omega)] at e
        exact absurd e (by simp)
    exact absurd e (h5 _ (by omega) (by omega) hlt)

end Go.Proofs.YtnhkfdbeacmepaaDoor

