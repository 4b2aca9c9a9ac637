/- Put together of: Lsc5 Nob1. -/
import Derived.Test.YtcjaafmlflonhaaGreatDoorPk1
import Derived.Test.YtcjaafmlflonhaaGreatDoorPk24
import Derived.Test.YtcjaafmlflonhaaGreatDoorPk29
import Derived.Test.YtcjaafmlflonhaaGreatDoorPk34

/- Package script: Below. -/
namespace Go.Proofs.YtcjaafmlflonhaaGreatDoor
open Go.RowKit Go.Shelf

attribute [local go_sem] Oper.semAt_some

/-- A number of some words lies apart from a block that holds none. -/
theorem row_apart {k : IntKind} {w : World} {b : Nat} {cs : Array Value} {t : TypeId} {v : Value} {xs : List Nat} (hb : w.heap[b]? = some (.cells cs t (0, 0))) (hc : ∀ u ∈ cs, ∀ z, u ≠ .int k z) (hv : Row k w v xs) (hx : xs ≠ []) : v.ownBlock ≠ some b := by
  intro e
  obtain ⟨ao, L, cap, rfl, hL, _, _, _, hnum⟩ := hv.open
  have hpos : 0 < L := by
    rw [← hL.out]
    exact List.length_pos_iff.2 hx
  obtain ⟨b', off, rfl, hcell⟩ := hnum 0 hpos
  cases e
  rw [cell_of_row w b' (off + 0) _ _ _ hb] at hcell
  exact hc _ (Array.mem_of_getElem? hcell) _ rfl

theorem Lsc.apart {k : IntKind} {w : World} {p : Option Addr} {B : Nat} {bs xs : List Nat} {v : Value} (h : Lsc w p B bs) (hv : Row k w v xs) (hx : xs ≠ []) (hk : k ≠ .i64 := by decide) : ∀ x, v.ownBlock = some x → ¬ ofP p x := by
  intro x e hp
  rcases h with ⟨rfl, _⟩ | ⟨b, v', ps, pl, rfl, _, h⟩
  · cases hp
  · cases hp
    refine row_apart h.1 ?_ hv hx e
    obtain ⟨_, _, rfl, _⟩ := h.2.1
    intro u hu z
    simp at hu
    rcases hu with rfl | rfl
    · simp
    · intro e
      cases e
      exact hk rfl

theorem boxed_apart {w : World} {b : Nat} {t : TypeId} {u v : Value} {xs : List Nat} (hb : Boxed w b t u) (hu : ∀ z, u ≠ .int .u64 z) (hv : Row .u64 w v xs) (hx : xs ≠ []) : v.ownBlock ≠ some b :=
  row_apart hb (fun y hy z => by simp at hy; rw [hy]; exact hu z) hv hx

/-- What stands between two draws of Below: the bound's box, the answers' boxes. -/
structure BtwB (w W : World) (p : Option Addr) (v : Value) (gm gx gk ge : Nat) : Prop where
  mb : Boxed W gm 31 v
  xb : Boxed W gx 31 (.slice none 0 0)
  kb : Boxed W gk 3 (.int .i64 0)
  eb : Boxed W ge 32 (.int .i64 0)
  old : Kept (ofP p) w W

theorem BtwB.kept {S : Nat → Prop} {w W W' : World} {p : Option Addr} {v : Value} {gm gx gk ge : Nat} (b : BtwB w W p v gm gx gk ge) (k : Kept S W W') (h0 : ¬ S gm) (h1 : ¬ S gx) (h2 : ¬ S gk) (h3 : ¬ S ge) (ho : ∀ x, x < w.heap.size → S x → ofP p x) : BtwB w W' p v gm gx gk ge :=
  ⟨boxed_but b.mb k h0, boxed_but b.xb k h1, boxed_but b.kb k h2, boxed_but b.eb k h3, b.old.next k ho⟩

/-- The answers, laid into their boxes. -/
structure EndB (w W : World) (p : Option Addr) (B : Nat) (gx gk ge : Nat) (X : List Nat) (K E : Nat) (r : List Nat) (u : Value) : Prop where
  xb : Boxed W gx 31 u
  kb : Boxed W gk 3 (.int .i64 (K : Nat))
  eb : Boxed W ge 32 (.int .i64 (E : Nat))
  row : Row .u64 W u X
  scr : Lsc W p B r
  old : Kept (ofP p) w W
  new : ∀ b, u.ownBlock = some b → w.heap.size ≤ b

theorem EndB.put {w W : World} {p : Option Addr} {B gx gk ge K E l : Nat} {X r : List Nat} {u : Value} {o : Obj} (o' : Obj) (h : EndB w W p B gx gk ge X K E r u) (hl : W.heap[l]? = some o) (ho : o.isCells = false) (hw : w.heap.size ≤ l) : EndB w (W.putObj l o') p B gx gk ge X K E r u := by
  have hne : ∀ {b : Nat} {t : TypeId} {v : Value}, Boxed W b t v → Boxed (W.putObj l o') b t v := fun {b t v} hb => (World.putObj_heap_other fun e => by
    subst e
    have hb' : W.heap[_]? = some (Obj.cells _ _ _) := hb
    rw [hl] at hb'
    cases hb'
    cases ho).trans hb
  exact ⟨hne h.xb, hne h.kb, hne h.eb, row_put o' h.row hl ho, h.scr.put o' hl ho, h.old.next (kept_put W l o') (fun x hx e => by
    have e' : x = l := e
    omega), h.new⟩

theorem boxed_other {w : World} {b : Nat} {t : TypeId} {v : Value} (h : Boxed w b t v) (c : Nat) (u : Value) (hne : b ≠ c) : Boxed (w.setCell ⟨c, 0, none⟩ u) b t v := heapAt_set (a := ⟨c, 0, none⟩) h hne u

/-- The answers are laid into their boxes. -/
theorem BtwB.ends {w W : World} {p : Option Addr} {v u : Value} {gm gx gk ge B : Nat} {X r : List Nat} (I : BtwB w W p v gm gx gk ge) (row : Row .u64 W u X) (new : ∀ b, u.ownBlock = some b → w.heap.size ≤ b) (scr : Lsc W p B r) (n1 : gx ≠ gk) (n2 : gx ≠ ge) (n3 : gk ≠ ge) (lx : w.heap.size ≤ gx) (lk : w.heap.size ≤ gk) (le : w.heap.size ≤ ge) (hB : B ≤ w.heap.size) (K E : Nat) :
    EndB w (((W.setCell ⟨gx, 0, none⟩ u).setCell ⟨gk, 0, none⟩ (.int .i64 (K : Nat))).setCell ⟨ge, 0, none⟩ (.int .i64 (E : Nat))) p B gx gk ge X K E r u ∧ Kept (fun b => b = gx ∨ b = gk ∨ b = ge) W (((W.setCell ⟨gx, 0, none⟩ u).setCell ⟨gk, 0, none⟩ (.int .i64 (K : Nat))).setCell ⟨ge, 0, none⟩ (.int .i64 (E : Nat))) := by
  have kS : Kept (fun b => b = gx ∨ b = gk ∨ b = ge) W (((W.setCell ⟨gx, 0, none⟩ u).setCell ⟨gk, 0, none⟩ (.int .i64 (K : Nat))).setCell ⟨ge, 0, none⟩ (.int .i64 (E : Nat))) :=
    (((Kept.refl _ _).setCell ⟨gx, 0, none⟩ (fun _ => .inl rfl) _).setCell ⟨gk, 0, none⟩ (fun _ => .inr (.inl rfl)) _).setCell ⟨ge, 0, none⟩ (fun _ => .inr (.inr rfl)) _
  have x1 : Boxed (W.setCell ⟨gx, 0, none⟩ u) gx 31 u := I.xb.set u
  have k1 := boxed_other I.kb gx u n1.symm
  have e1 := boxed_other I.eb gx u n2.symm
  have x2 := boxed_other x1 gk (.int .i64 (K : Nat)) n1
  have k2 : Boxed _ gk 3 (.int .i64 (K : Nat)) := k1.set (.int .i64 (K : Nat))
  have e2 := boxed_other e1 gk (.int .i64 (K : Nat)) n3.symm
  have x3 := boxed_other x2 ge (.int .i64 (E : Nat)) n2
  have k3 := boxed_other k2 ge (.int .i64 (E : Nat)) n3
  have e3 : Boxed _ ge 32 (.int .i64 (E : Nat)) := e2.set (.int .i64 (E : Nat))
  refine ⟨⟨x3, k3, e3, row.kept' kS ?_, scr.kept kS ?_, I.old.next kS ?_, new⟩, kS⟩
  · rintro hne x hx (rfl | rfl | rfl)
    · exact boxed_apart I.xb (fun z e => by cases e) row hne hx
    · exact boxed_apart I.kb (fun z e => by cases e) row hne hx
    · exact boxed_apart I.eb (fun z e => by cases e) row hne hx
  · rintro x hx (e | e | e) <;> omega
  · rintro x hx (e | e | e) <;> omega

/-- How many draws were passed over, and none of them was it. -/
def BelK (M t z : Nat) (bs : List Nat) (k : Nat) : Prop := ∃ f, (bs.drop (k * z)).length < f ∧ belF M t z (bs.length + 1) bs 1 = belF M t z f (bs.drop (k * z)) (k + 1)

theorem BelK.zero (M t z : Nat) (bs : List Nat) : BelK M t z bs 0 := ⟨bs.length + 1, by simp, by simp⟩

theorem BelK.step {M t z k : Nat} {bs : List Nat} (h : BelK M t z bs k) (hz : 0 < z) (hl : (k + 1) * z ≤ bs.length) :
    (0 < drwN t z bs k ∧ drwN t z bs k < M ∧ belF M t z (bs.length + 1) bs 1 = (drwN t z bs k, k + 1, bs.drop ((k + 1) * z))) ∨ (¬ (0 < drwN t z bs k ∧ drwN t z bs k < M) ∧ BelK M t z bs (k + 1)) := by
  obtain ⟨f, hf, e⟩ := h
  have hd : (bs.drop (k * z)).drop z = bs.drop ((k + 1) * z) := by rw [List.drop_drop, Nat.succ_mul]
  have hlen : ¬ (bs.drop (k * z)).length < z := by rw [List.length_drop]; rw [Nat.succ_mul] at hl; omega
  rcases belF_step (M := M) (t := t) (k := k + 1) hf hz with ⟨h1, _⟩ | ⟨_, h2, h3⟩ | ⟨_, h2, f', hf', h3⟩
  · exact absurd h1 hlen
  · rw [hd] at h3
    exact .inl ⟨h2.1, h2.2, e.trans h3⟩
  · rw [hd] at h3 hf'
    exact .inr ⟨h2, f', hf', e.trans h3⟩

theorem BelK.spent {M t z k : Nat} {bs : List Nat} (h : BelK M t z bs k) (hz : 0 < z) (h0 : k * z ≤ bs.length) (hl : bs.length < (k + 1) * z) : belF M t z (bs.length + 1) bs 1 = (0, 0, []) := by
  obtain ⟨f, hf, e⟩ := h
  have hlen : (bs.drop (k * z)).length < z := by rw [List.length_drop]; rw [Nat.succ_mul] at hl; omega
  rcases belF_step (M := M) (t := t) (k := k + 1) hf hz with ⟨_, h3⟩ | ⟨h1, _⟩ | ⟨h1, _⟩
  · exact e.trans h3
  · exact absurd hlen h1
  · exact absurd hlen h1

set_option maxRecDepth 20000 in
set_option maxHeartbeats 1000000 in
/-- Below, of a number that is too long or too small. -/
theorem xBelowBad (p : Option Addr) (B : Nat) (bs xs : List Nat) (v : Value) (w : World) (h : Lsc w p B bs) (hv : Row .u64 w v xs) (hd : Digs 18446744073709551616 xs) (hl : xs.length ≤ 1000000) (hbad : 300 < xs.length ∨ val 18446744073709551616 xs < 2) :
    Calls Tryz.prog 108 #[.pointer p, v] w fun e w' => e = .returned (.tuple #[.slice none 0 0, .int .i64 0, .int .i64 (belE xs bs : Nat)]) ∧ Lsc w' p B bs ∧ Kept Nought w w' := by
  have HS := toHid h
  have JB := toHid fun W (k : Kept Nought w W) => nBits v xs W (hv.grew k) hd (by omega)
  obtain ⟨ao, L, cap, rfl, hL, hLc, hcm, hnn, _⟩ := hv.open
  have hLb : L ≤ 1000000 := by have := hL.out; omega
  have bM := (((Boxed.new w 31 (.slice ao L cap)).alloc (.cells #[.slice none 0 0] 31)).alloc (.cells #[.int .i64 0] 3)).alloc (.cells #[.int .i64 0] 32)
  have bR : ∀ E : Int, ((((w.alloc (.cells #[.slice ao L cap] 31)).alloc (.cells #[.slice none 0 0] 31)).alloc (.cells #[.int .i64 0] 3)).alloc (.cells #[.int .i64 E] 32)).cell? ⟨w.heap.size + 1, 0, none⟩ = some (.slice none 0 0) ∧
      ((((w.alloc (.cells #[.slice ao L cap] 31)).alloc (.cells #[.slice none 0 0] 31)).alloc (.cells #[.int .i64 0] 3)).alloc (.cells #[.int .i64 E] 32)).cell? ⟨w.heap.size + 1 + 1, 0, none⟩ = some (.int .i64 0) ∧
      ((((w.alloc (.cells #[.slice ao L cap] 31)).alloc (.cells #[.slice none 0 0] 31)).alloc (.cells #[.int .i64 0] 3)).alloc (.cells #[.int .i64 E] 32)).cell? ⟨w.heap.size + 1 + 1 + 1, 0, none⟩ = some (.int .i64 E) := fun E => by
    have bX := (((Boxed.new (w.alloc (.cells #[.slice ao L cap] 31)) 31 (.slice none 0 0)).alloc (.cells #[.int .i64 0] 3)).alloc (.cells #[.int .i64 E] 32)).cell
    have bK := ((Boxed.new ((w.alloc (.cells #[.slice ao L cap] 31)).alloc (.cells #[.slice none 0 0] 31)) 3 (.int .i64 0)).alloc (.cells #[.int .i64 E] 32)).cell
    have bE := (Boxed.new (((w.alloc (.cells #[.slice ao L cap] 31)).alloc (.cells #[.slice none 0 0] 31)).alloc (.cells #[.int .i64 0] 3)) 32 (.int .i64 E)).cell
    simp only [World.size_alloc] at bX bK bE
    exact ⟨bX, bK, bE⟩
  have kR : ∀ E : Int, Kept Nought w ((((w.alloc (.cells #[.slice ao L cap] 31)).alloc (.cells #[.slice none 0 0] 31)).alloc (.cells #[.int .i64 0] 3)).alloc (.cells #[.int .i64 E] 32)) := fun E => ((((Kept.refl Nought w).alloc _).alloc _).alloc _).alloc _
  have cM := bM.cell
  have HBR := toHid bR
  have HKR := toHid kR
  clear bR kR
  by_cases h1 : 300 < L
  · have e1 : belE xs bs = 2 := by unfold belE; rw [hL.out, if_pos h1]
    rw [e1]
    have g1 : (L : Int) > 300 := by omega
    have g2 : (300 : Int) < (L : Int) := by omega
    clear e1 hbad JB bM h hv hd
    go_enter Tryz.func108, Tryz.ntmps108
    go_wp2_with fail
    obtain ⟨q1, q2, q3⟩ := HBR.out 2
    refine bodyPost_ret (v := .tuple #[.slice none 0 0, .int .i64 0, .int .i64 2]) (by simp [results, Tryz.results108, go_sem, q1, q2, q3]) rfl ?_
    exact ⟨rfl, HS.out.grew (HKR.out 2), HKR.out 2⟩
  · have hV : val 18446744073709551616 xs < 2 := by
      have := hL.out
      rcases hbad with h | h
      · omega
      · exact h
    have e1 : belE xs bs = 1 := by unfold belE; rw [hL.out, if_neg h1, if_pos hV]
    rw [e1]
    have g1 : ¬ (L : Int) > 300 := by omega
    have g2 : ¬ (300 : Int) < (L : Int) := by omega
    have ht2 : blen (val 18446744073709551616 xs) ≤ 1 := (blen_le _ 1).2 (by omega)
    generalize blen (val 18446744073709551616 xs) = t at *
    have g3 : (t : Int) < 2 := by omega
    clear e1 hbad hV bM h hv hd
    go_enter Tryz.func108, Tryz.ntmps108
    go_wp2_with fail
    refine (JB.out _ (HKR.out 0)).mono ?_
    rintro e w1 ⟨rfl, rfl⟩
    clear JB
    obtain ⟨p1, p2, p3⟩ := HBR.out 0
    go_wp2_with fail
    obtain ⟨q1, q2, q3⟩ := HBR.out 1
    refine bodyPost_ret (v := .tuple #[.slice none 0 0, .int .i64 0, .int .i64 1]) (by simp [results, Tryz.results108, go_sem, q1, q2, q3]) rfl ?_
    exact ⟨rfl, HS.out.grew (HKR.out 1), HKR.out 1⟩

set_option maxRecDepth 100000 in
set_option maxHeartbeats 4000000 in
/-- Below, of a number from 2 on: the answer lies in new memory. -/
theorem xBelowF (p : Option Addr) (B : Nat) (bs xs : List Nat) (v : Value) (w : World) (h : Lsc w p B bs) (hB : B ≤ w.heap.size) (hbd : Digs 256 bs) (hv : Row .u64 w v xs) (hd : Digs 18446744073709551616 xs) (hl : xs.length ≤ 300) (hM2 : 2 ≤ val 18446744073709551616 xs) :
    Calls Tryz.prog 108 #[.pointer p, v] w fun e w' => ∃ u, e = .returned (.tuple #[u, .int .i64 (belK xs bs : Nat), .int .i64 (belE xs bs : Nat)]) ∧ (Row .u64 w' u (belX xs bs) ∧ ∀ b, u.ownBlock = some b → w.heap.size ≤ b) ∧ Lsc w' p B (belR xs bs) ∧ Kept (ofP p) w w' := by
  obtain ⟨M, hM⟩ : ∃ M, M = val 18446744073709551616 xs := ⟨_, rfl⟩
  obtain ⟨t, ht⟩ : ∃ t, t = blen M := ⟨_, rfl⟩
  obtain ⟨z, hz⟩ : ∃ z, z = (t + 7) / 8 := ⟨_, rfl⟩
  rw [← hM] at hM2
  have hML : M < 18446744073709551616 ^ xs.length := by rw [hM]; exact val_lt (by omega) hd
  have htL : t ≤ 64 * xs.length := by rw [ht, hM]; exact blen_val hd
  have ht2 : 2 ≤ t := by
    have := (blen_le M 1).1
    rw [← ht] at this
    by_cases h1 : t ≤ 1
    · have := this h1
      omega
    · omega
  have hxne : xs ≠ [] := by
    rintro rfl
    have : val 18446744073709551616 [] = 0 := rfl
    omega
  have HAP : Hid (∀ x, v.ownBlock = some x → ¬ ofP p x) := h.apart hv hxne
  have HRow : Hid (∀ W, Kept (ofP p) w W → Row .u64 W v xs) := fun W k => hv.kept' k (fun _ => HAP.out)
  have JB := toHid fun W (k : Kept (ofP p) w W) => nBits v xs W (HRow.out W k) hd (by omega)
  have JC := toHid fun u ys W (k : Kept (ofP p) w W) (hu : Row .u64 W u ys) (hdu : Digs 18446744073709551616 ys) => nCompare u v ys xs W hu (HRow.out W k) hdu hd
  rw [← hM] at JB JC
  rw [← ht] at JB
  have HOP : Hid (∀ x, ofP p x → x < B) := fun x hx => (h.inP hx).1
  have HFB : Hid (belN M bs = belF M t z (bs.length + 1) bs 1) := by unfold Hid belN; rw [← ht, ← hz]
  have HE : Hid (belE xs bs = if (belF M t z (bs.length + 1) bs 1).1 = 0 then 150 else 0) := by
    unfold Hid belE
    rw [if_neg (by omega), if_neg (by rw [← hM]; omega), ← hM, HFB.out]
  have HX : Hid (belX xs bs = if belE xs bs = 0 then digs 18446744073709551616 (belF M t z (bs.length + 1) bs 1).1 xs.length else []) := by unfold Hid belX; rw [← hM, HFB.out]
  have HKK : Hid (belK xs bs = if belE xs bs = 0 then (belF M t z (bs.length + 1) bs 1).2.1 else 0) := by unfold Hid belK; rw [← hM, HFB.out]
  have HRR : Hid (belR xs bs = (belF M t z (bs.length + 1) bs 1).2.2) := by unfold Hid belR; rw [if_neg (by rw [← hM]; omega), ← hM, HFB.out]
  obtain ⟨ao, L, cap, rfl, hL, hLc, hcm, hnn, _⟩ := hv.open
  have hLb : L ≤ 300 := by have := hL.out; omega
  have g1 : ¬ (L : Int) > 300 := by omega
  have g1' : ¬ (300 : Int) < (L : Int) := by omega
  have g2 : ¬ (t : Int) < 2 := by omega
  rw [hL.out] at htL hML HX
  have HL := toHid hL.out
  have HS := toHid h
  have HZ := toHid hz
  have hz1 : 1 ≤ z := by omega
  have htb : t ≤ 19200 := by omega
  have HMN : Hid (2 ≤ M ∧ M < 18446744073709551616 ^ L ∧ t = blen M ∧ t ≤ 64 * L) := ⟨hM2, hML, ht, htL⟩
  have HBD := toHid hbd
  have HBW := toHid hB
  clear hv hd hl hM2 hML ht hz htL hxne hnn hL h hM HFB hbd hB
  refine (callsIn_wide (n := 9)).1 ?_
  refine callsIn_of_wp_marks Tryz.func108 rfl trivial ?_ rfl
  simp only [Tryz.ntmps108, List.size_toArray, List.length_cons, List.length_nil, Nat.reduceAdd, Nat.reduceSub, Array.replicate_succ, Array.replicate_zero, List.push_toArray, List.append_toArray, List.nil_append, List.cons_append]
  refine wpIn_wide.2 ?_
  have bM := (((Boxed.new w 31 (.slice ao L cap)).alloc (.cells #[.slice none 0 0] 31)).alloc (.cells #[.int .i64 0] 3)).alloc (.cells #[.int .i64 0] 32)
  have bX := ((Boxed.new (w.alloc (.cells #[.slice ao L cap] 31)) 31 (.slice none 0 0)).alloc (.cells #[.int .i64 0] 3)).alloc (.cells #[.int .i64 0] 32)
  have bK := (Boxed.new ((w.alloc (.cells #[.slice ao L cap] 31)).alloc (.cells #[.slice none 0 0] 31)) 3 (.int .i64 0)).alloc (.cells #[.int .i64 0] 32)
  have bE := Boxed.new (((w.alloc (.cells #[.slice ao L cap] 31)).alloc (.cells #[.slice none 0 0] 31)).alloc (.cells #[.int .i64 0] 3)) 32 (.int .i64 0)
  have kA : Kept Nought w ((((w.alloc (.cells #[.slice ao L cap] 31)).alloc (.cells #[.slice none 0 0] 31)).alloc (.cells #[.int .i64 0] 3)).alloc (.cells #[.int .i64 0] 32)) := ((((Kept.refl Nought w).alloc _).alloc _).alloc _).alloc _
  have sA : ((((w.alloc (.cells #[.slice ao L cap] 31)).alloc (.cells #[.slice none 0 0] 31)).alloc (.cells #[.int .i64 0] 3)).alloc (.cells #[.int .i64 0] 32)).heap.size = w.heap.size + 4 := by simp
  simp only [World.size_alloc] at bX bK bE
  have cM := bM.cell
  go_wp2_with fail
  refine (JB.out _ kA.any).mono ?_
  rintro e w1 ⟨rfl, rfl⟩
  generalize (((w.alloc (.cells #[.slice ao L cap] 31)).alloc (.cells #[.slice none 0 0] 31)).alloc (.cells #[.int .i64 0] 3)).alloc (.cells #[.int .i64 0] 32) = W1 at *
  obtain ⟨gm, hgm⟩ : ∃ gm, gm = w.heap.size := ⟨_, rfl⟩
  obtain ⟨gx, hgx⟩ : ∃ gx, gx = w.heap.size + 1 := ⟨_, rfl⟩
  obtain ⟨gk, hgk⟩ : ∃ gk, gk = w.heap.size + 1 + 1 := ⟨_, rfl⟩
  obtain ⟨ge, hge⟩ : ∃ ge, ge = w.heap.size + 1 + 1 + 1 := ⟨_, rfl⟩
  rw [← hge] at bE ⊢
  rw [← hgk] at bK ⊢
  rw [← hgx] at bX ⊢
  rw [← hgm] at bM cM ⊢
  have HG : Hid (gm = w.heap.size ∧ gx = w.heap.size + 1 ∧ gk = w.heap.size + 2 ∧ ge = w.heap.size + 3 ∧ W1.heap.size = w.heap.size + 4) := ⟨hgm, hgx, hgk, hge, sA⟩
  have HB1 : Hid (BtwB w W1 p (.slice ao L cap) gm gx gk ge) := ⟨bM, bX, bK, bE, kA.any⟩
  have HS1 := toHid (HS.out.grew kA)
  have JD := xDraws p t L W1 (by omega)
  rw [← HZ.out] at JD
  clear hgm hgx hgk hge bM bX bK bE sA HS kA
  go_wp2_with fail
  refine JD.mono ?_
  rintro e W2 ⟨rfl, b0, b1, b2, b3, k2, s2⟩
  have HB2 := toHid (HB1.out.kept k2 (fun f => f) (fun f => f) (fun f => f) (fun f => f) (fun _ _ f => f.elim))
  have HS2 := toHid (HS1.out.grew k2)
  obtain ⟨n1, hn1⟩ : ∃ n1, n1 = W1.heap.size := ⟨_, rfl⟩
  rw [← hn1] at b0 b1 b2 b3 s2 ⊢
  have HG2 : Hid (gm = w.heap.size ∧ gx = w.heap.size + 1 ∧ gk = w.heap.size + 2 ∧ ge = w.heap.size + 3 ∧ n1 = w.heap.size + 4 ∧ W2.heap.size = w.heap.size + 8) := by have := HG.out; refine ⟨?_, ?_, ?_, ?_, ?_, ?_⟩ <;> omega
  clear JD k2 HB1 HS1 HG hn1 cM s2
  go_wp2_with fail
  refine (wpIn_wide (n := 9)).1 ?_
  obtain ⟨sh, hsh⟩ : ∃ sh, sh = 8 * z - t := ⟨_, rfl⟩
  have hsh1 : t + sh = 8 * z := by have := HZ.out; omega
  have hsh2 : sh < 8 := by have := HZ.out; omega
  clear hsh
  refine wpIn_range_old (n := 9) (by omega) (gf := 164) (lb := #[.pointer (some ⟨n1, 0, none⟩), .pointer (some ⟨n1 + 3, 0, none⟩), .pointer (some ⟨n1 + 1, 0, none⟩), .pointer (some ⟨n1 + 2, 0, none⟩)]) rfl (enters_of Tryz.func164 (by kernel_rfl) rfl)
    (xDraws1 8 (by omega) p B t z sh L n1 (n1 + 3) (n1 + 1) (n1 + 2) bs W2 (fun b => b = gx ∨ b = gk ∨ b = ge) hz1 hsh1 hsh2 hLb HMN.out.2.2.2 HS2.out HBD.out b0 b3 b1 b2 ?q0 ?q1 ?q2 ?q3 ?q4 ?q5 ?q6 ?q7 ?q8 ?q9) (fun _ => rfl) ?hSb ?hT (fun _ _ _ _ _ o' hx hl ho => hx.put o' hl ho)
    (fun pre W => Hid (BelK M t z bs pre.length) ∧ Hid (BtwB w W p (.slice ao L cap) gm gx gk ge)) (fun c _ W => c = .ret ∧ ∃ u, EndB w W p B gx gk ge (belX xs bs) (belK xs bs) (belE xs bs) (belR xs bs) u)
    ?low ?lowx ?lows ⟨BelK.zero _ _ _ _, HB2.out⟩ ?act ?assign ?body ?done ?stop
  case q0 => have := HG2.out; have := HBW.out; omega
  case q1 => have := HG2.out; have := HBW.out; omega
  case q2 => have := HG2.out; have := HBW.out; omega
  case q3 => have := HG2.out; have := HBW.out; omega
  case q4 => have := HG2.out; have := HBW.out; omega
  case q5 =>
    have := HG2.out
    have := HBW.out
    rintro b (rfl | rfl | rfl) <;> omega
  case q6 => have := HG2.out; omega
  case q7 => have := HG2.out; omega
  case q8 => have := HG2.out; omega
  case q9 => have := HG2.out; omega
  case hSb =>
    have := HG2.out
    rintro b (rfl | rfl | rfl) <;> omega
  case hT =>
    intro b hb
    have := HOP.out b hb
    have := HG2.out
    have := HBW.out
    omega
  case low =>
    rintro s A C ⟨h1, h2⟩ k
    have := HG2.out
    have := HBW.out
    have hno : ∀ x, w.heap.size ≤ x → x < W2.heap.size → ¬ (ofP p x ∨ W2.heap.size ≤ x) := fun x h3 h4 => by
      rintro (e | e)
      · have := HOP.out x e
        omega
      · omega
    exact ⟨h1, h2.out.kept k (hno _ (by omega) (by omega)) (hno _ (by omega) (by omega)) (hno _ (by omega) (by omega)) (hno _ (by omega) (by omega)) (fun x hx e => by
      rcases e with e | e
      · exact e
      · omega)⟩
  case lowx =>
    rintro c s A l o o' ⟨h1, u, h2⟩ hl hA ho
    have := HG2.out
    exact ⟨h1, u, h2.put o' hA ho (by omega)⟩
  case lows =>
    rintro s A l o o' ⟨h1, h2, h3⟩ hl hA ho
    exact ⟨h1, h2, h3.put o' hA ho⟩
  case assign =>
    intro l x W K hK
    gi_wp2
    exact hK
  case body =>
    rintro l pre ⟨j, xv⟩ W ⟨hK, hI⟩ ⟨hj, hfew, ⟨hrow, hnew⟩, hscr⟩
    have hL1 : 1 ≤ L := by
      have h1 := HMN.out.1
      have h2 := HMN.out.2.1
      cases L with
      | zero => simp at h2; omega
      | succ n => omega
    obtain ⟨V, hV⟩ : ∃ V, V = drwN t z bs pre.length := ⟨_, rfl⟩
    have hj' : j = pre.length + 1 := hj
    have hrow' : Row .u64 W xv (digs 18446744073709551616 V L) := by rw [hV]; exact hrow
    have hVL : V < 18446744073709551616 ^ L := by
      rw [hV]
      refine Nat.lt_of_lt_of_le (Nat.mod_lt _ (Nat.pow_pos (by omega))) ?_
      rw [show (18446744073709551616 : Nat) = 2 ^ 64 from rfl, ← Nat.pow_mul]
      exact Nat.pow_le_pow_right (by omega) HMN.out.2.2.2
    have hB9 := nBits xv _ W hrow' (digs_digs (by omega) V L) (by rw [digs_length]; omega)
    have hC9 := JC.out xv _ W hI.out.old hrow' (digs_digs (by omega) V L)
    rw [val_digs, Nat.mod_eq_of_lt hVL] at hB9 hC9
    have HROW := toHid hrow'
    have HSCR := toHid hscr
    have HNEW : Hid (∀ b, xv.ownBlock = some b → w.heap.size ≤ b) := fun b hb => by have h1 := hnew b hb; have h2 := HG2.out; omega
    have HIO := toHid hI.out
    have hst := hK.out.step hz1 hfew
    rw [← hV] at hst
    obtain ⟨nb, hnb⟩ : ∃ nb, nb = blen V := ⟨_, rfl⟩
    rw [← hnb] at hB9
    have hnb0 : nb = 0 ↔ V = 0 := by
      have := blen_le V 0
      rw [← hnb] at this
      simp at this
      exact this
    have HDL : Hid (digs 18446744073709551616 V L ≠ []) := fun e => by
      have := congrArg List.length e
      rw [digs_length] at this
      simp at this
      omega
    obtain ⟨xo, xn, xc, rfl, _⟩ := hrow'.open
    have cM := hI.out.mb.cell
    have HPL := toHid hj'
    clear hnew hrow hrow' hscr hI hK hj hj' hV hVL hnb HB2 b0 b1 b2 b3 HS2
    rcases hst with ⟨h1, h2, h3⟩ | ⟨h1, h2⟩
    · have g3 : (nb : Int) > 0 := by omega
      have g3' : (0 : Int) < (nb : Int) := by omega
      rw [cmpN_lt h2] at hC9
      have e1 : belE xs bs = 0 := by rw [HE.out, h3, if_neg (by show ¬ V = 0; omega)]
      have e2 : belX xs bs = digs 18446744073709551616 V L := by rw [HX.out, if_pos e1, h3]
      have e3 : belK xs bs = j := by rw [HKK.out, if_pos e1, h3]; exact HPL.out.symm
      have e4 : belR xs bs = bs.drop ((pre.length + 1) * z) := by rw [HRR.out, h3]
      have HE4 : Hid (belE xs bs = 0 ∧ belX xs bs = digs 18446744073709551616 V L ∧ belK xs bs = j ∧ belR xs bs = bs.drop ((pre.length + 1) * z)) := ⟨e1, e2, e3, e4⟩
      clear h1 h2 h3 e1 e2 e3 e4 hnb0
      gi_wp2_with fail
      refine ⟨trivial, ?_⟩
      refine (CallsIn.inRound l (callsIn_wide.2 hB9)).mono ?_
      rintro e w1 ⟨rfl, rfl⟩
      gi_wp2_with fail
      refine ⟨trivial, ?_⟩
      refine (CallsIn.inRound l (callsIn_wide.2 hC9)).mono ?_
      rintro e w2 ⟨rfl, k2⟩
      have I2 := toHid (HIO.out.kept k2 (fun f => f) (fun f => f) (fun f => f) (fun f => f) (fun _ _ f => f.elim))
      have R2 := toHid (HROW.out.grew k2)
      have S2 := toHid (HSCR.out.grew k2)
      have cx := I2.out.xb.cell
      have fx := I2.out.xb.frozen
      have ck := I2.out.kb.cell
      have fk := I2.out.kb.frozen
      have ce := I2.out.eb.cell
      have fe := I2.out.eb.frozen
      have hne : gx ≠ gk ∧ gx ≠ ge ∧ gk ≠ ge := by have := HG2.out; omega
      obtain ⟨n1', n2', n3'⟩ := hne
      obtain ⟨HE2, kS⟩ := I2.out.ends R2.out HNEW.out S2.out n1' n2' n3' (by have := HG2.out; omega) (by have := HG2.out; omega) (by have := HG2.out; omega) HBW.out j 0
      have HE5 : Hid (EndB w (((w2.setCell ⟨gx, 0, none⟩ (.slice xo xn xc)).setCell ⟨gk, 0, none⟩ (.int .i64 (j : Int))).setCell ⟨ge, 0, none⟩ (.int .i64 0)) p B gx gk ge (belX xs bs) (belK xs bs) (belE xs bs) (belR xs bs) (.slice xo xn xc)) := by
        obtain ⟨q1, q2, q3, q4⟩ := HE4.out
        rw [q1, q2, q3, q4]
        exact HE2
      have HK5 : Hid (Kept (fun b => b = gx ∨ b = gk ∨ b = ge) w1 (((w2.setCell ⟨gx, 0, none⟩ (.slice xo xn xc)).setCell ⟨gk, 0, none⟩ (.int .i64 (j : Int))).setCell ⟨ge, 0, none⟩ (.int .i64 0))) := (k2.any).trans kS
      clear hB9 hC9 k2 kS HE2
      gi_wp2_with fail
      exact ⟨HK5.out, rfl, _, HE5.out⟩
    · have HN : Hid (BelK M t z bs (pre ++ [(j, Value.slice xo xn xc)]).length) := by unfold Hid; rw [List.length_append]; exact h2
      by_cases hV0 : V = 0
      · obtain rfl := hnb0.2 hV0
        clear h1 h2 hnb0 hV0 hC9
        gi_wp2_with fail
        refine ⟨trivial, ?_⟩
        refine (CallsIn.inRound l (callsIn_wide.2 hB9)).mono ?_
        rintro e w1 ⟨rfl, rfl⟩
        clear hB9
        gi_wp2_with fail
        refine ⟨trivial, ?_⟩
        gi_wp2_with fail
        exact ⟨Kept.refl _ _, HN, HIO⟩
      · have g3 : (nb : Int) > 0 := by omega
        have g3' : (0 : Int) < (nb : Int) := by omega
        obtain ⟨C, hC⟩ : ∃ C, C = cmpN V M := ⟨_, rfl⟩
        rw [← hC] at hC9
        have g4 : ¬ C < 0 := by
          rw [hC]
          unfold cmpN
          rw [if_neg (by omega)]
          split <;> omega
        clear h1 h2 hnb0 hV0 hC
        gi_wp2_with fail
        refine ⟨trivial, ?_⟩
        refine (CallsIn.inRound l (callsIn_wide.2 hB9)).mono ?_
        rintro e w1 ⟨rfl, rfl⟩
        gi_wp2_with fail
        refine ⟨trivial, ?_⟩
        refine (CallsIn.inRound l (callsIn_wide.2 hC9)).mono ?_
        rintro e w2 ⟨rfl, k2⟩
        have I2 := toHid (HIO.out.kept k2 (fun f => f) (fun f => f) (fun f => f) (fun f => f) (fun _ _ f => f.elim))
        have HK2 := toHid (k2.any (S := fun b => b = gx ∨ b = gk ∨ b = ge))
        clear hB9 hC9 k2
        gi_wp2_with fail
        exact ⟨HK2.out, HN, I2⟩
  case done =>
    rintro D s W hD ⟨h0, h1, hsc⟩ ⟨hK, hI⟩ hDD
    have hf := hK.out.spent hz1 h0 h1
    have e1 : belE xs bs = 150 := by rw [HE.out, hf]; rfl
    have e2 : belX xs bs = [] := by rw [HX.out, e1]; rfl
    have e3 : belK xs bs = 0 := by rw [HKK.out, e1]; rfl
    have e4 : belR xs bs = [] := by rw [HRR.out, hf]
    have HE6 : Hid (belE xs bs = 150 ∧ belX xs bs = [] ∧ belK xs bs = 0 ∧ belR xs bs = []) := ⟨e1, e2, e3, e4⟩
    have cx := hI.out.xb.cell
    have fx := hI.out.xb.frozen
    have ck := hI.out.kb.cell
    have fk := hI.out.kb.frozen
    have ce := hI.out.eb.cell
    have fe := hI.out.eb.frozen
    have hne : gx ≠ gk ∧ gx ≠ ge ∧ gk ≠ ge := by have := HG2.out; omega
    obtain ⟨n1', n2', n3'⟩ := hne
    obtain ⟨hE2, kS⟩ := hI.out.ends (u := .slice none 0 0) (Row.nil _ _) (fun b hb => by cases hb) hsc n1' n2' n3' (by have := HG2.out; omega) (by have := HG2.out; omega) (by have := HG2.out; omega) HBW.out 0 150
    have hDD2 := (kS.block D (lt_of_block hDD) (by have := HG2.out; rintro (e | e | e) <;> omega)).trans hDD
    have HF : Hid (EndB w ((((W.setCell ⟨gx, 0, none⟩ (.slice none 0 0)).setCell ⟨gk, 0, none⟩ (.int .i64 0)).setCell ⟨ge, 0, none⟩ (.int .i64 150)).putObj D (.deferred none)) p B gx gk ge [] 0 150 [] (.slice none 0 0)) := hE2.put (.deferred none) hDD2 rfl (by have := HG2.out; omega)
    have HD2 := toHid hDD2
    clear e1 e2 e3 e4 hf hK h0 h1 hsc hI hE2 kS hDD2 hDD HB2 b0 b1 b2 b3 HS2
    go_wp2_with fail
    refine ⟨by simp, .inl ⟨_, _, rfl, run_takeDeferred HD2.out, ?_⟩⟩
    have q1 := HF.out.xb.cell
    have q2 := HF.out.kb.cell
    have q3 := HF.out.eb.cell
    obtain ⟨e1, e2, e3, e4⟩ := HE6.out
    rw [e1, e2, e3, e4]
    refine ⟨.tuple #[.slice none 0 0, .int .i64 0, .int .i64 150], ?_, _, rfl, ⟨Row.nil _ _, HF.out.new⟩, HF.out.scr, HF.out.old⟩
    simp [results, Tryz.f108, go_sem, q1, q2, q3]
  case stop =>
    rintro D c s W hD ⟨rfl, u, hE2⟩ hDD
    have hF := hE2.put (.deferred none) hDD rfl (by have := HG2.out; omega)
    obtain ⟨uo, un, uc, rfl, _⟩ := hE2.row.open
    have HF := toHid hF
    clear hE2 hF
    gi_wp2
    refine ⟨by simp, .inl ⟨_, _, rfl, run_takeDeferred hDD, ?_⟩⟩
    have q1 := HF.out.xb.cell
    have q2 := HF.out.kb.cell
    have q3 := HF.out.eb.cell
    refine ⟨.tuple #[.slice uo un uc, .int .i64 (belK xs bs : Nat), .int .i64 (belE xs bs : Nat)], ?_, _, rfl, ⟨HF.out.row, HF.out.new⟩, HF.out.scr, HF.out.old⟩
    simp [results, Tryz.f108, go_sem, q1, q2, q3]

end Go.Proofs.YtcjaafmlflonhaaGreatDoor


/- No table is asked. -/
namespace Go.Proofs.YtcjaafmlflonhaaGreatDoor
open Go.RowKit

/-- No table is asked. -/
def NoTab (_ : World) : Prop := True

end Go.Proofs.YtcjaafmlflonhaaGreatDoor

