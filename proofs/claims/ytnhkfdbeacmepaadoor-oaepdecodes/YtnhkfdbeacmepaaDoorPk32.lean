/- Put together of: Oap4 Num4. -/
import Derived.Test.YtnhkfdbeacmepaaDoorPk26
import Derived.Test.YtnhkfdbeacmepaaDoorPk31

/- Package oaep: message, Decode, of any trace. -/
namespace Go.Proofs.YtnhkfdbeacmepaaDoor
open Go.RowKit Go.Shelf

set_option maxRecDepth 20000 in
set_option maxHeartbeats 4000000 in
/-- message. -/
theorem zMessage (o : Tr) (g L z nc : Nat) (bl : List Nat) (no : Option Addr) (nm : List Nat) (w : World) (ht : TrRoom w o 4) (hB : Blk w g L bl) (hd : Digs 256 bl) (hl : bl.length = L) (hn : RowB w o (.slice no z nc) nm) (dn : Digs 256 nm) (hz : z ≤ 64) (h1 : 2 * z + 2 ≤ L) (h2 : L ≤ 1024) :
    Calls Tryd.prog 35 #[trPtr o, .slice (some ⟨g, 0, none⟩) L L, .slice no z nc] w fun e w' => ∃ (a : Nat) (S : Bool), e = .returned (.tuple #[.int .i64 (a : Int), .int .u64 ((bN S : Nat) : Int)]) ∧ ((S = true ↔ bl.take 1 = [0] ∧ (bl.drop (1 + z)).take z = nm ∧ ((bl.drop (1 + z)).drop z).getD (fstN ((bl.drop (1 + z)).drop z)) 0 = 1) ∧ (S = true → a ≤ L ∧ bl.drop a = (bl.drop (1 + z)).drop (z + fstN ((bl.drop (1 + z)).drop z) + 1))) ∧ ∃ o', Did w o [(1, 1, 0), (1, (z : Int), 0), (1, ((L - (1 + z) - z : Nat) : Int), 0), (1, ((L - (1 + z) - z : Nat) : Int), 0)] w' o' := by
  have hab := hB.apart ht.1
  obtain ⟨D, hD⟩ : ∃ D, D = bl.drop (1 + z) := ⟨_, rfl⟩
  obtain ⟨R, hR⟩ : ∃ R, R = D.drop z := ⟨_, rfl⟩
  obtain ⟨N, hN⟩ : ∃ N, N = L - (1 + z) := ⟨_, rfl⟩
  obtain ⟨M, hM⟩ : ∃ M, M = N - z := ⟨_, rfl⟩
  rw [← hD, ← hR, ← hN, ← hM]
  have lD : D.length = N := by rw [hD, List.length_drop, hl, hN]
  have lR : R.length = M := by rw [hR, List.length_drop, lD, hM]
  obtain ⟨F1, hF1⟩ : ∃ F : Bool, F = decide (bl.take 1 = [0]) := ⟨_, rfl⟩
  obtain ⟨F2, hF2⟩ : ∃ F : Bool, F = decide (D.take z = nm) := ⟨_, rfl⟩
  have q1 : bN F1 = if bl.take 1 = [0] then 1 else 0 := by
    rw [hF1]
    by_cases e : bl.take 1 = [0]
    · rw [decide_eq_true e, if_pos e]; rfl
    · rw [decide_eq_false e, if_neg e]; rfl
  have q2 : bN F2 = if D.take z = nm then 1 else 0 := by
    rw [hF2]
    by_cases e : D.take z = nm
    · rw [decide_eq_true e, if_pos e]; rfl
    · rw [decide_eq_false e, if_neg e]; rfl
  have BK : ∀ W o1 m, Did w o m W o1 → Blk W g L bl ∧ ¬ trFoot o1 g := fun W o1 m d => ⟨hB.kept d.kept hab, fun f => hab (d.foot hB.lt f)⟩
  have P1 : ∀ W, Blk W g L bl → Row .u8 W (.slice (some ⟨g, 0, none⟩) 1 L) (bl.take 1) := fun W h => by
    have := h.part (s := 0) (m := 1) (by omega)
    simpa using this
  have P2 : ∀ W, Blk W g L bl → Row .u8 W (.slice (some ⟨g, 1 + z, none⟩) z N) (D.take z) := fun W h => by
    have := h.part (s := 1 + z) (m := z) (by omega)
    rwa [← hD, ← hN] at this
  have P3 : ∀ W, Blk W g L bl → Row .u8 W (.slice (some ⟨g, 1 + z + z, none⟩) M M) R := fun W h => by
    have := h.part (s := 1 + z + z) (m := M) (by omega)
    rw [← List.drop_drop, ← hD, ← hR, List.take_of_length_le (by omega), show L - (1 + z + z) = M by omega] at this
    exact this
  have own : ∀ {off m c : Nat} {b : Nat}, (Value.slice (some ⟨g, off, none⟩) m c).ownBlock = some b → b = g := fun h => by
    have h9 := Option.some.inj h
    exact h9.symm
  have JC := toHid fun W => zCut g L L z W hz h1 (Nat.le_refl _) (by unfold maxLen; omega)
  rw [← hN] at JC
  have JE1 : Hid (∀ W, Kept Nought w W → Calls Tryd.prog 52 #[trPtr o, .slice (some ⟨g, 0, none⟩) 1 L, .slice (some ⟨W.heap.size, 0, none⟩) 1 1] (W.alloc (.cells #[.int .u8 0] 5)) fun e w' => e = .returned (.int .u64 ((bN F1 : Nat) : Int)) ∧ ∃ o', Did w o [(1, 1, 0)] w' o') := fun W k => by
    have k2 := k.alloc (.cells #[.int .u8 0] 5)
    have hr0 := (own_lit8 W [0] #[.int .u8 0] rfl 1 rfl (by omega) (by omega)).row
    refine (kEqual o _ _ 1 L 1 1 (bl.take 1) [0] (bN F1) _ q1 (ht.1.grew k2) ⟨P1 _ (hB.grew k2), fun _ b hb => by rw [own hb]; exact hab⟩ ⟨hr0, fun _ b hb f => ?_⟩ (hd.take 1) (fun d hd => by simp at hd; omega) (by omega) (by omega)).mono ?_
    · have e : W.heap.size = b := by simpa [Value.ownBlock] using hb
      have h1 := ht.1.foot b f
      have h2 := k.size
      omega
    · rintro e w' ⟨rfl, o', d⟩
      exact ⟨rfl, o', d.after k2⟩
  have JE2 : Hid (∀ W o1, Did w o [(1, 1, 0)] W o1 → Calls Tryd.prog 52 #[trPtr o, .slice (some ⟨g, 1 + z, none⟩) z N, .slice no z nc] W fun e w' => e = .returned (.int .u64 ((bN F2 : Nat) : Int)) ∧ ∃ o', Did w o [(1, 1, 0), (1, (z : Int), 0)] w' o') := fun W o1 d => by
    obtain ⟨hB1, ha1⟩ := BK W o1 _ d
    have ht1 := d.room (k := 3) ht
    rw [← d.ptr]
    refine (kEqual o1 _ _ z N z nc (D.take z) nm (bN F2) W q2 ht1.1 ⟨P2 W hB1, fun _ b hb => by rw [own hb]; exact ha1⟩ ⟨hn.did d, fun hne b hb f => hn.2 hne b hb (d.foot (hn.1.lt hne b hb) f)⟩ (by rw [hD]; exact (hd.drop _).take _) dn (by omega) (by omega)).mono ?_
    rintro e w' ⟨rfl, o', d'⟩
    rw [Nat.max_self] at d'
    exact ⟨rfl, o', d.trans d'⟩
  have JF : Hid (∀ W o1, Did w o [(1, 1, 0), (1, (z : Int), 0)] W o1 → Calls Tryd.prog 53 #[trPtr o, .slice (some ⟨g, 1 + z + z, none⟩) M M, .int .u8 1, .int .i64 0] W fun e w' => ∃ a s, e = .returned (.tuple #[.int .i64 ((a : Nat) : Int), .int .u64 ((s : Nat) : Int)]) ∧ FndR R 1 0 (-1) a s ∧ ∃ o', Did w o [(1, 1, 0), (1, (z : Int), 0), (1, (M : Int), 0)] w' o') := fun W o1 d => by
    obtain ⟨hB1, ha1⟩ := BK W o1 _ d
    have ht1 := d.room (k := 2) ht
    rw [← d.ptr]
    refine (kFind o1 _ M M R 1 0 W ht1.1 ⟨P3 W hB1, fun _ b hb => by rw [own hb]; exact ha1⟩ (by rw [hR, hD]; exact (hd.drop _).drop _) (by omega) (by omega) (by omega) (by omega)).mono ?_
    rintro e w' ⟨a, s, rfl, hF, o', d'⟩
    exact ⟨a, s, rfl, hF, o', d.trans d'⟩
  have JN : Hid (∀ W o1 a Q, Did w o [(1, 1, 0), (1, (z : Int), 0), (1, (M : Int), 0)] W o1 → a ≤ M → (Q = true ↔ ∀ j, j < M → j < a → R.getD j 0 = 0) → Calls Tryd.prog 54 #[trPtr o, .slice (some ⟨g, 1 + z + z, none⟩) M M, .int .i64 (a : Int)] W fun e w' => e = .returned (.int .u64 ((bN Q : Nat) : Int)) ∧ ∃ o', Did w o [(1, 1, 0), (1, (z : Int), 0), (1, (M : Int), 0), (1, (M : Int), 0)] w' o') := fun W o1 a Q d ha hq => by
    obtain ⟨hB1, ha1⟩ := BK W o1 _ d
    have ht1 := d.room (k := 1) ht
    rw [← d.ptr]
    refine (zNoughts o1 _ M M R a Q W hq ht1.1 ⟨P3 W hB1, fun _ b hb => by rw [own hb]; exact ha1⟩ (by rw [hR, hD]; exact (hd.drop _).drop _) (by omega) ha).mono ?_
    rintro e w' ⟨rfl, o', d'⟩
    exact ⟨rfl, o', d.trans d'⟩
  have HFIN : Hid (∀ a F Q, FndR R 1 0 (-1) a (bN F) → (Q = true ↔ ∀ j, j < M → j < a → R.getD j 0 = 0) → ((F1 && F2 && F && Q) = true ↔ bl.take 1 = [0] ∧ D.take z = nm ∧ R.getD (fstN R) 0 = 1) ∧ ((F1 && F2 && F && Q) = true → 2 + z + z + a ≤ L ∧ bl.drop (2 + z + z + a) = D.drop (z + fstN R + 1))) := fun a F Q hf hq => by
    obtain ⟨_, h3, h4⟩ := fnd_first hf (by rw [lR]; exact hq)
    have e : (F1 && F2 && F && Q) = (F1 && (F2 && (F && Q))) := by cases F1 <;> cases F2 <;> cases F <;> cases Q <;> rfl
    rw [e]
    constructor
    · rw [Bool.and_eq_true, Bool.and_eq_true, h3, hF1, hF2, decide_eq_true_iff, decide_eq_true_iff]
    · intro h
      rw [Bool.and_eq_true, Bool.and_eq_true] at h
      obtain ⟨h5, h6⟩ := h4 h.2.2
      rw [← h5, hD, List.drop_drop]
      exact ⟨by omega, by congr 1; omega⟩
  have HAM : Hid (∀ a s, FndR R 1 0 (-1) a s → a ≤ M ∧ ∃ F : Bool, s = bN F) := fun a s hf => by
    rcases hf with ⟨rfl, h1, _⟩ | ⟨rfl, h1, _⟩
    · exact ⟨by omega, true, rfl⟩
    · exact ⟨by omega, false, rfl⟩
  have HK0 : Hid (∀ W, Kept Nought w W → Kept Nought w W) := fun _ k => k
  have gz0 : (0 : Int) ≤ (z : Int) := by omega
  have gz1 : (z : Int) ≤ (N : Int) := by omega
  have gz2 : z ≤ N := by omega
  have gN : ¬ N = z := by omega
  have gM : ¬ M = 0 := by omega
  have gNz : N - z = M := hM.symm
  have gL : 1 + z + z + M = L := by omega
  clear hB hd hl hn dn h1 hab hD hR hN hM lD lR hF1 hF2 q1 q2 BK P1 P2 P3 own ht
  generalize trPtr o = tp at *
  go_enter Tryd.func35, Tryd.ntmps35
  go_wp2_with fail
  refine (JC.out _).mono ?_
  rintro e w1 ⟨rfl, k1⟩
  have J1 := JE1.out w1 k1
  clear JC JE1 k1
  go_wp2_with fail
  refine J1.mono ?_
  rintro e w2 ⟨rfl, o2, d2⟩
  have J2 := JE2.out _ _ d2
  clear J1 JE2 d2
  go_wp2_with fail
  refine J2.mono ?_
  rintro e w3 ⟨rfl, o3, d3⟩
  have J3 := JF.out _ _ d3
  clear J2 JF d3
  go_wp2_with fail
  refine J3.mono ?_
  rintro e w4 ⟨a, s, rfl, hf, o4, d4⟩
  obtain ⟨ha, F, rfl⟩ := HAM.out a s hf
  obtain ⟨Q, hQ⟩ : ∃ Q : Bool, Q = true ↔ ∀ j, j < M → j < a → R.getD j 0 = 0 := bool_of9 _
  have J4 := JN.out _ _ a Q d4 ha hQ
  have HF := toHid (HFIN.out a F Q hf hQ)
  clear J3 JN HFIN HAM hf hQ d4
  have e5 := and4_bN F1 F2 F Q
  generalize (F1 && F2 && F && Q) = S at *
  go_wp2_with fail
  refine J4.mono ?_
  rintro e w5 ⟨rfl, o5, d5⟩
  have HD5 := toHid d5
  clear J4 d5
  go_wp2_with fail
  go_ret2
  refine ⟨2 + z + z + a, S, ?_, HF.out, o5, HD5.out⟩
  rw [show ((2 + z + z + a : Nat) : Int) = (L : Int) - (M : Int) + (a : Int) + 1 by omega]
  rfl

/-- What Decode writes down. -/
def oaeEv (h : Int) (L : Nat) : List Ev := if hszN h = 0 then [] else if L < 2 * hszN h + 2 ∨ 1024 < L then [] else [(1, (hszN h : Nat), 0), (1, ((L - (1 + hszN h) : Nat) : Int), 0), (1, 1, 0), (1, (hszN h : Nat), 0), (1, ((L - (1 + hszN h) - hszN h : Nat) : Int), 0), (1, ((L - (1 + hszN h) - hszN h : Nat) : Int), 0)]

theorem oaeEv_len (h : Int) (L : Nat) : (oaeEv h L).length ≤ 6 := by
  unfold oaeEv
  split
  · simp
  · split <;> simp

theorem one_of {em : List Nat} (h : em ≠ []) : em.take 1 = [0] ↔ em.getD 0 0 = 0 := by
  cases em with
  | nil => exact absurd rfl h
  | cons x l => simp

set_option maxRecDepth 20000 in
set_option maxHeartbeats 4000000 in
/-- Decode, of any trace. -/
theorem zDec (o : Tr) (h : Int) (lo : Option Addr) (ll lc : Nat) (lb : List Nat) (eo : Option Addr) (L ec : Nat) (em : List Nat) (w : World) (hT : TabH w) (ha : ApT o) (ht : TrRoom w o 6) (hlb : Row .u8 w (.slice lo ll lc) lb) (dl : Digs 256 lb) (hll : ll ≤ 10000) (he : RowB w o (.slice eo L ec) em) (de : Digs 256 em) :
    Calls Tryd.prog 15 #[trPtr o, .int .i64 h, .slice lo ll lc, .slice eo L ec] w fun e w' => ∃ u, e = .returned (.tuple #[u, .int .i64 (opE h lb em : Nat)]) ∧ (Row .u8 w' u (opL h lb em) ∧ ∀ b, u.ownBlock = some b → w.heap.size ≤ b) ∧ ∃ o', Did w o (oaeEv h L) w' o' := by
  obtain ⟨_, _, _, e1, hLl, _, _, _, _⟩ := hlb.open
  cases e1
  obtain ⟨_, _, _, e1, hLe, _, _, _, _⟩ := he.1.open
  cases e1
  have hL : em.length = L := hLe.out
  have J1 := z13Sum h (.slice lo ll lc) lb w hT hlb dl (by have := hLl.out; omega)
  have hz64 := hsz_le h
  by_cases c1 : hszN h = 0
  · have HE : Hid (opE h lb em = 130) := by unfold Hid opE; rw [if_pos c1]
    have HL0 : Hid (opL h lb em = []) := by unfold Hid opL; rw [HE.out]; rfl
    have HV : Hid (oaeEv h L = []) := by unfold Hid oaeEv; rw [if_pos c1]
    have hh : hshE h = 130 := by
      unfold hshE
      rcases hsz_cases h with ⟨_, e⟩ | ⟨_, e⟩ | ⟨_, e⟩ | ⟨h1, h2, h3, _⟩
      · omega
      · omega
      · omega
      · rw [if_neg (by omega)]
    rw [hh] at J1
    have HTI := toHid ht.1
    clear hlb dl he de hT ha ht hLl hLe
    generalize trPtr o = tp at *
    go_enter Tryd.func15, Tryd.ntmps15
    go_wp2_with fail
    refine J1.mono ?_
    rintro e w1 ⟨v1, rfl, _, _, k1⟩
    clear J1
    go_wp2_with fail
    go_ret2
    exact ⟨_, by rw [HE.out]; rfl, ⟨by rw [HL0.out]; exact Row.nil _ _, fun b hb => by cases hb⟩, o, by rw [HV.out]; exact Did.of_kept k1 HTI.out⟩
  obtain ⟨hh, _⟩ := hsh_ok c1
  rw [hh] at J1
  have HNL : Hid ((hshN h lb).length = hszN h) := hshN_length h lb
  have JA := toHid fun W => zAround (hszN h) hz64 W
  by_cases c2 : L < 2 * hszN h + 2 ∨ 1024 < L
  · have HE : Hid (opE h lb em = 230) := by unfold Hid opE; rw [if_neg c1, if_pos (by rw [hL]; exact c2)]
    have HL0 : Hid (opL h lb em = []) := by unfold Hid opL; rw [HE.out]; rfl
    have HV : Hid (oaeEv h L = []) := by unfold Hid oaeEv; rw [if_neg c1, if_pos c2]
    have HTI := toHid ht.1
    generalize hszN h = z at *
    have HFIN : Hid (∀ W, Kept Nought w W → ∃ u, (Ending.returned (.tuple #[.slice none 0 0, .int .i64 230]) : Ending) = .returned (.tuple #[u, .int .i64 (opE h lb em : Nat)]) ∧ (Row .u8 W u (opL h lb em) ∧ ∀ b, u.ownBlock = some b → w.heap.size ≤ b) ∧ ∃ o', Did w o (oaeEv h L) W o') := fun W k => ⟨_, by rw [HE.out]; rfl, ⟨by rw [HL0.out]; exact Row.nil _ _, fun b hb => by cases hb⟩, o, by rw [HV.out]; exact Did.of_kept k HTI.out⟩
    generalize hshN h lb = nm at *
    clear hlb dl he de hT ha ht hLl hLe HE HL0 HV HTI
    generalize trPtr o = tp at *
    by_cases c3 : L < 2 * z + 2
    · have g2 : (L : Int) < ((2 * z + 2 : Nat) : Int) := by omega
      clear c2
      go_enter Tryd.func15, Tryd.ntmps15
      go_wp2_with fail
      refine J1.mono ?_
      rintro e w1 ⟨v1, rfl, r1, _, k1⟩
      obtain ⟨ao1, n1, c1', rfl, hl1, _, _, _, _⟩ := r1.open
      obtain rfl : n1 = z := hl1.out.symm.trans HNL.out
      have J2 := JA.out w1
      clear J1 r1 hl1 HNL
      go_wp2_with fail
      refine J2.mono ?_
      rintro e w2 ⟨rfl, rfl⟩
      clear J2
      go_wp2_with fail
      go_ret2
      exact HFIN.out _ k1
    · have g2 : ¬ (L : Int) < ((2 * z + 2 : Nat) : Int) := by omega
      have g3 : (L : Int) > 1024 := by omega
      have g3' : (1024 : Int) < (L : Int) := by omega
      clear c2
      go_enter Tryd.func15, Tryd.ntmps15
      go_wp2_with fail
      refine J1.mono ?_
      rintro e w1 ⟨v1, rfl, r1, _, k1⟩
      obtain ⟨ao1, n1, c1', rfl, hl1, _, _, _, _⟩ := r1.open
      obtain rfl : n1 = z := hl1.out.symm.trans HNL.out
      have J2 := JA.out w1
      clear J1 r1 hl1 HNL
      go_wp2_with fail
      refine J2.mono ?_
      rintro e w2 ⟨rfl, rfl⟩
      clear J2
      go_wp2_with fail
      go_ret2
      exact HFIN.out _ k1
  have c3 : 2 * hszN h + 2 ≤ L := by omega
  have c4 : L ≤ 1024 := by omega
  have HV : Hid (oaeEv h L = ([(1, (hszN h : Nat), 0), (1, ((L - (1 + hszN h) : Nat) : Int), 0)] : List Ev) ++ ([(1, 1, 0), (1, (hszN h : Nat), 0), (1, ((L - (1 + hszN h) - hszN h : Nat) : Int), 0), (1, ((L - (1 + hszN h) - hszN h : Nat) : Int), 0)] : List Ev)) := by unfold Hid oaeEv; rw [if_neg c1, if_neg c2]; rfl
  have HOE : Hid (opE h lb em = opB h lb em (opD h em)) := by unfold Hid opE; rw [if_neg c1, if_neg (by rw [hL]; exact c2)]
  obtain ⟨p1, p2⟩ := unm_parts (h := h) (em := em) (by omega)
  have lU := unm_len (h := h) (em := em) (by omega)
  have dU := unm_digs (h := h) de
  have hne : em ≠ [] := fun e => by rw [e] at hL; simp at hL; omega
  have JU := toHid fun W (k : Kept Nought w W) => zUnmasked o h eo L ec em W c1 ((ht.less (by omega)).grew k) (hT.grew k) ha (he.1.grew k) de c3 c4
  have JM : Hid (∀ W W1 g o1 no nc, Kept Nought w W → Row .u8 W (.slice no (hszN h) nc) (hshN h lb) → (∀ b, (Value.slice no (hszN h) nc).ownBlock = some b → w.heap.size ≤ b) → Did W o [(1, (hszN h : Nat), 0), (1, ((L - (1 + hszN h) : Nat) : Int), 0)] W1 o1 → Blk W1 g L (unmN h em) → Calls Tryd.prog 35 #[trPtr o, .slice (some ⟨g, 0, none⟩) L L, .slice no (hszN h) nc] W1 fun e w' => ∃ (a : Nat) (S : Bool), e = .returned (.tuple #[.int .i64 (a : Int), .int .u64 ((bN S : Nat) : Int)]) ∧ ((S = true → opE h lb em = 0 ∧ a ≤ L ∧ (unmN h em).drop a = opL h lb em) ∧ (S = false → opE h lb em = 230)) ∧ Blk w' g L (unmN h em) ∧ ∃ o', Did w o (oaeEv h L) w' o') := fun W W1 g o1 no nc k hr hf d hB => by
    have ht1 := d.room (k := 4) (ht.grew k)
    have hfo : ∀ b, (Value.slice no (hszN h) nc).ownBlock = some b → ¬ trFoot o b := fun b hb f => by
      have := ht.1.foot b f
      have := hf b hb
      omega
    have hrB : RowB W o (.slice no (hszN h) nc) (hshN h lb) := ⟨hr, fun _ => hfo⟩
    have hab := hB.apart ht1.1
    rw [← d.ptr]
    refine (zMessage o1 g L (hszN h) nc (unmN h em) no (hshN h lb) W1 ht1 hB dU (by rw [lU, hL]) ⟨hrB.did d, fun hne b hb f => hfo b hb (d.foot (hr.lt hne b hb) f)⟩ (hshN_digs h lb) hz64 c3 c4).mono ?_
    rintro e w' ⟨a, S, rfl, ⟨hS, hA⟩, o', d'⟩
    rw [p1, p2, one_of hne] at hS
    rw [p2] at hA
    refine ⟨a, S, rfl, ⟨fun e => ?_, fun e => ?_⟩, hB.kept d'.kept hab, o', by rw [HV.out]; exact (d.after k).trans d'⟩
    · obtain ⟨s1, s2, s3⟩ := hS.1 e
      have e0 : opE h lb em = 0 := by
        rw [HOE.out]
        unfold opB
        rw [if_neg]
        rintro (e | e | e)
        · exact e s1
        · exact e s2
        · exact e s3
      refine ⟨e0, (hA e).1, ?_⟩
      rw [(hA e).2]
      unfold opL
      rw [if_pos e0]
    · rw [HOE.out]
      unfold opB
      rw [if_pos]
      by_cases s1 : em.getD 0 0 = 0
      · by_cases s2 : (opD h em).take (hszN h) = hshN h lb
        · exact .inr (.inr fun s3 => by rw [hS.2 ⟨s1, s2, s3⟩] at e; exact absurd e (by decide))
        · exact .inr (.inl s2)
      · exact .inl s1
  have HLU : Hid ((unmN h em).length = L) := lU.trans hL
  have HO0 : Hid (opE h lb em = 230 → opL h lb em = []) := fun e => by unfold opL; rw [e]; rfl
  clear hlb dl he de hT ha ht hLl hLe HV HOE p1 p2 lU dU hne hh c1 c2
  generalize opE h lb em = E at *
  generalize opL h lb em = RL at *
  generalize oaeEv h L = EV at *
  generalize unmN h em = U at *
  generalize hshN h lb = nm at *
  generalize hszN h = z at *
  have g2 : ¬ (L : Int) < ((2 * z + 2 : Nat) : Int) := by omega
  have g3 : ¬ (L : Int) > 1024 := by omega
  have g3' : ¬ (1024 : Int) < (L : Int) := by omega
  generalize trPtr o = tp at *
  go_enter Tryd.func15, Tryd.ntmps15
  go_wp2_with fail
  refine J1.mono ?_
  rintro e w1 ⟨v1, rfl, r1, f1, k1⟩
  obtain ⟨ao1, n1, c1', rfl, hl1, _, _, _, _⟩ := r1.open
  obtain rfl : n1 = z := hl1.out.symm.trans HNL.out
  have HR1 := toHid r1
  have HF1 := toHid f1
  have HK1 := toHid k1
  have J2 := JA.out w1
  clear J1 r1 f1 k1 hl1 HNL JA
  go_wp2_with fail
  refine J2.mono ?_
  rintro e w2 ⟨rfl, rfl⟩
  have J3 := JU.out w2 HK1.out
  clear J2 JU
  go_wp2_with fail
  refine J3.mono ?_
  rintro e w3 ⟨g, rfl, hg, hB3, o3, d3⟩
  have HG : Hid (w.heap.size ≤ g) := Nat.le_trans HK1.out.size hg
  have J4 := JM.out w2 w3 g o3 ao1 c1' HK1.out HR1.out HF1.out d3 hB3
  clear J3 JM hg hB3 d3 HR1 HF1 HK1
  go_wp2_with fail
  refine J4.mono ?_
  rintro e w4 ⟨a, S, rfl, ⟨hS1, hS0⟩, hB4, o4, d4⟩
  have HD4 := toHid d4
  have HB4 := toHid hB4
  have hsz : w.heap.size ≤ w4.heap.size := d4.size
  clear J4 hB4 d4
  cases S with
  | false =>
    have HE : Hid (E = 230) := hS0 rfl
    have HRL : Hid (RL = []) := HO0.out HE.out
    have gb : ((bN false : Nat) : Int) = 0 := rfl
    clear hS1 hS0 HB4
    go_wp2_with fail
    go_ret2
    exact ⟨_, by rw [HE.out]; rfl, ⟨by rw [HRL.out]; exact Row.nil _ _, fun b hb => by cases hb⟩, o4, HD4.out⟩
  | true =>
    obtain ⟨hE, haL, hRL⟩ := hS1 rfl
    have HE := toHid hE
    have gb : ((bN true : Nat) : Int) = 1 := rfl
    have JC : Hid (∀ ad n c, Row .u8 w4 (.slice (some ad) n c) RL → Calls Tryd.prog 36 #[.slice (some ad) n c] w4 fun e w' => ∃ v', e = .returned v' ∧ (Row .u8 w' v' RL ∧ ∀ b, v'.ownBlock = some b → w.heap.size ≤ b) ∧ ∃ o', Did w o EV w' o') := fun ad n c hr => by
      obtain ⟨_, _, _, e1, hLn, _, _, _, _⟩ := hr.open
      cases e1
      refine (zClone ad n c RL w4 hr ?_).mono ?_
      · have h1 := hLn.out
        have h2 := HLU.out
        rw [← hRL, List.length_drop] at h1
        omega
      · rintro e w' ⟨v', rfl, ho, k⟩
        exact ⟨v', rfl, ⟨ho.row, fun b hb => Nat.le_trans hsz (ho.lt b hb).1⟩, o4, HD4.out.grew k⟩
    clear hS1 hS0 hE
    have g0 : (0 : Int) ≤ (a : Int) := by omega
    have ga : (a : Int) ≤ (L : Int) := by omega
    by_cases hal : a = L
    · subst hal
      have hr : Row .u8 w4 (.slice (some ⟨g, 0, none⟩) 0 0) RL := by
        have e : RL = [] := by rw [← hRL]; exact List.drop_of_length_le (by have := HLU.out; omega)
        rw [e]
        exact row_none _ _ _
      have J5 := JC.out _ _ _ hr
      clear JC hr hRL HB4
      go_wp2_with fail
      refine J5.mono ?_
      rintro e w5 ⟨v5, rfl, hr5, o5, d5⟩
      have HR5 := toHid hr5
      have HD5 := toHid d5
      clear J5 hr5 d5
      go_wp2_with fail
      go_ret2
      exact ⟨_, by rw [HE.out]; rfl, HR5.out, o5, HD5.out⟩
    · have gn1 : ¬ L = a := fun e => hal e.symm
      have gn2 : ¬ L - a = 0 := by omega
      have hr : Row .u8 w4 (.slice (some ⟨g, a, none⟩) (L - a) (L - a)) RL := by
        have := HB4.out.part (s := a) (m := L - a) (by have := HLU.out; omega)
        rw [List.take_of_length_le (by rw [List.length_drop]; have := HLU.out; omega), hRL] at this
        exact this
      have J5 := JC.out _ _ _ hr
      clear JC hr hRL HB4
      go_wp2_with fail
      refine J5.mono ?_
      rintro e w5 ⟨v5, rfl, hr5, o5, d5⟩
      have HR5 := toHid hr5
      have HD5 := toHid d5
      clear J5 hr5 d5
      go_wp2_with fail
      go_ret2
      exact ⟨_, by rw [HE.out]; rfl, HR5.out, o5, HD5.out⟩

end Go.Proofs.YtnhkfdbeacmepaaDoor


/- Layer 24: what is padded by OAEP is taken apart again. No program in it. -/
namespace Go.Proofs.YtnhkfdbeacmepaaDoor
open Go.RowKit

theorem xorN_twice {xs bs : List Nat} : xorN (xorN xs bs) bs = xs := by
  apply List.ext_getElem?
  intro i
  by_cases hi : i < xs.length
  · have hl : i < (xorN xs bs).length := by rw [xorN_length]; exact hi
    have h1 : ∀ ys : List Nat, ∀ i, i < ys.length → (xorN ys bs)[i]? = some (ys.getD i 0 ^^^ bs.getD i 0) := fun ys i h => by
      unfold xorN
      rw [List.getElem?_map, List.getElem?_range h]
      rfl
    rw [h1 _ _ hl, List.getD_eq_getElem?_getD (l := xorN xs bs), h1 _ _ hi]
    rw [List.getElem?_eq_getElem hi, List.getD_eq_getElem?_getD (l := xs), List.getElem?_eq_getElem hi]
    simp [Nat.xor_assoc]
  · rw [List.getElem?_eq_none (by rw [xorN_length, xorN_length]; omega), List.getElem?_eq_none (by omega)]

/-- What the block is, taken apart. -/
theorem oae_open {h : Int} {lb ms bs : List Nat} {k : Int} (hE : seE h ms bs k = 0) : hszN h ≠ 0 ∧ 2 * (hszN h : Int) + 2 ≤ k ∧ k ≤ 1024 ∧ ((seL h lb ms bs k).length : Int) = k ∧ (seL h lb ms bs k).getD 0 0 = 0 ∧ ∃ z, opD h (seL h lb ms bs k) = hshN h lb ++ List.replicate z 0 ++ [1] ++ ms := by
  have h0 := hE
  unfold seE at h0
  split at h0
  · omega
  next h1 =>
  split at h0
  · omega
  next h2 =>
  have hr : rmE h k = 0 := by omega
  obtain ⟨hz, hk1, hk2, hrn⟩ := rm_zero hr
  have hsd : (readL bs (hszN h : Int)).length = hszN h := read_len h0
  have hL : seL h lb ms bs k = [0] ++ xorN (readL bs (hszN h : Int)) (mskN h (seX h lb ms bs k) (hszN h)) ++ seX h lb ms bs k := by unfold seL; rw [if_pos hE]
  obtain ⟨D, hD⟩ : ∃ D, D = seD h lb ms (rmN h k).toNat := ⟨_, rfl⟩
  obtain ⟨X, hX⟩ : ∃ X, X = seX h lb ms bs k := ⟨_, rfl⟩
  obtain ⟨S, hS⟩ : ∃ S, S = readL bs (hszN h : Int) := ⟨_, rfl⟩
  have hDX : X = xorN D (mskN h S D.length) := by rw [hX, seX, ← hD, ← hS]
  have hXl : X.length = D.length := by rw [hDX, xorN_length]
  have hDl : (D.length : Int) = k - hszN h - 1 := by
    rw [hD, seD]
    simp only [List.length_append, List.length_replicate, hshN_length, List.length_singleton]
    omega
  rw [← hX, ← hS] at hL
  rw [← hS] at hsd
  obtain ⟨Y, hY⟩ : ∃ Y, Y = xorN S (mskN h X (hszN h)) := ⟨_, rfl⟩
  have hYl : Y.length = hszN h := by rw [hY, xorN_length, hsd]
  rw [← hY] at hL
  have d1 : (seL h lb ms bs k).drop (1 + hszN h) = X := by
    rw [hL, List.drop_append_of_le_length (by simp [hYl]; omega)]
    rw [List.drop_of_length_le (by simp [hYl]; omega)]
    rfl
  have d2 : ((seL h lb ms bs k).drop 1).take (hszN h) = Y := by
    rw [hL]
    show (Y ++ X).take (hszN h) = Y
    rw [List.take_append_of_le_length (by omega), List.take_of_length_le (by omega)]
  refine ⟨hz, hk1, hk2, ?_, ?_, ((rmN h k).toNat - ms.length), ?_⟩
  · rw [hL]
    simp only [List.length_append, List.length_singleton, hYl, hXl]
    omega
  · rw [hL]
    rfl
  · unfold opD
    rw [d1, d2, hY, xorN_twice, hXl, hDX, xorN_twice, hD, seD]

theorem fst_zeros : ∀ (z : Nat) (ms : List Nat), fstN (List.replicate z 0 ++ [1] ++ ms) = z := fun z ms => by
  refine fstN_at (by first | (simp; done) | (simp; omega)) ?_ ?_
  · rw [List.getD_eq_getElem?_getD, List.append_assoc, List.getElem?_append_right (by simp)]
    simp
  · intro j hj
    rw [List.getD_eq_getElem?_getD, List.append_assoc, List.getElem?_append_left (by first | (simp; done) | (simp; omega)), List.getElem?_replicate, if_pos hj]
    rfl

/-- What is padded is taken apart again with a label of the same hash, and with no other one. -/
theorem oae_back {h : Int} {lb ms bs : List Nat} {k : Int} (hE : seE h ms bs k = 0) (lb' : List Nat) : (hshN h lb' = hshN h lb → opE h lb' (seL h lb ms bs k) = 0 ∧ opL h lb' (seL h lb ms bs k) = ms) ∧ (hshN h lb' ≠ hshN h lb → opE h lb' (seL h lb ms bs k) = 230) := by
  obtain ⟨hz, hk1, hk2, hlen, hg0, z, hD⟩ := oae_open (lb := lb) hE
  have hlen1 : ¬ ((seL h lb ms bs k).length < 2 * hszN h + 2 ∨ 1024 < (seL h lb ms bs k).length) := by omega
  have t1 : (opD h (seL h lb ms bs k)).take (hszN h) = hshN h lb := by
    rw [hD, List.append_assoc, List.append_assoc, List.take_append_of_le_length (by rw [hshN_length]; omega), List.take_of_length_le (by rw [hshN_length]; omega)]
  have t2 : (opD h (seL h lb ms bs k)).drop (hszN h) = List.replicate z 0 ++ [1] ++ ms := by
    rw [hD, List.append_assoc, List.append_assoc, List.drop_append_of_le_length (by rw [hshN_length]; omega), List.drop_of_length_le (by rw [hshN_length]; omega)]
    simp
  have t3 : (List.replicate z 0 ++ [1] ++ ms).getD z 0 = 1 := by
    rw [List.getD_eq_getElem?_getD, List.append_assoc, List.getElem?_append_right (by simp)]
    simp
  constructor
  · intro hl
    have hB : opB h lb' (seL h lb ms bs k) (opD h (seL h lb ms bs k)) = 0 := by
      unfold opB
      rw [if_neg]
      rw [t1, t2, fst_zeros, hg0, hl, t3]
      simp
    have hO : opE h lb' (seL h lb ms bs k) = 0 := by
      unfold opE
      rw [if_neg hz, if_neg hlen1, hB]
    refine ⟨hO, ?_⟩
    unfold opL
    rw [if_pos hO, t2, fst_zeros]
    rw [show hszN h + z + 1 = hszN h + (z + 1) by omega, ← List.drop_drop, t2]
    rw [List.drop_append_of_le_length (by simp), List.drop_of_length_le (by simp)]
    rfl
  · intro hl
    unfold opE
    rw [if_neg hz, if_neg hlen1]
    unfold opB
    rw [if_pos]
    rw [t1]
    exact .inr (.inl (fun e => hl e.symm))

end Go.Proofs.YtnhkfdbeacmepaaDoor

