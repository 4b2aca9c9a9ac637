/- Put together of: Iva2. -/
import Derived.Test.YtiljkgoafknefaaGreatPk29

/- Melted of: Ivn2 Ivn3 Ivn4. -/

/- Package inverse: numbers of fixed lengths beside a trace: the calls of limbs as the steps want them; fitted, sign, halved, combined, Steps. -/
namespace Go.Proofs.YtiljkgoafknefaaGreat
open Go.RowKit

/-- A number of n words, apart from the trace. -/
def NumT (w : World) (o : Tr) (v : Value) (n X : Nat) : Prop := RowT w o v (digs 18446744073709551616 X n) ∧ X < 18446744073709551616 ^ n

theorem NumT.did {w w' : World} {o o' : Tr} {m : List Ev} {v : Value} {n X : Nat} (h : NumT w o v n X) (d : Did w o m w' o') : NumT w' o' v n X := ⟨h.1.did d, h.2⟩

theorem NumT.grew {w w' : World} {o : Tr} {v : Value} {n X : Nat} (h : NumT w o v n X) (k : Kept Nought w w') : NumT w' o v n X := ⟨h.1.grew k, h.2⟩

theorem num_val {n X : Nat} (h : X < 18446744073709551616 ^ n) : val 18446744073709551616 (digs 18446744073709551616 X n) = X := by rw [val_digs, Nat.mod_eq_of_lt h]

theorem NumT.of {w : World} {o : Tr} {v : Value} {xs : List Nat} {n : Nat} (h : RowT w o v xs) (hd : Digs 18446744073709551616 xs) (hl : xs.length = n) : NumT w o v n (val 18446744073709551616 xs) := by
  subst hl
  refine ⟨?_, val_lt (by omega) hd⟩
  rw [digs_val_self hd]
  exact h

theorem NumT.own {w : World} {o : Tr} {base n : Nat} {v : Value} {X : Nat} (h : OwnN .u64 24 w base v n (digs 18446744073709551616 X n)) (hX : X < 18446744073709551616 ^ n) (ht : TrIn w o) : NumT w o v n X := ⟨own_rowT h (digs_length _ _ _) ht, hX⟩

theorem NumT.shape {w : World} {o : Tr} {v : Value} {n X : Nat} (h : NumT w o v n X) : ∃ ao cap, v = .slice ao n cap := by
  obtain ⟨ao, L, cap, rfl, hL, _⟩ := h.1.1.open
  have := hL.out
  rw [digs_length] at this
  subst this
  exact ⟨ao, cap, rfl⟩

/-- Such a number in a block of words. -/
def NumN (w : World) (o : Tr) (v : Value) (n X : Nat) : Prop := NumT w o v n X ∧ U64s w v

theorem NumN.did {w w' : World} {o o' : Tr} {m : List Ev} {v : Value} {n X : Nat} (h : NumN w o v n X) (d : Did w o m w' o') (ht : TrIn w o) : NumN w' o' v n X := ⟨h.1.did d, h.2.did d ht⟩

theorem NumN.own {w : World} {o : Tr} {base n : Nat} {v : Value} {X : Nat} (h : OwnN .u64 24 w base v n (digs 18446744073709551616 X n)) (hX : X < 18446744073709551616 ^ n) (ht : TrIn w o) : NumN w o v n X := ⟨NumT.own h hX ht, U64s.own h⟩

/-- It stays where a struct's cells are written. -/
theorem NumN.put {w w' : World} {o : Tr} {v : Value} {n X p : Nat} {cs : Array Value} {t : TypeId} {fr : Nat × Nat} (h : NumN w o v n X) (hp : w.heap[p]? = some (.cells cs t fr)) (ht : t ≠ 24) (k : Kept (fun b => b = p) w w') : NumN w' o v n X := by
  have hne : ∀ b, v.ownBlock = some b → ¬ b = p := fun b hb e => by
    obtain ⟨cs', fr', h'⟩ := h.2 b hb
    rw [e, hp] at h'
    cases h'
    exact ht rfl
  exact ⟨⟨⟨h.1.1.1.kept k hne, h.1.1.2⟩, h.1.2⟩, h.2.kept k hne⟩

/-- What has been written down since w0, and the trace as it is. -/
structure Wr (w0 : World) (o0 : Tr) (m : List Ev) (w : World) (o : Tr) (tp : Value) (k : Nat) : Prop where
  did : Did w0 o0 m w o
  room : TrRoom w o k
  ptr : trPtr o = tp

theorem Wr.next {w0 w w' : World} {o0 o o' : Tr} {m m' : List Ev} {tp : Value} {k j : Nat} (s : Wr w0 o0 m w o tp j) (d : Did w o m' w' o') (hj : m'.length + k ≤ j) : Wr w0 o0 (m ++ m') w' o' tp k :=
  ⟨s.did.trans d, d.room (s.room.less hj), d.ptr.trans s.ptr⟩

theorem Wr.grew {w0 w w' : World} {o0 o : Tr} {m : List Ev} {tp : Value} {k : Nat} (s : Wr w0 o0 m w o tp k) (h : Kept Nought w w') : Wr w0 o0 m w' o tp k := ⟨s.did.grew h, s.room.grew h, s.ptr⟩

theorem Wr.less {w0 w : World} {o0 o : Tr} {m : List Ev} {tp : Value} {k j : Nat} (s : Wr w0 o0 m w o tp j) (h : k ≤ j) : Wr w0 o0 m w o tp k := ⟨s.did, s.room.less h, s.ptr⟩

theorem Wr.start {w : World} {o : Tr} {k : Nat} (h : TrRoom w o k) : Wr w o [] w o (trPtr o) k := ⟨Did.of_kept (Kept.refl Nought w) h.1, h, rfl⟩

/-- A struct's cells stay, whatever is written down. -/
theorem Did.cells {w w' : World} {o o' : Tr} {m : List Ev} {g : Nat} {cs : Array Value} {t : TypeId} {fr : Nat × Nat} (d : Did w o m w' o') (h : w.heap[g]? = some (.cells cs t fr)) (ht : TrIn w o) (h1 : t ≠ 153) (h2 : t ≠ 130) : w'.heap[g]? = some (.cells cs t fr) :=
  (d.kept.block g (lt_of_block h) (cells_apart h ht h1 h2)).trans h

theorem selB_lt {b X Y n : Nat} (hX : X < 18446744073709551616 ^ n) (hY : Y < 18446744073709551616 ^ n) : selN b X Y < 18446744073709551616 ^ n := by unfold selN; split <;> assumption

theorem subB_lt {X Y n : Nat} (hX : X < 18446744073709551616 ^ n) (hY : Y < 18446744073709551616 ^ n) : subN X Y n < 18446744073709551616 ^ n := by
  unfold subN
  rw [← B64]
  split <;> omega

theorem sel_one (b : Nat) (p : Bool) : selN b (oneN p) 0 ≤ 1 := by unfold selN oneN; split <;> (try split) <;> omega

theorem digs_mod (X n : Nat) : digs 18446744073709551616 X n = digs 18446744073709551616 (X % 18446744073709551616 ^ n) n := digs_cong (by rw [Nat.mod_mod])

/-- SubIf. -/
theorem iSubIf {w0 : World} {o0 : Tr} {m : List Ev} {tp : Value} {k : Nat} (bit n X Y : Nat) (u v : Value) {w : World} {o : Tr} (s : Wr w0 o0 m w o tp (k + 1)) (hb : bit ≤ 1) (hu : NumT w o u n X) (hv : NumT w o v n Y) (hn : n ≤ 1000) :
    Calls Tryz.prog 108 #[tp, .int .u64 (bit : Nat), u, v] w fun e w' => ∃ (v' : Value) (c : Nat), e = .returned (.tuple #[v', .int .u64 (c : Nat)]) ∧ ∃ (Z : Nat) (o' : Tr), Hid (Z = selN bit (subN X Y n) X ∧ c = selN bit (oneN (decide (X < Y))) 0) ∧ c ≤ 1 ∧ NumN w' o' v' n Z ∧ Did w o [(1, (n : Int), 0)] w' o' ∧ Wr w0 o0 (m ++ [(1, (n : Int), 0)]) w' o' tp k := by
  have h := lSubIf o bit (by omega) u v _ _ w (s.room.less (by omega)) hu.1 hv.1 (digs_digs (by omega) _ _) (digs_digs (by omega) _ _) (by rw [digs_length]; omega) (by rw [digs_length]; omega)
  rw [s.ptr, digs_length, digs_length, Nat.max_self, num_val hu.2, num_val hv.2] at h
  refine h.mono ?_
  rintro e w' ⟨v', rfl, ho, o', d⟩
  exact ⟨v', _, rfl, _, o', ⟨rfl, rfl⟩, sel_one _ _, NumN.own ho (selB_lt (subB_lt hu.2 hv.2) hu.2) (d.room (k := 0) (s.room.less (by simp))).1, d, s.next d (by simp; omega)⟩

/-- AddIf. -/
theorem iAddIf {w0 : World} {o0 : Tr} {m : List Ev} {tp : Value} {k : Nat} (bit n X Y : Nat) (u v : Value) {w : World} {o : Tr} (s : Wr w0 o0 m w o tp (k + 1)) (hb : bit ≤ 1) (hu : NumT w o u n X) (hv : NumT w o v n Y) (hn : n ≤ 1000) :
    Calls Tryz.prog 166 #[tp, .int .u64 (bit : Nat), u, v] w fun e w' => ∃ (v' : Value) (c : Nat), e = .returned (.tuple #[v', .int .u64 (c : Nat)]) ∧ ∃ (Z : Nat) (o' : Tr), Hid (Z = selN bit (X + Y) X % 18446744073709551616 ^ n ∧ c = selN bit (oneN (decide (18446744073709551616 ^ n ≤ X + Y))) 0) ∧ c ≤ 1 ∧ NumN w' o' v' n Z ∧ Did w o [(1, (n : Int), 0)] w' o' ∧ Wr w0 o0 (m ++ [(1, (n : Int), 0)]) w' o' tp k := by
  have h := lAddIf o bit (by omega) u v _ _ w (s.room.less (by omega)) hu.1 hv.1 (digs_digs (by omega) _ _) (digs_digs (by omega) _ _) (by rw [digs_length]; omega) (by rw [digs_length]; omega)
  rw [s.ptr, digs_length, digs_length, Nat.max_self, num_val hu.2, num_val hv.2, ← B64, digs_mod] at h
  refine h.mono ?_
  rintro e w' ⟨v', rfl, ho, o', d⟩
  exact ⟨v', _, rfl, _, o', ⟨rfl, rfl⟩, sel_one _ _, NumN.own ho (Nat.mod_lt _ (Nat.pow_pos (by omega))) (d.room (k := 0) (s.room.less (by simp))).1, d, s.next d (by simp; omega)⟩

/-- Sub. -/
theorem iSub {w0 : World} {o0 : Tr} {m : List Ev} {tp : Value} {k : Nat} (n X Y : Nat) (u v : Value) {w : World} {o : Tr} (s : Wr w0 o0 m w o tp (k + 1)) (hu : NumT w o u n X) (hv : NumT w o v n Y) (hn : n ≤ 1000) :
    Calls Tryz.prog 79 #[tp, u, v] w fun e w' => ∃ (v' : Value) (c : Nat), e = .returned (.tuple #[v', .int .u64 (c : Nat)]) ∧ ∃ (Z : Nat) (o' : Tr), Hid (Z = subN X Y n ∧ c = oneN (decide (X < Y))) ∧ c ≤ 1 ∧ NumN w' o' v' n Z ∧ Did w o [(1, (n : Int), 0)] w' o' ∧ Wr w0 o0 (m ++ [(1, (n : Int), 0)]) w' o' tp k := by
  have h := lSub o u v _ _ w (s.room.less (by omega)) hu.1 hv.1 (digs_digs (by omega) _ _) (digs_digs (by omega) _ _) (by rw [digs_length]; omega) (by rw [digs_length]; omega)
  rw [s.ptr, digs_length, digs_length, Nat.max_self, num_val hu.2, num_val hv.2] at h
  refine h.mono ?_
  rintro e w' ⟨v', rfl, ho, o', d⟩
  exact ⟨v', _, rfl, _, o', ⟨rfl, rfl⟩, one_le _, NumN.own ho (subB_lt hu.2 hv.2) (d.room (k := 0) (s.room.less (by simp))).1, d, s.next d (by simp; omega)⟩

/-- Sub from nothing. -/
theorem iSub0 {w0 : World} {o0 : Tr} {m : List Ev} {tp : Value} {k : Nat} (n Y : Nat) (v : Value) {w : World} {o : Tr} (s : Wr w0 o0 m w o tp (k + 1)) (hv : NumT w o v n Y) (hn : n ≤ 1000) :
    Calls Tryz.prog 79 #[tp, .slice none 0 0, v] w fun e w' => ∃ (v' : Value) (c : Nat), e = .returned (.tuple #[v', .int .u64 (c : Nat)]) ∧ ∃ (Z : Nat) (o' : Tr), Hid (Z = subN 0 Y n) ∧ NumN w' o' v' n Z ∧ Did w o [(1, (n : Int), 0)] w' o' ∧ Wr w0 o0 (m ++ [(1, (n : Int), 0)]) w' o' tp k := by
  have h := lSub o (.slice none 0 0) v [] _ w (s.room.less (by omega)) ⟨Row.nil _ _, fun h => absurd rfl h⟩ hv.1 (Digs.nil _) (digs_digs (by omega) _ _) (by simp) (by rw [digs_length]; omega)
  rw [s.ptr, List.length_nil, digs_length, Nat.zero_max, num_val hv.2, show val 18446744073709551616 [] = 0 from rfl] at h
  refine h.mono ?_
  rintro e w' ⟨v', rfl, ho, o', d⟩
  exact ⟨v', _, rfl, _, o', rfl, NumN.own ho (subB_lt (Nat.pow_pos (by omega)) hv.2) (d.room (k := 0) (s.room.less (by simp))).1, d, s.next d (by simp; omega)⟩

/-- Select. -/
theorem iSelect {w0 : World} {o0 : Tr} {m : List Ev} {tp : Value} {k : Nat} (bit n X Y : Nat) (u v : Value) {w : World} {o : Tr} (s : Wr w0 o0 m w o tp (k + 1)) (hb : bit ≤ 1) (hu : NumT w o u n X) (hv : NumT w o v n Y) (hn : n ≤ 1000) :
    Calls Tryz.prog 127 #[tp, .int .u64 (bit : Nat), u, v] w fun e w' => ∃ (v' : Value), e = .returned v' ∧ ∃ (Z : Nat) (o' : Tr), Hid (Z = selN bit X Y) ∧ NumN w' o' v' n Z ∧ Did w o [(1, (n : Int), 0)] w' o' ∧ Wr w0 o0 (m ++ [(1, (n : Int), 0)]) w' o' tp k := by
  have h := lSelect o bit (by omega) u v _ _ w (s.room.less (by omega)) hu.1 hv.1 (digs_digs (by omega) _ _) (digs_digs (by omega) _ _) (by rw [digs_length]; omega) (by rw [digs_length]; omega)
  rw [s.ptr, digs_length, digs_length, Nat.max_self, num_val hu.2, num_val hv.2] at h
  refine h.mono ?_
  rintro e w' ⟨v', rfl, ho, o', d⟩
  exact ⟨v', rfl, _, o', rfl, NumN.own ho (selB_lt hu.2 hv.2) (d.room (k := 0) (s.room.less (by simp))).1, d, s.next d (by simp; omega)⟩

/-- Right. -/
theorem iRight {w0 : World} {o0 : Tr} {m : List Ev} {tp : Value} {k : Nat} (bit n X : Nat) (u : Value) {w : World} {o : Tr} (s : Wr w0 o0 m w o tp (k + 1)) (hb : bit ≤ 1) (hu : NumT w o u n X) (hn : n ≤ 1000) :
    Calls Tryz.prog 167 #[tp, u, .int .u64 (bit : Nat)] w fun e w' => ∃ (v' : Value) (c : Nat), e = .returned (.tuple #[v', .int .u64 (c : Nat)]) ∧ ∃ (Z : Nat) (o' : Tr), Hid (Z = (X + bit % 2 * 18446744073709551616 ^ n) / 2) ∧ NumN w' o' v' n Z ∧ Did w o [(1, (n : Int), 0)] w' o' ∧ Wr w0 o0 (m ++ [(1, (n : Int), 0)]) w' o' tp k := by
  have h := lRight o u _ bit (by omega) w (s.room.less (by omega)) hu.1 (digs_digs (by omega) _ _) (by rw [digs_length]; omega)
  rw [s.ptr, digs_length, num_val hu.2] at h
  refine h.mono ?_
  rintro e w' ⟨v', rfl, ho, o', d⟩
  have hlt : (X + bit % 2 * 18446744073709551616 ^ n) / 2 < 18446744073709551616 ^ n := by
    have hX := hu.2
    have hb2 : bit % 2 = 0 ∨ bit % 2 = 1 := by omega
    generalize 18446744073709551616 ^ n = Q at *
    rcases hb2 with e | e <;> rw [e] <;> omega
  exact ⟨v', _, rfl, _, o', rfl, NumN.own ho hlt (d.room (k := 0) (s.room.less (by simp))).1, d, s.next d (by simp; omega)⟩

set_option maxRecDepth 20000 in
set_option maxHeartbeats 2000000 in
/-- sign: the highest bit. -/
theorem iSign (n X c : Nat) (v : Value) (w : World) (o : Tr) (h : NumT w o v (n + 1) X) (hn : n ≤ 1000) (hc : c = X / (9223372036854775808 * 18446744073709551616 ^ n)) :
    Calls Tryz.prog 126 #[v] w fun e w' => e = .returned (.int .u64 (c : Nat)) ∧ w' = w := by
  obtain ⟨ao, cap, rfl⟩ := h.shape
  obtain ⟨_, _, _, e1, _, _, _, _, hnum⟩ := h.1.1.open
  cases e1
  obtain ⟨b, off, rfl, hc0⟩ := digs_at (hnum n (by omega)) (by omega)
  have hd : dig 18446744073709551616 X n < 18446744073709551616 := Nat.mod_lt _ (by omega)
  have hq : Hid (dig 18446744073709551616 X n / 9223372036854775808 = c) := by
    unfold Hid
    rw [hc, Nat.mul_comm, ← Nat.div_div_eq_div_mul]
    unfold dig
    rw [Nat.mod_eq_of_lt]
    have := h.2
    rw [Nat.pow_succ] at this
    exact Nat.div_lt_of_lt_mul this
  clear h hnum hc
  generalize dig 18446744073709551616 X n = x at *
  have hq2 : ((x : Int) / 9223372036854775808) = (c : Int) := by have := hq.out; omega
  have HQ := toHid hq2
  clear hq hq2
  have g1 : ((n + 1 : Nat) : Int) - 1 = (n : Int) := by omega
  have g0 : (0 : Int) ≤ (n : Int) := Int.natCast_nonneg _
  have g2 : (n : Int) < ((n + 1 : Nat) : Int) := by omega
  obtain ⟨L, hL⟩ : ∃ L, L = n + 1 := ⟨_, rfl⟩
  rw [← hL] at g1 g2 ⊢
  have HL := toHid hL
  have hLb : L ≤ 1001 := by omega
  clear hL
  go_enter Tryz.func126, Tryz.ntmps126
  go_wp2_with fail
  go_ret
  rw [HQ.out]
  exact ⟨rfl, rfl⟩

set_option maxRecDepth 20000 in
set_option maxHeartbeats 1000000 in
/-- combined. -/
theorem iComb {w0 : World} {o0 : Tr} {m : List Ev} {tp : Value} {k : Nat} (sw od x n G F : Nat) (g f : Value) {w : World} {o : Tr} (s : Wr w0 o0 m w o tp (k + 2)) (hsw : sw ≤ 1) (hx : x ≤ 1) (hox : bits .xor .u64 (od : Int) (sw : Int) = (x : Int)) (hg : NumT w o g n G) (hf : NumT w o f n F) (hn : n ≤ 1000) :
    Calls Tryz.prog 151 #[tp, .int .u64 (sw : Nat), .int .u64 (od : Nat), g, f] w fun e w' => ∃ (v' : Value), e = .returned v' ∧ ∃ (Z : Nat) (o' : Tr), Hid (Z = selN x (selN sw (subN G F n) G + F) (selN sw (subN G F n) G) % 18446744073709551616 ^ n) ∧ NumN w' o' v' n Z ∧ Did w o [(1, (n : Int), 0), (1, (n : Int), 0)] w' o' ∧ Wr w0 o0 (m ++ [(1, (n : Int), 0), (1, (n : Int), 0)]) w' o' tp k := by
  have h1 := iSubIf sw n G F g f s hsw hg hf hn
  have HF := toHid hf
  clear hg hf
  go_enter Tryz.func151, Tryz.ntmps151
  go_wp2_with fail
  refine h1.mono ?_
  rintro e w1 ⟨v1, c1, rfl, Z1, o1, q1, _, n1, d1, s1⟩
  have h2 := iAddIf x n Z1 F v1 f s1 hx n1.1 (HF.out.did d1) hn
  clear h1 n1
  go_wp2_with fail
  refine h2.mono ?_
  rintro e w2 ⟨v2, c2, rfl, Z2, o2, q2, _, n2, d2, s2⟩
  clear h2
  go_wp2_with fail
  go_ret
  refine ⟨_, rfl, Z2, o2, ?_, n2, d1.trans d2, ?_⟩
  · have := q2.out.1
    rw [q1.out.1] at this
    exact this
  · have := s2
    rw [List.append_assoc] at this
    exact this

set_option maxRecDepth 20000 in
set_option maxHeartbeats 1000000 in
/-- halved. -/
theorem iHalf {w0 : World} {o0 : Tr} {m : List Ev} {tp : Value} {k : Nat} (n X c : Nat) (v : Value) {w : World} {o : Tr} (s : Wr w0 o0 m w o tp (k + 1)) (h : NumT w o v (n + 1) X) (hn : n ≤ 900) (hc : c = X / (9223372036854775808 * 18446744073709551616 ^ n)) (hc1 : c ≤ 1) :
    Calls Tryz.prog 150 #[tp, v] w fun e w' => ∃ (v' : Value), e = .returned v' ∧ ∃ (Z : Nat) (o' : Tr), Hid (Z = (X + c % 2 * 18446744073709551616 ^ (n + 1)) / 2) ∧ NumN w' o' v' (n + 1) Z ∧ Did w o [(1, ((n + 1 : Nat) : Int), 0)] w' o' ∧ Wr w0 o0 (m ++ [(1, ((n + 1 : Nat) : Int), 0)]) w' o' tp k := by
  have h1 := iSign n X c v w o h (by omega) hc
  have h2 := iRight c (n + 1) X v s hc1 h (by omega)
  clear h hc s
  generalize n + 1 = L at *
  go_enter Tryz.func150, Tryz.ntmps150
  go_wp2_with fail
  refine h1.mono ?_
  rintro e w1 ⟨rfl, rfl⟩
  clear h1
  go_wp2_with fail
  refine h2.mono ?_
  rintro e w2 ⟨v2, c2, rfl, Z2, o2, q2, n2, d2, s2⟩
  clear h2
  go_wp2_with fail
  go_ret
  exact ⟨_, rfl, Z2, o2, q2, n2, d2, s2⟩

end Go.Proofs.YtiljkgoafknefaaGreat

/- Package inverse: fitted; what a step makes of the coefficients. -/
namespace Go.Proofs.YtiljkgoafknefaaGreat
open Go.RowKit

set_option maxRecDepth 20000 in
set_option maxHeartbeats 2000000 in
/-- fitted. -/
theorem iFit (v : Value) (xs : List Nat) (n : Nat) (w : World) (h : Row .u64 w v xs) (hd : Digs 18446744073709551616 xs) (hn : n ≤ 1000000) :
    Calls Tryz.prog 98 #[v, .int .i64 (n : Nat)] w fun e w' => e = .returned (.slice (some ⟨w.heap.size, 0, none⟩) n n) ∧ OwnN .u64 24 w' w.heap.size (.slice (some ⟨w.heap.size, 0, none⟩) n n) n (digs 18446744073709551616 (val 18446744073709551616 xs) n) ∧ Kept Nought w w' := by
  obtain ⟨i0, hi0, hz0, hz1, hz2⟩ := info_parts Tryz.info24
  obtain ⟨ao, q, cap, rfl, hL, _, _, _, _⟩ := h.open
  have HD := toHid (fit_digs hd n)
  have HS : Hid (∀ W, Kept Nought w W → 0 < ((xs.take n).map fun z : Nat => Value.int .u64 (z : Int)).length → ∃ ad, ao = some ad ∧ ∀ j u, ((xs.take n).map fun z : Nat => Value.int .u64 (z : Int))[j]? = some u → W.cell? (ad.add j) = some u) := fun W hk hp => by
    obtain ⟨ad, e, hs⟩ := h.source hk (by rw [List.length_map, List.length_take] at hp; rw [List.length_map]; omega)
    refine ⟨ad, e, fun j u hj => hs j u ?_⟩
    rw [List.map_take, List.getElem?_take] at hj
    split at hj
    · exact hj
    · cases hj
  have HO := toHid (ints_one .u64 (xs.take n))
  have HLC : Hid (((xs.take n).map fun z : Nat => Value.int .u64 (z : Int)).length = Nat.min q n) := by
    unfold Hid
    rw [List.length_map, List.length_take, hL.out]
    exact Nat.min_comm n q
  obtain ⟨CS, hCS⟩ : ∃ CS, CS = (xs.take n).map (fun z : Nat => Value.int .u64 (z : Int)) := ⟨_, rfl⟩
  rw [← hCS] at HS HO HLC
  have HCS : Hid (CS = (xs.take n).map (fun z : Nat => Value.int .u64 (z : Int))) := hCS
  have hqn : Nat.min q n ≤ n := Nat.min_le_right _ _
  clear hCS h hd
  go_enter Tryz.func98, Tryz.ntmps98
  go_wp2_with (at_make; refine wpList_make_full _ rfl _ _ 23 rfl w.heap.size 24 i0 _ 1 Tryz.underlying23 hi0 hz0 hz1 _ _ _ _ n rfl rfl rfl rfl (by rw [hz2]; omega) (by unfold maxLen; omega) (Nat.le_refl _) ?_; intro w1 ho1 hg1; rw [zeros_map] at ho1; have k1 := grown_kept hg1; obtain ⟨w2, hrun, hb2, k2⟩ := run_copy_part (P := Tryz.prog) 23 23 3 24 w.heap.size 0 n n (some ⟨w.heap.size, 0, none⟩) ao q cap _ 24 CS Tryz.underlying23 (by rw [hi0]; simp [hz1]) (own_block ho1) HLC.out (fun hp => ⟨rfl, HS.out _ k1 hp⟩) (by have := HLC.out; simp; omega) HO.out; have HB2 : Hid _ := hb2; clear hb2 ho1 hg1)
  go_ret
  have hfin := HB2.out
  rw [HCS.out, splice_fill] at hfin
  rw [HD.out] at hfin
  have kk := kept_new k1 k2 (Nat.le_refl _)
  exact ⟨rfl, own_of_block hfin (by rw [digs_length]) (by unfold maxLen; omega) (Nat.le_refl _), kk⟩

theorem cells2 {W : World} {p : Nat} {a b : Value} {t : TypeId} {fr : Nat × Nat} (h : W.heap[p]? = some (.cells #[a, b] t fr)) : W.cell? ⟨p, 0, none⟩ = some a ∧ W.cell? ⟨p, 1, none⟩ = some b :=
  ⟨(cell_of_row W p 0 _ _ _ h).trans rfl, (cell_of_row W p 1 _ _ _ h).trans rfl⟩

theorem frees2 {W : World} {p : Nat} {a b : Value} {t : TypeId} (h : W.heap[p]? = some (.cells #[a, b] t (0, 0))) : W.frozen? ⟨p, 0, none⟩ = false ∧ W.frozen? ⟨p, 1, none⟩ = false := by
  simp [World.frozen?, h]

theorem put2 {W : World} {p : Nat} {a b : Value} {t : TypeId} (h : W.heap[p]? = some (.cells #[a, b] t (0, 0))) (x y : Value) :
    ((W.setCell ⟨p, 0, none⟩ x).setCell ⟨p, 1, none⟩ y).heap[p]? = some (.cells #[x, y] t (0, 0)) := by
  have h1 := heap_setCell_same W p 0 #[a, b] t x h
  have h2 := heap_setCell_same (W.setCell ⟨p, 0, none⟩ x) p 1 #[x, b] t y (by simpa using h1)
  simpa using h2

theorem kept2 (W : World) (p : Nat) (x y : Value) : Kept (fun b => b = p) W ((W.setCell ⟨p, 0, none⟩ x).setCell ⟨p, 1, none⟩ y) :=
  ((Kept.refl (fun b => b = p) W).setCell ⟨p, 0, none⟩ (fun _ => rfl) x).setCell ⟨p, 1, none⟩ (fun _ => rfl) y

/-- What is known of a step's coefficient, if m is a modulus and both are members. -/
def CoStep (n M U V sw od V' : Nat) : Prop := M < 18446744073709551616 ^ n → M % 2 = 1 → U < M → V < M → V' < M ∧ (M : Int) ∣ 2 * (V' : Int) - (V + ((od : Int) - 2 * (sw : Int)) * U)

set_option maxRecDepth 20000 in
set_option maxHeartbeats 4000000 in
/-- What a step makes of the coefficients. -/
theorem iCo {w0 : World} {o0 : Tr} {m : List Ev} {po : Option Addr} {k : Nat} (n M U V sw od x : Nat) (uo vo ao bo : Option Addr) (uc vc mcap l K rcap : Nat) {w : World} {o : Tr} (s : Wr w0 o0 m w o (.pointer po) (k + 8)) (hso : (sw = 1 ∧ od = 1 ∧ x = 0) ∨ (sw = 0 ∧ od = 1 ∧ x = 1) ∨ (sw = 0 ∧ od = 0 ∧ x = 0)) (hox : bits .xor .u64 (od : Int) (sw : Int) = (x : Int)) (hm : NumT w o (.slice ao n mcap) n M) (hu : NumT w o (.slice uo n uc) n U) (hv : NumT w o (.slice vo n vc) n V) (hn0 : 0 < n) (hn : n ≤ 900) :
    Calls Tryz.prog 149 #[.agg #[.slice uo n uc, .slice vo n vc], .pointer po, .agg #[.slice ao n mcap, .int .u64 (K : Nat), .slice bo l rcap], .int .u64 (sw : Nat), .int .u64 (od : Nat)] w fun e w' => ∃ (u' v' : Value), e = .returned (.agg #[u', v']) ∧ ∃ (U' V' : Nat) (o' : Tr), Hid (U' = selN sw V U ∧ CoStep n M U V sw od V') ∧ NumN w' o' u' n U' ∧ NumN w' o' v' n V' ∧ Did w o (List.replicate 8 (1, (n : Int), 0)) w' o' ∧ Wr w0 o0 (m ++ List.replicate 8 (1, (n : Int), 0)) w' o' (.pointer po) k := by
  have hsw : sw ≤ 1 := by omega
  have hx : x ≤ 1 := by omega
  obtain ⟨W, hW⟩ : ∃ W, W = ((w.alloc (.cells #[.slice uo n uc, .slice vo n vc] 136)).alloc (.cells #[.slice ao n mcap, .int .u64 (K : Nat), .slice bo l rcap] 90)).alloc (.cells #[.slice none 0 0, .slice none 0 0] 136) := ⟨_, rfl⟩
  have k0 : Kept Nought w W := by rw [hW]; exact (((Kept.refl Nought w).alloc _).alloc _).alloc _
  have b1 : W.heap[w.heap.size]? = some (.cells #[.slice uo n uc, .slice vo n vc] 136 (0, 0)) := by rw [hW]; exact heapAt_alloc (heapAt_alloc (heap_alloc_new _ _))
  have b2 : W.heap[w.heap.size + 1]? = some (.cells #[.slice ao n mcap, .int .u64 (K : Nat), .slice bo l rcap] 90 (0, 0)) := by
    rw [hW]
    refine heapAt_alloc ?_
    have := heap_alloc_new (w.alloc (.cells #[.slice uo n uc, .slice vo n vc] 136)) (.cells #[.slice ao n mcap, .int .u64 (K : Nat), .slice bo l rcap] 90)
    simpa using this
  have b3 : W.heap[w.heap.size + 1 + 1]? = some (.cells #[.slice none 0 0, .slice none 0 0] 136 (0, 0)) := by
    rw [hW]
    have := heap_alloc_new ((w.alloc (.cells #[.slice uo n uc, .slice vo n vc] 136)).alloc (.cells #[.slice ao n mcap, .int .u64 (K : Nat), .slice bo l rcap] 90)) (.cells #[.slice none 0 0, .slice none 0 0] 136)
    simpa using this
  have JC : Hid (∀ W' m' o', Did W o m' W' o' → (W'.cell? ⟨w.heap.size, 0, none⟩ = some (.slice uo n uc) ∧ W'.cell? ⟨w.heap.size, 1, none⟩ = some (.slice vo n vc)) ∧ W'.cell? ⟨w.heap.size + 1, 0, none⟩ = some (.slice ao n mcap) ∧ W'.heap[w.heap.size + 1 + 1]? = some (.cells #[.slice none 0 0, .slice none 0 0] 136 (0, 0))) := fun W' m' o' d =>
    have ti : TrIn W o := s.room.1.grew k0
    ⟨cells2 (d.cells b1 ti (by decide) (by decide)), (cells3 (d.cells b2 ti (by decide) (by decide))).1, d.cells b3 ti (by decide) (by decide)⟩
  have dW : Did W o [] W o := Did.of_kept (Kept.refl Nought W) (s.room.1.grew k0)
  have sW : Wr W o [] W o (.pointer po) (k + 8) := ⟨dW, s.room.grew k0, s.ptr⟩
  have HM := toHid (hm.grew k0)
  have HU := toHid (hu.grew k0)
  have HV := toHid (hv.grew k0)
  have HW := toHid hW
  have HK := toHid k0
  have HS := toHid s
  have HSO := toHid hso
  have HTI := toHid (s.room.1.grew k0)
  have h1 := iSubIf sw n V U _ _ (k := k + 7) sW hsw HV.out HU.out (by omega)
  obtain ⟨⟨c1, c2⟩, c3, _⟩ := JC.out W [] o dW
  clear hm hu hv hW k0 s hso b1 b2 b3 dW sW
  go_enter Tryz.func149, Tryz.ntmps149
  go_wp2_with (rw [← HW.out])
  refine h1.mono ?_
  rintro e w1 ⟨v1, b1, rfl, L, o1, q1, hb1, n1, d1, s1⟩
  have h2 := iAddIf b1 n L M v1 _ (k := k + 6) s1 hb1 n1.1 (HM.out.did s1.did) (by omega)
  obtain ⟨⟨c1, c2⟩, c3, _⟩ := JC.out w1 _ o1 s1.did
  clear h1 n1 d1
  go_wp2_with fail
  refine h2.mono ?_
  rintro e w2 ⟨v2, b2, rfl, D, o2, q2, _, n2, d2, s2⟩
  have h3 := iAddIf x n D U v2 _ (k := k + 5) s2 hx n2.1 (HU.out.did s2.did) (by omega)
  obtain ⟨⟨c1, c2⟩, c3, _⟩ := JC.out w2 _ o2 s2.did
  clear h2 n2 d2 s1
  go_wp2_with fail
  refine h3.mono ?_
  rintro e w3 ⟨v3, ov, rfl, X, o3, q3, hov, n3, d3, s3⟩
  have h4 := iSub n X M v3 _ (k := k + 4) s3 n3.1 (HM.out.did s3.did) (by omega)
  obtain ⟨⟨c1, c2⟩, c3, _⟩ := JC.out w3 _ o3 s3.did
  have N3 := toHid n3
  clear h3 n3 d3 s2
  go_wp2_with fail
  refine h4.mono ?_
  rintro e w4 ⟨v4, b4, rfl, Y, o4, q4, _, n4, d4, s4⟩
  have hles := les_bits X M ov hov
  rw [← q4.out.2] at hles
  have hT1 : lesT X M ov ≤ 1 := by unfold lesT; split <;> omega
  obtain ⟨T, hT⟩ : ∃ T, T = lesT X M ov := ⟨_, rfl⟩
  rw [← hT] at hles hT1
  have HT := toHid hT
  have h5 := iSelect T n Y X v4 v3 (k := k + 3) s4 hT1 n4.1 (N3.out.1.did d4) (by omega)
  obtain ⟨⟨c1, c2⟩, c3, _⟩ := JC.out w4 _ o4 s4.did
  clear h4 n4 d4 s3 hT
  go_wp2_with fail
  refine h5.mono ?_
  rintro e w5 ⟨v5, rfl, S, o5, q5, n5, d5, s5⟩
  obtain ⟨so, sc, rfl⟩ := n5.1.shape
  obtain ⟨_, _, _, e1, _, _, _, _, hnum⟩ := n5.1.1.1.open
  cases e1
  obtain ⟨sb, soff, rfl, hs0⟩ := digs_at (hnum 0 hn0) hn0
  have hdg : dig 18446744073709551616 S 0 = S % 18446744073709551616 := by unfold dig; rw [Nat.pow_zero, Nat.div_one]
  rw [hdg, Nat.add_zero] at hs0
  have hand := and_one_u64 ((S % 18446744073709551616 : Nat) : Int) (by omega) (by omega)
  obtain ⟨p, hp⟩ : ∃ p, p = S % 2 := ⟨_, rfl⟩
  rw [show ((S % 18446744073709551616 : Nat) : Int) % 2 = (p : Int) by omega] at hand
  have HP := toHid hp
  have hp1 : p ≤ 1 := by omega
  have JS : Hid (∀ W' m' o', Did w5 o5 m' W' o' → W'.cell? ⟨sb, soff, none⟩ = some (.int .u64 ((S % 18446744073709551616 : Nat) : Int))) := fun W' m' o' d => by
    obtain ⟨_, _, _, e1, _, _, _, _, hnum'⟩ := (n5.1.did d).1.1.open
    cases e1
    obtain ⟨_, _, e2, hs1⟩ := digs_at (hnum' 0 hn0) hn0
    cases e2
    rw [hdg, Nat.add_zero] at hs1
    exact hs1
  have h6 := fun W' (kk : Kept Nought w5 W') => iAddIf p n S M _ _ (k := k + 2) (s5.grew kk) hp1 (n5.1.grew kk) ((HM.out.did s5.did).grew kk) (by omega)
  obtain ⟨⟨c1, c2⟩, c3, _⟩ := JC.out w5 _ o5 s5.did
  clear h5 n5 d5 s4 hp hnum N3 hdg
  generalize S % 18446744073709551616 = S0 at *
  go_wp2_with fail
  go_region_held3 (fun w' => w'.cell? ⟨w.heap.size + 1, 0, none⟩ = some (.slice ao n mcap) ∧ w'.cell? ⟨sb, soff, none⟩ = some (.int .u64 (S0 : Int)))
    (((try dsimp only); (repeat' apply And.intro) <;> first | (go_keep; done) | assumption))
    (first
    | (go_at_call 166; refine (h6 _ ?_).mono ?_; (exact kdrew (kself _)); rintro e w6 ⟨v6, o3', rfl, E, o6, q6, ho3', n6, d6, s6⟩; obtain ⟨⟨c1', c2'⟩, c3', _⟩ := JC.out w6 _ o6 s6.did; have hs6 := JS.out w6 _ o6 (Did.after (kdrew (kself _)) d6)))
  all_goals
    have h7 := iRight o3' n E v6 (k := k + 1) s6 ho3' n6.1 (by omega)
    clear h6 d6 n6 s5 c1 c2 c3 hs0
    go_wp2_with fail
    refine h7.mono ?_
    rintro e w7 ⟨v7, b7, rfl, V', o7, q7, n7, d7, s7⟩
    obtain ⟨⟨c1, c2⟩, c3, _⟩ := JC.out w7 _ o7 s7.did
    have h8 := iSelect sw n V U _ _ (k := k) s7 hsw (HV.out.did s7.did) (HU.out.did s7.did) (by omega)
    have N7 := toHid n7
    have T7 := toHid s7.room.1
    clear h7 n7 d7 s6 c1' c2' c3' hs6
    go_wp2_with fail
    refine h8.mono ?_
    rintro e w8 ⟨v8, rfl, U', o8, q8, n8, d8, s8⟩
    obtain ⟨_, _, c4⟩ := JC.out w8 _ o8 s8.did
    have n7' := N7.out.did d8 T7.out
    obtain ⟨uo', uc', rfl⟩ := n8.1.shape
    obtain ⟨vo', vc', rfl⟩ := n7'.1.shape
    obtain ⟨f0, f1⟩ := frees2 c4
    obtain ⟨g0, g1⟩ := cells2 c4
    have c5 := put2 c4 (.slice uo' n uc') (.slice vo' n vc')
    obtain ⟨t0, t1⟩ := cells2 c5
    have kp := kept2 w8 (w.heap.size + 1 + 1) (.slice uo' n uc') (.slice vo' n vc')
    have hap := cells_apart c4 s8.room.1 (by decide) (by decide)
    have N8 := toHid (n8.put c4 (by decide) kp)
    have N7 := toHid (n7'.put c4 (by decide) kp)
    have D8 : Hid (Did w o (List.replicate 8 (1, (n : Int), 0)) ((w8.setCell ⟨w.heap.size + 1 + 1, 0, none⟩ (.slice uo' n uc')).setCell ⟨w.heap.size + 1 + 1, 1, none⟩ (.slice vo' n vc')) o8) := (Did.after HK.out s8.did).wroteNew kp (by omega) hap
    have HC : Hid (CoStep n M U V sw od V') := fun hM h2 hU hV => by
      have e4 := q4.out
      have e5 := q5.out
      have e6 := q6.out
      have e7 := q7.out
      rw [e4.1, HT.out] at e5
      rw [HP.out] at e6
      exact co_num (n := n) (Q := 18446744073709551616 ^ n) (B64 n) hM h2 hU hV HSO.out q1.out.1 q1.out.2 q2.out.1 q3.out.1 q3.out.2 e5 e6.1 e6.2 e7
    clear h8 n8 n7' c4 c5 kp hap s7 s8 d8 c1 c2 c3
    go_wp2_with fail
    refine bodyPost_ret (v := .agg #[.slice uo' n uc', .slice vo' n vc']) (by simp [results, Tryz.results149, go_sem, t0, t1]) rfl ⟨_, _, rfl, U', V', o8, ⟨q8.out, HC.out⟩, N8.out, N7.out, D8.out, HS.out.next D8.out (by simp; omega)⟩
end Go.Proofs.YtiljkgoafknefaaGreat

/- Package inverse: a step. -/
namespace Go.Proofs.YtiljkgoafknefaaGreat
open Go.RowKit

theorem xor_ones (D : Nat) (h : D < 18446744073709551616) : D ^^^ 18446744073709551615 = 18446744073709551615 - D := by
  have e : (BitVec.ofNat 64 D ^^^ BitVec.allOnes 64).toNat = D ^^^ 18446744073709551615 := by
    rw [BitVec.toNat_xor, BitVec.toNat_ofNat, BitVec.toNat_allOnes, Nat.mod_eq_of_lt (by omega)]
  rw [← e, BitVec.xor_allOnes, BitVec.toNat_not, BitVec.toNat_ofNat, Nat.mod_eq_of_lt (by omega)]

/-- The bits that a step reckons with. -/
structure StBits (d g : Int) (D E y od sw mk A C D' x : Nat) : Prop where
  lD : D < 18446744073709551616
  hE : IntKind.u64.wrap (-(D : Int)) = (E : Int)
  hy : (E : Int) / 9223372036854775808 = (y : Int)
  hod : (od : Int) = g % 2
  hsw : bits .and .u64 (od : Int) (y : Int) = (sw : Int)
  esw : sw = swN d g
  hmk : msk (sw : Int) = (mk : Int)
  hA : bits .xor .u64 (D : Int) (mk : Int) = (A : Int)
  h1 : bits .and .u64 (mk : Int) 1 = (sw : Int)
  hC : IntKind.u64.wrap ((A : Int) + (sw : Int)) = (C : Int)
  hD : IntKind.u64.wrap ((C : Int) + 1) = (D' : Int)
  eD : D' = tcN 18446744073709551616 (if sw = 1 then 1 - d else 1 + d)
  hx : bits .xor .u64 (od : Int) (sw : Int) = (x : Int)
  hso : (sw = 1 ∧ od = 1 ∧ x = 0) ∨ (sw = 0 ∧ od = 1 ∧ x = 1) ∨ (sw = 0 ∧ od = 0 ∧ x = 0)

theorem st_bits (d g : Int) (h0 : -1000000 ≤ d) (h1 : d ≤ 1000000) : ∃ E y od sw mk A C D' x : Nat, StBits d g (tcN 18446744073709551616 d) E y od sw mk A C D' x := by
  obtain ⟨D, hD⟩ : ∃ D, D = tcN 18446744073709551616 d := ⟨_, rfl⟩
  rw [← hD]
  have fD : (0 ≤ d → (D : Int) = d) ∧ (d < 0 → (D : Int) = 18446744073709551616 + d) := by
    rw [hD]; unfold tcN
    constructor
    · intro h; rw [if_neg (by omega)]; omega
    · intro h; rw [if_pos h]; omega
  have lD : D < 18446744073709551616 := by omega
  have fneg : ∃ E : Nat, IntKind.u64.wrap (-(D : Int)) = (E : Int) ∧ E < 18446744073709551616 ∧ (0 < d → 9223372036854775808 ≤ E) ∧ (¬ 0 < d → E < 9223372036854775808) := by
    refine ⟨(-(D : Int) % 18446744073709551616).toNat, ?_, ?_, ?_, ?_⟩
    · rw [IntKind.wrap_u64]; omega
    · omega
    · intro h; omega
    · intro h; omega
  obtain ⟨E, hE, lE, e1, e2⟩ := fneg
  obtain ⟨od, hod⟩ : ∃ od : Nat, (od : Int) = g % 2 := ⟨(g % 2).toNat, by omega⟩
  have hod1 : od = 0 ∨ od = 1 := by omega
  obtain ⟨y, hy⟩ : ∃ y : Nat, y = E / 9223372036854775808 := ⟨_, rfl⟩
  have hy' : (E : Int) / 9223372036854775808 = (y : Int) := by omega
  have ey : y = if 0 < d then 1 else 0 := by
    split
    · rename_i h; have := e1 h; omega
    · rename_i h; have := e2 h; omega
  by_cases h : 0 < d ∧ g % 2 = 1
  · rw [if_pos h.1] at ey
    have eod : od = 1 := by omega
    have es : swN d g = 1 := if_pos h
    subst ey
    subst eod
    obtain ⟨D', hD'⟩ : ∃ D', D' = tcN 18446744073709551616 (1 - d) := ⟨_, rfl⟩
    have fD' : (D' : Int) = if d = 1 then 0 else 18446744073709551616 + (1 - d) := by
      rw [hD']; unfold tcN
      split <;> split <;> omega
    refine ⟨E, 1, 1, 1, 18446744073709551615, 18446744073709551615 - D, 18446744073709551616 - D, D', 0, ⟨lD, hE, hy', hod, by decide, es.symm, by decide, ?_, by decide, ?_, ?_, ?_, by decide, .inl ⟨rfl, rfl, rfl⟩⟩⟩
    · have := u64_xor_nat D 18446744073709551615 lD (by omega)
      rw [xor_ones D lD] at this
      exact this
    · rw [IntKind.wrap_u64]; omega
    · rw [IntKind.wrap_u64, fD']; split <;> omega
    · rw [if_pos rfl]; exact hD'
  · have es : swN d g = 0 := if_neg h
    obtain ⟨D', hD'⟩ : ∃ D', D' = tcN 18446744073709551616 (1 + d) := ⟨_, rfl⟩
    have fD' : (D' : Int) = if d < -1 then 18446744073709551616 + (1 + d) else 1 + d := by
      rw [hD']; unfold tcN
      split <;> split <;> omega
    have hz : od = 0 ∨ y = 0 := by
      rcases hod1 with h0 | h0
      · exact .inl h0
      · refine .inr ?_
        rw [ey, if_neg (fun hh => h ⟨hh, by omega⟩)]
    refine ⟨E, y, od, 0, 0, D, D, D', od, ⟨lD, hE, hy', hod, ?_, es.symm, by decide, ?_, by decide, ?_, ?_, ?_, ?_, ?_⟩⟩
    · have := u64_and_nat od y (by omega) (by rw [ey]; split <;> omega)
      rw [this]
      rcases hz with e | e <;> rw [e] <;> simp
    · have := u64_xor_nat D 0 lD (by omega)
      rw [Nat.xor_zero] at this
      exact this
    · rw [IntKind.wrap_u64]; omega
    · rw [IntKind.wrap_u64, fD']; split <;> omega
    · rw [if_neg (by decide)]; exact hD'
    · have := u64_xor_nat od 0 (by omega) (by omega)
      rw [Nat.xor_zero] at this
      exact this
    · omega

theorem step_num {n sw od x t : Nat} {d f g : Int} (h : StIn (18446744073709551616 ^ n) t (d, f, g)) (hod : (od : Int) = g % 2) (hso : (sw = 1 ∧ od = 1 ∧ x = 0) ∨ (sw = 0 ∧ od = 1 ∧ x = 1) ∨ (sw = 0 ∧ od = 0 ∧ x = 0)) (es : sw = swN d g) :
    (selN x (selN sw (subN (tcN (18446744073709551616 ^ (n + 1)) g) (tcN (18446744073709551616 ^ (n + 1)) f) (n + 1)) (tcN (18446744073709551616 ^ (n + 1)) g) + tcN (18446744073709551616 ^ (n + 1)) f) (selN sw (subN (tcN (18446744073709551616 ^ (n + 1)) g) (tcN (18446744073709551616 ^ (n + 1)) f) (n + 1)) (tcN (18446744073709551616 ^ (n + 1)) g)) % 18446744073709551616 ^ (n + 1) = tcN (18446744073709551616 ^ (n + 1)) (g + ((g % 2) - 2 * (swN d g : Int)) * f)) ∧
    selN sw (tcN (18446744073709551616 ^ (n + 1)) g) (tcN (18446744073709551616 ^ (n + 1)) f) = tcN (18446744073709551616 ^ (n + 1)) (dst (d, f, g)).2.1 ∧
    tcN (18446744073709551616 ^ (n + 1)) (g + ((g % 2) - 2 * (swN d g : Int)) * f) / (9223372036854775808 * 18446744073709551616 ^ n) ≤ 1 ∧
    (tcN (18446744073709551616 ^ (n + 1)) (g + ((g % 2) - 2 * (swN d g : Int)) * f) + tcN (18446744073709551616 ^ (n + 1)) (g + ((g % 2) - 2 * (swN d g : Int)) * f) / (9223372036854775808 * 18446744073709551616 ^ n) % 2 * 18446744073709551616 ^ (n + 1)) / 2 = tcN (18446744073709551616 ^ (n + 1)) (dst (d, f, g)).2.2 := by
  obtain ⟨_, hf, hg⟩ := h
  dsimp only at hf hg
  have hP : 0 < 18446744073709551616 ^ n := Nat.pow_pos (by omega)
  rw [dst_eq, ← hod, ← es]
  have hs1 : sw = 0 ∨ sw = 1 := by omega
  have eB : (18446744073709551616 ^ (n + 1)) = 2 * (9223372036854775808 * 18446744073709551616 ^ n) := by rw [Nat.pow_succ]; omega
  obtain ⟨B, hB⟩ : ∃ B, B = 18446744073709551616 ^ (n + 1) := ⟨_, rfl⟩
  have hB2 : B = 2 ^ (64 * (n + 1)) := by rw [hB, B64]
  obtain ⟨H, hH⟩ : ∃ H, H = 9223372036854775808 * 18446744073709551616 ^ n := ⟨_, rfl⟩
  rw [← hB, ← hH] at eB
  rw [← hB, ← hH]
  generalize 18446744073709551616 ^ n = Q at *
  have h4 : 4 * Q ≤ B := by omega
  have hsub := tc_sub hg hf h4
  have hadd := tc_add hg hf h4
  have lg : tcN B g < B := tc_lt hg.1 hg.2 h4
  have ls : tcN B (g - f) < B := by rw [← hsub]; split <;> omega
  refine ⟨?_, ?_, ?_, ?_⟩
  · unfold selN subN
    rw [← hB2]
    rcases hso with ⟨rfl, rfl, rfl⟩ | ⟨rfl, rfl, rfl⟩ | ⟨rfl, rfl, rfl⟩
    · rw [if_neg (by decide), if_pos rfl, hsub, Nat.mod_eq_of_lt ls]
      congr 1
      omega
    · rw [if_pos rfl, if_neg (by decide), hadd]
      congr 1
      omega
    · rw [if_neg (by decide), if_neg (by decide), Nat.mod_eq_of_lt lg]
      congr 1
      omega
  · dsimp only
    unfold selN
    rcases hs1 with rfl | rfl
    · rw [if_neg (by decide), if_neg (by decide)]
    · rw [if_pos rfl, if_pos rfl]
  all_goals
    obtain ⟨X, hX⟩ : ∃ X, X = g + ((od : Int) - 2 * (sw : Int)) * f := ⟨_, rfl⟩
    have lX : -(2 * Q : Int) ≤ X ∧ X < 2 * Q := by
      rw [hX]
      rcases hso with ⟨rfl, rfl, rfl⟩ | ⟨rfl, rfl, rfl⟩ | ⟨rfl, rfl, rfl⟩ <;> omega
    rw [← hX, tc_sign lX eB (by omega) (by omega)]
  · unfold sgN; split <;> omega
  · exact tc_half lX eB (by omega)

theorem cells5 {W : World} {p : Nat} {a b c d e : Value} {t : TypeId} {fr : Nat × Nat} (h : W.heap[p]? = some (.cells #[a, b, c, d, e] t fr)) : W.cell? ⟨p, 0, none⟩ = some a ∧ W.cell? ⟨p, 1, none⟩ = some b ∧ W.cell? ⟨p, 2, none⟩ = some c ∧ W.cell? ⟨p, 3, none⟩ = some d ∧ W.cell? ⟨p, 4, none⟩ = some e :=
  ⟨(cell_of_row W p 0 _ _ _ h).trans rfl, (cell_of_row W p 1 _ _ _ h).trans rfl, (cell_of_row W p 2 _ _ _ h).trans rfl, (cell_of_row W p 3 _ _ _ h).trans rfl, (cell_of_row W p 4 _ _ _ h).trans rfl⟩

theorem frees5 {W : World} {p : Nat} {a b c d e : Value} {t : TypeId} (h : W.heap[p]? = some (.cells #[a, b, c, d, e] t (0, 0))) : W.frozen? ⟨p, 0, none⟩ = false ∧ W.frozen? ⟨p, 1, none⟩ = false ∧ W.frozen? ⟨p, 2, none⟩ = false ∧ W.frozen? ⟨p, 3, none⟩ = false ∧ W.frozen? ⟨p, 4, none⟩ = false := by
  simp [World.frozen?, h]

theorem put5 {W : World} {p : Nat} {a b c d e : Value} {t : TypeId} (h : W.heap[p]? = some (.cells #[a, b, c, d, e] t (0, 0))) (x y z u v : Value) :
    (((((W.setCell ⟨p, 0, none⟩ x).setCell ⟨p, 1, none⟩ y).setCell ⟨p, 2, none⟩ z).setCell ⟨p, 3, none⟩ u).setCell ⟨p, 4, none⟩ v).heap[p]? = some (.cells #[x, y, z, u, v] t (0, 0)) := by
  have h1 := heap_setCell_same W p 0 #[a, b, c, d, e] t x h
  have h2 := heap_setCell_same (W.setCell ⟨p, 0, none⟩ x) p 1 #[x, b, c, d, e] t y (by simpa using h1)
  have h3 := heap_setCell_same ((W.setCell ⟨p, 0, none⟩ x).setCell ⟨p, 1, none⟩ y) p 2 #[x, y, c, d, e] t z (by simpa using h2)
  have h4 := heap_setCell_same (((W.setCell ⟨p, 0, none⟩ x).setCell ⟨p, 1, none⟩ y).setCell ⟨p, 2, none⟩ z) p 3 #[x, y, z, d, e] t u (by simpa using h3)
  have h5 := heap_setCell_same ((((W.setCell ⟨p, 0, none⟩ x).setCell ⟨p, 1, none⟩ y).setCell ⟨p, 2, none⟩ z).setCell ⟨p, 3, none⟩ u) p 4 #[x, y, z, u, e] t v (by simpa using h4)
  simpa using h5

theorem kept5 (W : World) (p : Nat) (x y z u v : Value) : Kept (fun b => b = p) W (((((W.setCell ⟨p, 0, none⟩ x).setCell ⟨p, 1, none⟩ y).setCell ⟨p, 2, none⟩ z).setCell ⟨p, 3, none⟩ u).setCell ⟨p, 4, none⟩ v) :=
  (((((Kept.refl (fun b => b = p) W).setCell ⟨p, 0, none⟩ (fun _ => rfl) x).setCell ⟨p, 1, none⟩ (fun _ => rfl) y).setCell ⟨p, 2, none⟩ (fun _ => rfl) z).setCell ⟨p, 3, none⟩ (fun _ => rfl) u).setCell ⟨p, 4, none⟩ (fun _ => rfl) v

end Go.Proofs.YtiljkgoafknefaaGreat

