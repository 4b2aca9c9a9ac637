/- Package inverse: numbers of fixed lengths beside a trace: the calls of limbs as the steps want them; fitted, sign, halved, combined, Steps. -/
import Derived.Test.YtamkkmifbajdfaaIvn1
namespace Go.Proofs.Ytamkkmifbajdfaa
open Go.RowKit

/-- A number of n words, apart from the trace. -/
def NumT (w : World) (o : Tr) (v : Value) (n X : Nat) : Prop := RowT w o v (digs 18446744073709551616 X n) ∧ X < 18446744073709551616 ^ n

theorem NumT.did {w w' : World} {o o' : Tr} {m : List Ev} {v : Value} {n X : Nat} (h : NumT w o v n X) (d : Did w o m w' o') : NumT w' o' v n X := ⟨h.1.did d, h.2⟩

theorem NumT.grew {w w' : World} {o : Tr} {v : Value} {n X : Nat} (h : NumT w o v n X) (k : Kept Nought w w') : NumT w' o v n X := ⟨h.1.grew k, h.2⟩

theorem num_val {n X : Nat} (h : X < 18446744073709551616 ^ n) : val 18446744073709551616 (digs 18446744073709551616 X n) = X := by rw [val_digs, Nat.mod_eq_of_lt h]

theorem NumT.of {w : World} {o : Tr} {v : Value} {xs : List Nat} {n : Nat} (h : RowT w o v xs) (hd : Digs 18446744073709551616 xs) (hl : xs.length = n) : NumT w o v n (val 18446744073709551616 xs) := by
  subst hl
  refine ⟨?_, val_lt (by omega) hd⟩
  rw [digs_val_self hd]
  exact h

theorem NumT.own {w : World} {o : Tr} {base n : Nat} {v : Value} {X : Nat} (h : OwnN .u64 27 w base v n (digs 18446744073709551616 X n)) (hX : X < 18446744073709551616 ^ n) (ht : TrIn w o) : NumT w o v n X := ⟨own_rowT h (digs_length _ _ _) ht, hX⟩

theorem NumT.shape {w : World} {o : Tr} {v : Value} {n X : Nat} (h : NumT w o v n X) : ∃ ao cap, v = .slice ao n cap := by
  obtain ⟨ao, L, cap, rfl, hL, _⟩ := h.1.1.open
  have := hL.out
  rw [digs_length] at this
  subst this
  exact ⟨ao, cap, rfl⟩

/-- Such a number in a block of words. -/
def NumN (w : World) (o : Tr) (v : Value) (n X : Nat) : Prop := NumT w o v n X ∧ U64s w v

theorem NumN.did {w w' : World} {o o' : Tr} {m : List Ev} {v : Value} {n X : Nat} (h : NumN w o v n X) (d : Did w o m w' o') (ht : TrIn w o) : NumN w' o' v n X := ⟨h.1.did d, h.2.did d ht⟩

theorem NumN.own {w : World} {o : Tr} {base n : Nat} {v : Value} {X : Nat} (h : OwnN .u64 27 w base v n (digs 18446744073709551616 X n)) (hX : X < 18446744073709551616 ^ n) (ht : TrIn w o) : NumN w o v n X := ⟨NumT.own h hX ht, U64s.own h⟩

/-- It stays where a struct's cells are written. -/
theorem NumN.put {w w' : World} {o : Tr} {v : Value} {n X p : Nat} {cs : Array Value} {t : TypeId} {fr : Nat × Nat} (h : NumN w o v n X) (hp : w.heap[p]? = some (.cells cs t fr)) (ht : t ≠ 27) (k : Kept (fun b => b = p) w w') : NumN w' o v n X := by
  have hne : ∀ b, v.ownBlock = some b → ¬ b = p := fun b hb e => by
    obtain ⟨cs', fr', h'⟩ := h.2 b hb
    rw [e, hp] at h'
    cases h'
    exact ht rfl
  exact ⟨⟨⟨h.1.1.1.kept k hne, h.1.1.2⟩, h.1.2⟩, h.2.kept k hne⟩

/-- What has been written down since w0, and the trace as it is. -/
structure Wr (w0 : World) (o0 : Tr) (m : List Ev) (w : World) (o : Tr) (tp : Value) (k : Nat) : Prop where
  did : Did w0 o0 m w o
  room : TrRoom w o k
  ptr : trPtr o = tp

theorem Wr.next {w0 w w' : World} {o0 o o' : Tr} {m m' : List Ev} {tp : Value} {k j : Nat} (s : Wr w0 o0 m w o tp j) (d : Did w o m' w' o') (hj : m'.length + k ≤ j) : Wr w0 o0 (m ++ m') w' o' tp k :=
  ⟨s.did.trans d, d.room (s.room.less hj), d.ptr.trans s.ptr⟩

theorem Wr.grew {w0 w w' : World} {o0 o : Tr} {m : List Ev} {tp : Value} {k : Nat} (s : Wr w0 o0 m w o tp k) (h : Kept Nought w w') : Wr w0 o0 m w' o tp k := ⟨s.did.grew h, s.room.grew h, s.ptr⟩

theorem Wr.less {w0 w : World} {o0 o : Tr} {m : List Ev} {tp : Value} {k j : Nat} (s : Wr w0 o0 m w o tp j) (h : k ≤ j) : Wr w0 o0 m w o tp k := ⟨s.did, s.room.less h, s.ptr⟩

theorem Wr.start {w : World} {o : Tr} {k : Nat} (h : TrRoom w o k) : Wr w o [] w o (trPtr o) k := ⟨Did.of_kept (Kept.refl Nought w) h.1, h, rfl⟩

/-- A struct's cells stay, whatever is written down. -/
theorem Did.cells {w w' : World} {o o' : Tr} {m : List Ev} {g : Nat} {cs : Array Value} {t : TypeId} {fr : Nat × Nat} (d : Did w o m w' o') (h : w.heap[g]? = some (.cells cs t fr)) (ht : TrIn w o) (h1 : t ≠ 60) (h2 : t ≠ 101) : w'.heap[g]? = some (.cells cs t fr) :=
  (d.kept.block g (lt_of_block h) (cells_apart h ht h1 h2)).trans h

theorem selB_lt {b X Y n : Nat} (hX : X < 18446744073709551616 ^ n) (hY : Y < 18446744073709551616 ^ n) : selN b X Y < 18446744073709551616 ^ n := by unfold selN; split <;> assumption

theorem subB_lt {X Y n : Nat} (hX : X < 18446744073709551616 ^ n) (hY : Y < 18446744073709551616 ^ n) : subN X Y n < 18446744073709551616 ^ n := by
  unfold subN
  rw [← B64]
  split <;> omega

theorem sel_one (b : Nat) (p : Bool) : selN b (oneN p) 0 ≤ 1 := by unfold selN oneN; split <;> (try split) <;> omega

theorem digs_mod (X n : Nat) : digs 18446744073709551616 X n = digs 18446744073709551616 (X % 18446744073709551616 ^ n) n := digs_cong (by rw [Nat.mod_mod])

/-- SubIf. -/
theorem iSubIf {w0 : World} {o0 : Tr} {m : List Ev} {tp : Value} {k : Nat} (bit n X Y : Nat) (u v : Value) {w : World} {o : Tr} (s : Wr w0 o0 m w o tp (k + 1)) (hb : bit ≤ 1) (hu : NumT w o u n X) (hv : NumT w o v n Y) (hn : n ≤ 1000) :
    Calls Try.prog 70 #[tp, .int .u64 (bit : Nat), u, v] w fun e w' => ∃ (v' : Value) (c : Nat), e = .returned (.tuple #[v', .int .u64 (c : Nat)]) ∧ ∃ (Z : Nat) (o' : Tr), Hid (Z = selN bit (subN X Y n) X ∧ c = selN bit (oneN (decide (X < Y))) 0) ∧ c ≤ 1 ∧ NumN w' o' v' n Z ∧ Did w o [(1, (n : Int), 0)] w' o' ∧ Wr w0 o0 (m ++ [(1, (n : Int), 0)]) w' o' tp k := by
  have h := lSubIf o bit (by omega) u v _ _ w (s.room.less (by omega)) hu.1 hv.1 (digs_digs (by omega) _ _) (digs_digs (by omega) _ _) (by rw [digs_length]; omega) (by rw [digs_length]; omega)
  rw [s.ptr, digs_length, digs_length, Nat.max_self, num_val hu.2, num_val hv.2] at h
  refine h.mono ?_
  rintro e w' ⟨v', rfl, ho, o', d⟩
  exact ⟨v', _, rfl, _, o', ⟨rfl, rfl⟩, sel_one _ _, NumN.own ho (selB_lt (subB_lt hu.2 hv.2) hu.2) (d.room (k := 0) (s.room.less (by simp))).1, d, s.next d (by simp; omega)⟩

/-- AddIf. -/
theorem iAddIf {w0 : World} {o0 : Tr} {m : List Ev} {tp : Value} {k : Nat} (bit n X Y : Nat) (u v : Value) {w : World} {o : Tr} (s : Wr w0 o0 m w o tp (k + 1)) (hb : bit ≤ 1) (hu : NumT w o u n X) (hv : NumT w o v n Y) (hn : n ≤ 1000) :
    Calls Try.prog 87 #[tp, .int .u64 (bit : Nat), u, v] w fun e w' => ∃ (v' : Value) (c : Nat), e = .returned (.tuple #[v', .int .u64 (c : Nat)]) ∧ ∃ (Z : Nat) (o' : Tr), Hid (Z = selN bit (X + Y) X % 18446744073709551616 ^ n ∧ c = selN bit (oneN (decide (18446744073709551616 ^ n ≤ X + Y))) 0) ∧ c ≤ 1 ∧ NumN w' o' v' n Z ∧ Did w o [(1, (n : Int), 0)] w' o' ∧ Wr w0 o0 (m ++ [(1, (n : Int), 0)]) w' o' tp k := by
  have h := lAddIf o bit (by omega) u v _ _ w (s.room.less (by omega)) hu.1 hv.1 (digs_digs (by omega) _ _) (digs_digs (by omega) _ _) (by rw [digs_length]; omega) (by rw [digs_length]; omega)
  rw [s.ptr, digs_length, digs_length, Nat.max_self, num_val hu.2, num_val hv.2, ← B64, digs_mod] at h
  refine h.mono ?_
  rintro e w' ⟨v', rfl, ho, o', d⟩
  exact ⟨v', _, rfl, _, o', ⟨rfl, rfl⟩, sel_one _ _, NumN.own ho (Nat.mod_lt _ (Nat.pow_pos (by omega))) (d.room (k := 0) (s.room.less (by simp))).1, d, s.next d (by simp; omega)⟩

/-- Sub. -/
theorem iSub {w0 : World} {o0 : Tr} {m : List Ev} {tp : Value} {k : Nat} (n X Y : Nat) (u v : Value) {w : World} {o : Tr} (s : Wr w0 o0 m w o tp (k + 1)) (hu : NumT w o u n X) (hv : NumT w o v n Y) (hn : n ≤ 1000) :
    Calls Try.prog 45 #[tp, u, v] w fun e w' => ∃ (v' : Value) (c : Nat), e = .returned (.tuple #[v', .int .u64 (c : Nat)]) ∧ ∃ (Z : Nat) (o' : Tr), Hid (Z = subN X Y n ∧ c = oneN (decide (X < Y))) ∧ c ≤ 1 ∧ NumN w' o' v' n Z ∧ Did w o [(1, (n : Int), 0)] w' o' ∧ Wr w0 o0 (m ++ [(1, (n : Int), 0)]) w' o' tp k := by
  have h := lSub o u v _ _ w (s.room.less (by omega)) hu.1 hv.1 (digs_digs (by omega) _ _) (digs_digs (by omega) _ _) (by rw [digs_length]; omega) (by rw [digs_length]; omega)
  rw [s.ptr, digs_length, digs_length, Nat.max_self, num_val hu.2, num_val hv.2] at h
  refine h.mono ?_
  rintro e w' ⟨v', rfl, ho, o', d⟩
  exact ⟨v', _, rfl, _, o', ⟨rfl, rfl⟩, one_le _, NumN.own ho (subB_lt hu.2 hv.2) (d.room (k := 0) (s.room.less (by simp))).1, d, s.next d (by simp; omega)⟩

/-- Sub from nothing. -/
theorem iSub0 {w0 : World} {o0 : Tr} {m : List Ev} {tp : Value} {k : Nat} (n Y : Nat) (v : Value) {w : World} {o : Tr} (s : Wr w0 o0 m w o tp (k + 1)) (hv : NumT w o v n Y) (hn : n ≤ 1000) :
    Calls Try.prog 45 #[tp, .slice none 0 0, v] w fun e w' => ∃ (v' : Value) (c : Nat), e = .returned (.tuple #[v', .int .u64 (c : Nat)]) ∧ ∃ (Z : Nat) (o' : Tr), Hid (Z = subN 0 Y n) ∧ NumN w' o' v' n Z ∧ Did w o [(1, (n : Int), 0)] w' o' ∧ Wr w0 o0 (m ++ [(1, (n : Int), 0)]) w' o' tp k := by
  have h := lSub o (.slice none 0 0) v [] _ w (s.room.less (by omega)) ⟨Row.nil _ _, fun h => absurd rfl h⟩ hv.1 (Digs.nil _) (digs_digs (by omega) _ _) (by simp) (by rw [digs_length]; omega)
  rw [s.ptr, List.length_nil, digs_length, Nat.zero_max, num_val hv.2, show val 18446744073709551616 [] = 0 from rfl] at h
  refine h.mono ?_
  rintro e w' ⟨v', rfl, ho, o', d⟩
  exact ⟨v', _, rfl, _, o', rfl, NumN.own ho (subB_lt (Nat.pow_pos (by omega)) hv.2) (d.room (k := 0) (s.room.less (by simp))).1, d, s.next d (by simp; omega)⟩

/-- Select. -/
theorem iSelect {w0 : World} {o0 : Tr} {m : List Ev} {tp : Value} {k : Nat} (bit n X Y : Nat) (u v : Value) {w : World} {o : Tr} (s : Wr w0 o0 m w o tp (k + 1)) (hb : bit ≤ 1) (hu : NumT w o u n X) (hv : NumT w o v n Y) (hn : n ≤ 1000) :
    Calls Try.prog 46 #[tp, .int .u64 (bit : Nat), u, v] w fun e w' => ∃ (v' : Value), e = .returned v' ∧ ∃ (Z : Nat) (o' : Tr), Hid (Z = selN bit X Y) ∧ NumN w' o' v' n Z ∧ Did w o [(1, (n : Int), 0)] w' o' ∧ Wr w0 o0 (m ++ [(1, (n : Int), 0)]) w' o' tp k := by
  have h := lSelect o bit (by omega) u v _ _ w (s.room.less (by omega)) hu.1 hv.1 (digs_digs (by omega) _ _) (digs_digs (by omega) _ _) (by rw [digs_length]; omega) (by rw [digs_length]; omega)
  rw [s.ptr, digs_length, digs_length, Nat.max_self, num_val hu.2, num_val hv.2] at h
  refine h.mono ?_
  rintro e w' ⟨v', rfl, ho, o', d⟩
  exact ⟨v', rfl, _, o', rfl, NumN.own ho (selB_lt hu.2 hv.2) (d.room (k := 0) (s.room.less (by simp))).1, d, s.next d (by simp; omega)⟩

/-- Right. -/
theorem iRight {w0 : World} {o0 : Tr} {m : List Ev} {tp : Value} {k : Nat} (bit n X : Nat) (u : Value) {w : World} {o : Tr} (s : Wr w0 o0 m w o tp (k + 1)) (hb : bit ≤ 1) (hu : NumT w o u n X) (hn : n ≤ 1000) :
    Calls Try.prog 88 #[tp, u, .int .u64 (bit : Nat)] w fun e w' => ∃ (v' : Value) (c : Nat), e = .returned (.tuple #[v', .int .u64 (c : Nat)]) ∧ ∃ (Z : Nat) (o' : Tr), Hid (Z = (X + bit % 2 * 18446744073709551616 ^ n) / 2) ∧ NumN w' o' v' n Z ∧ Did w o [(1, (n : Int), 0)] w' o' ∧ Wr w0 o0 (m ++ [(1, (n : Int), 0)]) w' o' tp k := by
  have h := lRight o u _ bit (by omega) w (s.room.less (by omega)) hu.1 (digs_digs (by omega) _ _) (by rw [digs_length]; omega)
  rw [s.ptr, digs_length, num_val hu.2] at h
  refine h.mono ?_
  rintro e w' ⟨v', rfl, ho, o', d⟩
  have hlt : (X + bit % 2 * 18446744073709551616 ^ n) / 2 < 18446744073709551616 ^ n := by
    have hX := hu.2
    have hb2 : bit % 2 = 0 ∨ bit % 2 = 1 := by omega
    generalize 18446744073709551616 ^ n = Q at *
    rcases hb2 with e | e <;> rw [e] <;> omega
  exact ⟨v', _, rfl, _, o', rfl, NumN.own ho hlt (d.room (k := 0) (s.room.less (by simp))).1, d, s.next d (by simp; omega)⟩

set_option maxRecDepth 20000 in
set_option maxHeartbeats 2000000 in
/-- sign: the highest bit. -/
theorem iSign (n X c : Nat) (v : Value) (w : World) (o : Tr) (h : NumT w o v (n + 1) X) (hn : n ≤ 1000) (hc : c = X / (9223372036854775808 * 18446744073709551616 ^ n)) :
    Calls Try.prog 44 #[v] w fun e w' => e = .returned (.int .u64 (c : Nat)) ∧ w' = w := by
  obtain ⟨ao, cap, rfl⟩ := h.shape
  obtain ⟨_, _, _, e1, _, _, _, _, hnum⟩ := h.1.1.open
  cases e1
  obtain ⟨b, off, rfl, hc0⟩ := digs_at (hnum n (by omega)) (by omega)
  have hd : dig 18446744073709551616 X n < 18446744073709551616 := Nat.mod_lt _ (by omega)
  have hq : Hid (dig 18446744073709551616 X n / 9223372036854775808 = c) := by
    unfold Hid
    rw [hc, Nat.mul_comm, ← Nat.div_div_eq_div_mul]
    unfold dig
    rw [Nat.mod_eq_of_lt]
    have := h.2
    rw [Nat.pow_succ] at this
    exact Nat.div_lt_of_lt_mul this
  clear h hnum hc
  generalize dig 18446744073709551616 X n = x at *
  have hq2 : ((x : Int) / 9223372036854775808) = (c : Int) := by have := hq.out; omega
  have HQ := toHid hq2
  clear hq hq2
  have g1 : ((n + 1 : Nat) : Int) - 1 = (n : Int) := by omega
  have g0 : (0 : Int) ≤ (n : Int) := Int.natCast_nonneg _
  have g2 : (n : Int) < ((n + 1 : Nat) : Int) := by omega
  obtain ⟨L, hL⟩ : ∃ L, L = n + 1 := ⟨_, rfl⟩
  rw [← hL] at g1 g2 ⊢
  have HL := toHid hL
  have hLb : L ≤ 1001 := by omega
  clear hL
  go_enter Try.func44, Try.ntmps44
  go_wp2_with fail
  go_ret
  rw [HQ.out]
  exact ⟨rfl, rfl⟩

set_option maxRecDepth 20000 in
set_option maxHeartbeats 1000000 in
/-- combined. -/
theorem iComb {w0 : World} {o0 : Tr} {m : List Ev} {tp : Value} {k : Nat} (sw od x n G F : Nat) (g f : Value) {w : World} {o : Tr} (s : Wr w0 o0 m w o tp (k + 2)) (hsw : sw ≤ 1) (hx : x ≤ 1) (hox : bits .xor .u64 (od : Int) (sw : Int) = (x : Int)) (hg : NumT w o g n G) (hf : NumT w o f n F) (hn : n ≤ 1000) :
    Calls Try.prog 69 #[tp, .int .u64 (sw : Nat), .int .u64 (od : Nat), g, f] w fun e w' => ∃ (v' : Value), e = .returned v' ∧ ∃ (Z : Nat) (o' : Tr), Hid (Z = selN x (selN sw (subN G F n) G + F) (selN sw (subN G F n) G) % 18446744073709551616 ^ n) ∧ NumN w' o' v' n Z ∧ Did w o [(1, (n : Int), 0), (1, (n : Int), 0)] w' o' ∧ Wr w0 o0 (m ++ [(1, (n : Int), 0), (1, (n : Int), 0)]) w' o' tp k := by
  have h1 := iSubIf sw n G F g f s hsw hg hf hn
  have HF := toHid hf
  clear hg hf
  go_enter Try.func69, Try.ntmps69
  go_wp2_with fail
  refine h1.mono ?_
  rintro e w1 ⟨v1, c1, rfl, Z1, o1, q1, _, n1, d1, s1⟩
  have h2 := iAddIf x n Z1 F v1 f s1 hx n1.1 (HF.out.did d1) hn
  clear h1 n1
  go_wp2_with fail
  refine h2.mono ?_
  rintro e w2 ⟨v2, c2, rfl, Z2, o2, q2, _, n2, d2, s2⟩
  clear h2
  go_wp2_with fail
  go_ret
  refine ⟨_, rfl, Z2, o2, ?_, n2, d1.trans d2, ?_⟩
  · have := q2.out.1
    rw [q1.out.1] at this
    exact this
  · have := s2
    rw [List.append_assoc] at this
    exact this

set_option maxRecDepth 20000 in
set_option maxHeartbeats 1000000 in
/-- halved. -/
theorem iHalf {w0 : World} {o0 : Tr} {m : List Ev} {tp : Value} {k : Nat} (n X c : Nat) (v : Value) {w : World} {o : Tr} (s : Wr w0 o0 m w o tp (k + 1)) (h : NumT w o v (n + 1) X) (hn : n ≤ 900) (hc : c = X / (9223372036854775808 * 18446744073709551616 ^ n)) (hc1 : c ≤ 1) :
    Calls Try.prog 68 #[tp, v] w fun e w' => ∃ (v' : Value), e = .returned v' ∧ ∃ (Z : Nat) (o' : Tr), Hid (Z = (X + c % 2 * 18446744073709551616 ^ (n + 1)) / 2) ∧ NumN w' o' v' (n + 1) Z ∧ Did w o [(1, ((n + 1 : Nat) : Int), 0)] w' o' ∧ Wr w0 o0 (m ++ [(1, ((n + 1 : Nat) : Int), 0)]) w' o' tp k := by
  have h1 := iSign n X c v w o h (by omega) hc
  have h2 := iRight c (n + 1) X v s hc1 h (by omega)
  clear h hc s
  generalize n + 1 = L at *
  go_enter Try.func68, Try.ntmps68
  go_wp2_with fail
  refine h1.mono ?_
  rintro e w1 ⟨rfl, rfl⟩
  clear h1
  go_wp2_with fail
  refine h2.mono ?_
  rintro e w2 ⟨v2, c2, rfl, Z2, o2, q2, n2, d2, s2⟩
  clear h2
  go_wp2_with fail
  go_ret
  exact ⟨_, rfl, Z2, o2, q2, n2, d2, s2⟩

end Go.Proofs.Ytamkkmifbajdfaa
