/- Three traces side by side, made by a law behind its start. -/
import Derived.Test.YtcdeankllgpnfabL5B
import Derived.Test.YtcdeankllgpnfabTSame
namespace Go.Proofs.Ytcdeankllgpnfab
open Go.RowKit

def n3 (a b c : Nat) : Nat → Nat := fun i => if i = 0 then a else if i = 1 then b else c

def ev3 (a b c : List Ev) : Nat → List Ev := fun i => if i = 0 then a else if i = 1 then b else c

/-- Behind the law's start w, in W: three traces with their events, apart from each other and from all that was there. -/
structure Trio (w : World) (p : Nat → Nat) (ev : Nat → List Ev) (W : World) : Prop where
  below : Below w.heap.size w W
  size : w.heap.size ≤ W.heap.size
  rows : ∀ v zs, Row .u64 w v zs → Row .u64 W v zs
  tr : ∃ o : Nat → Tr, (∀ i, i < 3 → TrIn W (o i) ∧ o i ≠ none ∧ trPtr (o i) = .pointer (some ⟨p i, 0, none⟩) ∧ trEvs (o i) = ev i ∧ ∀ b, trFoot (o i) b → w.heap.size ≤ b) ∧
    ∀ i j, i < 3 → j < 3 → i ≠ j → ∀ b, trFoot (o i) b → ¬ trFoot (o j) b

theorem TrIn.apart {w w' : World} {o q : Tr} {m : List Ev} {o' : Tr} (h : TrIn w q) (d : Did w o m w' o') (hd : ∀ b, trFoot q b → ¬ trFoot o b) : TrIn w' q := by
  cases q with
  | none => trivial
  | some x =>
    obtain ⟨p, g, l⟩ := x
    exact ⟨h.1.kept d.kept (hd p (.inl rfl)) (fun x hx => hd x (.inr hx)), h.2⟩

theorem Trio.step {w W : World} {p : Nat → Nat} {ev : Nat → List Ev} (h : Trio w p ev W) (i : Nat) (hi : i < 3) :
    ∃ o, TrIn W o ∧ trPtr o = .pointer (some ⟨p i, 0, none⟩) ∧ trEvs o = ev i ∧ (∀ v zs, Row .u64 w v zs → RowT W o v zs) ∧
      ∀ m W' o', (ev i).length + m.length < 1000000000000 → Did W o m W' o' → Trio w p (fun j => if j = i then ev i ++ m else ev j) W' := by
  obtain ⟨hB, hS, hR, o, ho, hd⟩ := h
  obtain ⟨h1, h0, h2, h3, h4⟩ := ho i hi
  have hT : ∀ v zs, Row .u64 w v zs → RowT W (o i) v zs := fun v zs hr => ⟨hR v zs hr, fun hn b hb f => by
    have := hr.lt hn b hb
    have := h4 b f
    omega⟩
  refine ⟨o i, h1, h2, h3, hT, fun m W' o' hlen d => ⟨hB.trans (d.kept.below hS h4), Nat.le_trans hS d.size, fun v zs hr => ((hT v zs hr).did d).1, ?_⟩⟩
  refine ⟨fun j => if j = i then o' else o j, fun j hj => ?_, fun j k hj hk hjk b => ?_⟩
  · by_cases e : j = i
    · subst e
      simp only [if_true]
      refine ⟨?_, ?_, by rw [d.ptr, h2], by rw [d.evs h0, h3], fun b f => ?_⟩
      · exact (d.room (k := 0) ⟨h1, by rw [h3]; omega⟩).1
      · intro e
        have := d.ptr
        rw [e, h2] at this
        exact absurd this (by simp [trPtr])
      · by_cases hb : b < W.heap.size
        · exact h4 b (d.foot hb f)
        · omega
    · simp only [if_neg e]
      obtain ⟨q1, q0, q2, q3, q4⟩ := ho j hj
      exact ⟨q1.apart d (hd j i hj hi e), q0, q2, q3, q4⟩
  · by_cases e : j = i
    · subst e
      have e2 : ¬ k = j := fun e => hjk e.symm
      simp only [if_true, if_neg e2]
      intro f f2
      have hb := (ho k hk).1.foot b f2
      exact hd j k hj hk hjk b (d.foot hb f) f2
    · by_cases e2 : k = i
      · subst e2
        simp only [if_true, if_neg e]
        intro f f2
        have hb := (ho j hj).1.foot b f
        exact hd j k hj hk hjk b f (d.foot hb f2)
      · simp only [if_neg e, if_neg e2]
        exact hd j k hj hk hjk b

theorem Trio.grew {w W W' : World} {p : Nat → Nat} {ev : Nat → List Ev} (h : Trio w p ev W) (k : Kept Nought W W') : Trio w p ev W' := by
  obtain ⟨hB, hS, hR, o, ho, hd⟩ := h
  exact ⟨hB.trans (below_kept k hS), Nat.le_trans hS k.size, fun v zs hr => (hR v zs hr).grew k, o, fun i hi => ⟨(ho i hi).1.grew k, (ho i hi).2⟩, hd⟩

theorem ev3_0 (a b c m : List Ev) : (fun j => if j = 0 then ev3 a b c 0 ++ m else ev3 a b c j) = ev3 (a ++ m) b c := by
  funext j
  by_cases h : j = 0
  · subst h; rfl
  · simp [ev3, h]

theorem ev3_1 (a b c m : List Ev) : (fun j => if j = 1 then ev3 a b c 1 ++ m else ev3 a b c j) = ev3 a (b ++ m) c := by
  funext j
  by_cases h : j = 0
  · subst h; rfl
  · by_cases h1 : j = 1
    · subst h1; rfl
    · simp [ev3, h, h1]

theorem ev3_2 (a b c m : List Ev) : ∀ j, j < 3 → (if j = 2 then ev3 a b c 2 ++ m else ev3 a b c j) = ev3 a b (c ++ m) j := by
  intro j hj
  have : j = 0 ∨ j = 1 ∨ j = 2 := by omega
  rcases this with rfl | rfl | rfl <;> rfl

theorem Trio.same {w W : World} {p : Nat → Nat} {ev ev' : Nat → List Ev} (h : Trio w p ev W) (he : ∀ j, j < 3 → ev j = ev' j) : Trio w p ev' W := by
  obtain ⟨hB, hS, hR, o, ho, hd⟩ := h
  exact ⟨hB, hS, hR, o, fun i hi => ⟨(ho i hi).1, (ho i hi).2.1, (ho i hi).2.2.1, by rw [← he i hi]; exact (ho i hi).2.2.2.1, (ho i hi).2.2.2.2⟩, hd⟩

/-- Three new ones. -/
theorem Trio.new (w W : World) (k : Kept Nought w W) : Trio w (n3 W.heap.size (W.heap.size + 1) (W.heap.size + 2)) (ev3 [] [] []) (((W.alloc newTr).alloc newTr).alloc newTr) := by
  have k1 : Kept Nought W (((W.alloc newTr).alloc newTr).alloc newTr) := (((Kept.refl _ _).alloc _).alloc _).alloc _
  have kk := k.trans k1
  have t0 : IsTr (((W.alloc newTr).alloc newTr).alloc newTr) W.heap.size none [] := (newTr_is W).grew (((Kept.refl _ _).alloc _).alloc _)
  have t1 : IsTr (((W.alloc newTr).alloc newTr).alloc newTr) (W.heap.size + 1) none [] := by
    have := (newTr_is (W.alloc newTr)).grew ((Kept.refl Nought _).alloc newTr)
    simpa using this
  have t2 : IsTr (((W.alloc newTr).alloc newTr).alloc newTr) (W.heap.size + 2) none [] := by
    have := newTr_is ((W.alloc newTr).alloc newTr)
    simpa using this
  refine ⟨below_kept kk (Nat.le_refl _), kk.size, fun v zs hr => hr.grew kk, fun i => some (n3 W.heap.size (W.heap.size + 1) (W.heap.size + 2) i, none, []), fun i hi => ?_, fun i j hi hj hij b => ?_⟩
  · have hs := k.size
    have : i = 0 ∨ i = 1 ∨ i = 2 := by omega
    have hft : ∀ q b, trFoot (some (q, none, [])) b → b = q := fun q b f => by
      rcases f with f | f
      · exact f
      · cases f
    rcases this with rfl | rfl | rfl
    · exact ⟨⟨t0, by simp⟩, by simp, rfl, rfl, fun b f => by rw [hft _ b f]; exact hs⟩
    · exact ⟨⟨t1, by simp⟩, by simp, rfl, rfl, fun b f => by rw [hft _ b f]; show _ ≤ W.heap.size + 1; omega⟩
    · exact ⟨⟨t2, by simp⟩, by simp, rfl, rfl, fun b f => by rw [hft _ b f]; show _ ≤ W.heap.size + 2; omega⟩
  · intro f g
    rcases f with f | f
    · rcases g with g | g
      · rw [f] at g
        have h1 : i = 0 ∨ i = 1 ∨ i = 2 := by omega
        have h2 : j = 0 ∨ j = 1 ∨ j = 2 := by omega
        unfold n3 at g
        rcases h1 with rfl | rfl | rfl <;> rcases h2 with rfl | rfl | rfl <;> simp at g hij <;> omega
      · cases g
    · cases f

theorem mulEvs_le (L M : Nat) : (mulEvs L M).length ≤ 300 := by
  unfold mulEvs
  split
  · rw [List.length_replicate]; omega
  · simp

theorem mwEvs_le (L M : Nat) : (mwEvs L M).length ≤ 300 := by
  unfold mwEvs
  split <;> simp

theorem divSeen_le (L M : Nat) : (divSeen L M).length ≤ 60000 := by
  unfold divSeen
  split
  · rw [divEvs_len]; omega
  · simp

theorem trioMul {w W : World} {p : Nat → Nat} {ev : Nat → List Ev} (h : Trio w p ev W) (i : Nat) (hi : i < 3) (hl : (ev i).length ≤ 100000000) (ao bo : Option Addr) (L M cap dap : Nat) (xs ys : List Nat) (hu : Row .u64 w (.slice ao L cap) xs) (hv : Row .u64 w (.slice bo M dap) ys) (hdx : Digs 18446744073709551616 xs) (hdy : Digs 18446744073709551616 ys) :
    Calls Try.prog 9 #[.pointer (some ⟨p i, 0, none⟩), .slice ao L cap, .slice bo M dap] W fun e w' => ∃ v', e = .returned v' ∧ Trio w p (fun j => if j = i then ev i ++ mulEvs L M else ev j) w' := by
  obtain ⟨o, h1, h2, h3, h4, h5⟩ := h.step i hi
  rw [← h2]
  refine (pMul o ao bo L M cap dap xs ys W ⟨h1, by rw [h3]; omega⟩ (h4 _ _ hu) (h4 _ _ hv) hdx hdy).mono ?_
  rintro e w' ⟨v', rfl, _, _, o', d⟩
  exact ⟨v', rfl, h5 _ _ _ (by have := mulEvs_le L M; omega) d⟩

theorem trioMulWord {w W : World} {p : Nat → Nat} {ev : Nat → List Ev} (h : Trio w p ev W) (i : Nat) (hi : i < 3) (hl : (ev i).length ≤ 100000000) (ao bo : Option Addr) (L M cap dap : Nat) (xs ys : List Nat) (x : Nat) (hx : x < 18446744073709551616) (hu : Row .u64 w (.slice ao L cap) xs) (hv : Row .u64 w (.slice bo M dap) ys) (hdx : Digs 18446744073709551616 xs) (hdy : Digs 18446744073709551616 ys) :
    Calls Try.prog 12 #[.pointer (some ⟨p i, 0, none⟩), .slice ao L cap, .int .u64 (x : Nat), .slice bo M dap] W fun e w' => ∃ v1 v2, e = .returned (.tuple #[v1, v2]) ∧ Trio w p (fun j => if j = i then ev i ++ mwEvs L M else ev j) w' := by
  obtain ⟨o, h1, h2, h3, h4, h5⟩ := h.step i hi
  rw [← h2]
  refine (pMulWord o ao bo L M cap dap xs ys x hx _ rfl W ⟨h1, by rw [h3]; omega⟩ (h4 _ _ hu) (h4 _ _ hv) hdx hdy).mono ?_
  rintro e w' ⟨v', rfl, _, o', d⟩
  exact ⟨v', _, rfl, h5 _ _ _ (by have := mwEvs_le L M; omega) d⟩

theorem trioDivide {w W : World} {p : Nat → Nat} {ev : Nat → List Ev} (h : Trio w p ev W) (i : Nat) (hi : i < 3) (hl : (ev i).length ≤ 100000000) (ao bo : Option Addr) (L M cap dap : Nat) (xs ys : List Nat) (hu : Row .u64 w (.slice ao L cap) xs) (hv : Row .u64 w (.slice bo M dap) ys) (hdx : Digs 18446744073709551616 xs) (hdy : Digs 18446744073709551616 ys) :
    Calls Try.prog 13 #[.pointer (some ⟨p i, 0, none⟩), .slice ao L cap, .slice bo M dap] W fun e w' => ∃ v1 v2 v3, e = .returned (.tuple #[v1, v2, v3]) ∧ Trio w p (fun j => if j = i then ev i ++ divSeen L M else ev j) w' := by
  obtain ⟨o, h1, h2, h3, h4, h5⟩ := h.step i hi
  rw [← h2]
  refine (pDivide o ao bo L M cap dap xs ys _ rfl W ⟨h1, by rw [h3]; omega⟩ (h4 _ _ hu) (h4 _ _ hv) hdx hdy).mono ?_
  rintro e w' ⟨v1, v2, rfl, _, _, o', d⟩
  exact ⟨v1, v2, _, rfl, h5 _ _ _ (by have := divSeen_le L M; omega) d⟩

theorem trioSpan {w W : World} {p : Nat → Nat} {ev : Nat → List Ev} (h : Trio w p ev W) (i : Nat) (hi : i < 3) (hl : (ev i).length ≤ 100000000) (n : Int) :
    Calls Try.prog 10 #[.pointer (some ⟨p i, 0, none⟩), .int .i64 n] W fun e w' => e = .returned (.tuple #[]) ∧ Trio w p (fun j => if j = i then ev i ++ [(1, n, 0)] else ev j) w' := by
  obtain ⟨o, h1, h2, h3, h4, h5⟩ := h.step i hi
  rw [← h2]
  refine (tSpanDid o n W h1).mono ?_
  rintro e w' ⟨rfl, o', d⟩
  exact ⟨rfl, h5 _ _ _ (by simp only [List.length_cons, List.length_nil]; omega) d⟩

theorem trioSame {w W : World} {p : Nat → Nat} {ev : Nat → List Ev} (h : Trio w p ev W) (i j : Nat) (hi : i < 3) (hj : j < 3) (he : ev i = ev j) :
    Calls Try.prog 11 #[.pointer (some ⟨p i, 0, none⟩), .pointer (some ⟨p j, 0, none⟩)] W fun e w' => e = .returned (.bool true) ∧ Trio w p ev w' := by
  obtain ⟨o, h1, h2, h3, _⟩ := h.step i hi
  obtain ⟨q, g1, g2, g3, _⟩ := h.step j hj
  have hS := tSame o q W h1 g1
  rw [h2, g2, h3, g3, he, show sameB (ev j) (ev j) = true by simp [sameB]] at hS
  refine hS.mono ?_
  rintro e w' ⟨rfl, k⟩
  exact ⟨rfl, h.grew k⟩

end Go.Proofs.Ytcdeankllgpnfab
