/- What a call of limbs leaves in a trace that the law has made, at any stage of the law. -/
import Derived.Test.YtnjmckfkfkalgabLimO
import Derived.Test.YtnjmckfkfkalgabLimE
import Derived.Test.YtnjmckfkfkalgabLimF
import Derived.Test.YtnjmckfkfkalgabLimH
import Derived.Test.YtnjmckfkfkalgabLimP
import Derived.Test.YtnjmckfkfkalgabTSame
import Derived.Test.YtnjmckfkfkalgabOpenNats
namespace Go.Proofs.Ytnjmckfkfkalgab
open Go.RowKit

/-- The law's own trace at p1, made in W0, has come to o' in W by the events m. -/
structure Stage (W0 : World) (p1 : Nat) (m : List Ev) (W : World) (o' : Tr) : Prop where
  did : Did W0 (some (p1, none, [])) m W o'
  room : TrRoom W0 (some (p1, none, [])) 1000
  few : m.length ≤ 500

theorem Stage.trRoom {W0 W : World} {p1 : Nat} {m : List Ev} {o' : Tr} (h : Stage W0 p1 m W o') : TrRoom W o' 100 := h.did.room (h.room.less (by have := h.few; omega))

theorem Stage.row {W0 W : World} {p1 : Nat} {m : List Ev} {o' : Tr} {v : Value} {xs : List Nat} (h : Stage W0 p1 m W o') (r : RowT W0 (some (p1, none, [])) v xs) : RowT W o' v xs := r.did h.did

theorem Stage.ptr {W0 W : World} {p1 : Nat} {m : List Ev} {o' : Tr} (h : Stage W0 p1 m W o') : trPtr o' = .pointer (some ⟨p1, 0, none⟩) := h.did.ptr

theorem Stage.next {W0 W W2 : World} {p1 : Nat} {m e : List Ev} {o' o2 : Tr} (h : Stage W0 p1 m W o') (d : Did W o' e W2 o2) (hf : (m ++ e).length ≤ 500) : Stage W0 p1 (m ++ e) W2 o2 := ⟨h.did.trans d, h.room, hf⟩

theorem sAdd (W0 : World) (p1 : Nat) (ao bo : Option Addr) (L M cap dap : Nat) (xs ys : List Nat) (hu : RowT W0 (some (p1, none, [])) (.slice ao L cap) xs) (hv : RowT W0 (some (p1, none, [])) (.slice bo M dap) ys) (hdx : Digs 18446744073709551616 xs) (hdy : Digs 18446744073709551616 ys) (hL : L ≤ 200) (hM : M ≤ 200) :
    ∀ W o1 m, Stage W0 p1 m W o1 → m.length + 1 ≤ 500 → Calls Try.prog 8 #[.pointer (some ⟨p1, 0, none⟩), .slice ao L cap, .slice bo M dap] W fun e w' => ∃ r, e = .returned r ∧ ∃ o2, Stage W0 p1 (m ++ [(1, ((max L M : Nat) : Int), 0)]) w' o2 := by
  intro W o1 m hs hm
  have lx : xs.length = L := by obtain ⟨_, _, _, e, h, _⟩ := hu.1.open; cases e; exact h.out
  have ly : ys.length = M := by obtain ⟨_, _, _, e, h, _⟩ := hv.1.open; cases e; exact h.out
  have h := lAdd o1 _ _ xs ys W (hs.trRoom.less (by omega)) (hs.row hu) (hs.row hv) hdx hdy (by omega) (by omega)
  rw [hs.ptr] at h
  refine h.mono ?_
  rintro e w' ⟨v, rfl, _, o2, d⟩
  rw [lx, ly] at d
  exact ⟨_, rfl, o2, hs.next d (by simp; omega)⟩

theorem sSub (W0 : World) (p1 : Nat) (ao bo : Option Addr) (L M cap dap : Nat) (xs ys : List Nat) (hu : RowT W0 (some (p1, none, [])) (.slice ao L cap) xs) (hv : RowT W0 (some (p1, none, [])) (.slice bo M dap) ys) (hdx : Digs 18446744073709551616 xs) (hdy : Digs 18446744073709551616 ys) (hL : L ≤ 200) (hM : M ≤ 200) :
    ∀ W o1 m, Stage W0 p1 m W o1 → m.length + 1 ≤ 500 → Calls Try.prog 9 #[.pointer (some ⟨p1, 0, none⟩), .slice ao L cap, .slice bo M dap] W fun e w' => ∃ r, e = .returned r ∧ ∃ o2, Stage W0 p1 (m ++ [(1, ((max L M : Nat) : Int), 0)]) w' o2 := by
  intro W o1 m hs hm
  have lx : xs.length = L := by obtain ⟨_, _, _, e, h, _⟩ := hu.1.open; cases e; exact h.out
  have ly : ys.length = M := by obtain ⟨_, _, _, e, h, _⟩ := hv.1.open; cases e; exact h.out
  have h := lSub o1 _ _ xs ys W (hs.trRoom.less (by omega)) (hs.row hu) (hs.row hv) hdx hdy (by omega) (by omega)
  rw [hs.ptr] at h
  refine h.mono ?_
  rintro e w' ⟨v, rfl, _, o2, d⟩
  rw [lx, ly] at d
  exact ⟨_, rfl, o2, hs.next d (by simp; omega)⟩

theorem sLess (W0 : World) (p1 : Nat) (ao bo : Option Addr) (L M cap dap : Nat) (xs ys : List Nat) (hu : RowT W0 (some (p1, none, [])) (.slice ao L cap) xs) (hv : RowT W0 (some (p1, none, [])) (.slice bo M dap) ys) (hdx : Digs 18446744073709551616 xs) (hdy : Digs 18446744073709551616 ys) (hL : L ≤ 200) (hM : M ≤ 200) :
    ∀ W o1 m, Stage W0 p1 m W o1 → m.length + 1 ≤ 500 → Calls Try.prog 16 #[.pointer (some ⟨p1, 0, none⟩), .slice ao L cap, .slice bo M dap] W fun e w' => ∃ r, e = .returned r ∧ ∃ o2, Stage W0 p1 (m ++ [(1, ((max L M : Nat) : Int), 0)]) w' o2 := by
  intro W o1 m hs hm
  have lx : xs.length = L := by obtain ⟨_, _, _, e, h, _⟩ := hu.1.open; cases e; exact h.out
  have ly : ys.length = M := by obtain ⟨_, _, _, e, h, _⟩ := hv.1.open; cases e; exact h.out
  have h := lLess o1 _ _ xs ys W (hs.trRoom.less (by omega)) (hs.row hu) (hs.row hv) hdx hdy (by omega) (by omega)
  rw [hs.ptr] at h
  refine h.mono ?_
  rintro e w' ⟨rfl, o2, d⟩
  rw [lx, ly] at d
  exact ⟨_, rfl, o2, hs.next d (by simp; omega)⟩

theorem sEqual (W0 : World) (p1 : Nat) (ao bo : Option Addr) (L M cap dap : Nat) (xs ys : List Nat) (hu : RowT W0 (some (p1, none, [])) (.slice ao L cap) xs) (hv : RowT W0 (some (p1, none, [])) (.slice bo M dap) ys) (hdx : Digs 18446744073709551616 xs) (hdy : Digs 18446744073709551616 ys) (hL : L ≤ 200) (hM : M ≤ 200) :
    ∀ W o1 m, Stage W0 p1 m W o1 → m.length + 1 ≤ 500 → Calls Try.prog 12 #[.pointer (some ⟨p1, 0, none⟩), .slice ao L cap, .slice bo M dap] W fun e w' => ∃ r, e = .returned r ∧ ∃ o2, Stage W0 p1 (m ++ [(1, ((max L M : Nat) : Int), 0)]) w' o2 := by
  intro W o1 m hs hm
  have lx : xs.length = L := by obtain ⟨_, _, _, e, h, _⟩ := hu.1.open; cases e; exact h.out
  have ly : ys.length = M := by obtain ⟨_, _, _, e, h, _⟩ := hv.1.open; cases e; exact h.out
  have h := lEqual o1 _ _ xs ys W (hs.trRoom.less (by omega)) (hs.row hu) (hs.row hv) hdx hdy (by omega) (by omega)
  rw [hs.ptr] at h
  refine h.mono ?_
  rintro e w' ⟨rfl, o2, d⟩
  rw [lx, ly] at d
  exact ⟨_, rfl, o2, hs.next d (by simp; omega)⟩

theorem sSelect (W0 : World) (p1 : Nat) (ao bo : Option Addr) (L M cap dap : Nat) (xs ys : List Nat) (bt : Nat) (hbt : bt < 18446744073709551616) (hu : RowT W0 (some (p1, none, [])) (.slice ao L cap) xs) (hv : RowT W0 (some (p1, none, [])) (.slice bo M dap) ys) (hdx : Digs 18446744073709551616 xs) (hdy : Digs 18446744073709551616 ys) (hL : L ≤ 200) (hM : M ≤ 200) :
    ∀ W o1 m, Stage W0 p1 m W o1 → m.length + 1 ≤ 500 → Calls Try.prog 17 #[.pointer (some ⟨p1, 0, none⟩), .int .u64 (bt : Nat), .slice ao L cap, .slice bo M dap] W fun e w' => ∃ r, e = .returned r ∧ ∃ o2, Stage W0 p1 (m ++ [(1, ((max L M : Nat) : Int), 0)]) w' o2 := by
  intro W o1 m hs hm
  have lx : xs.length = L := by obtain ⟨_, _, _, e, h, _⟩ := hu.1.open; cases e; exact h.out
  have ly : ys.length = M := by obtain ⟨_, _, _, e, h, _⟩ := hv.1.open; cases e; exact h.out
  have h := lSelect o1 bt hbt _ _ xs ys W (hs.trRoom.less (by omega)) (hs.row hu) (hs.row hv) hdx hdy (by omega) (by omega)
  rw [hs.ptr] at h
  refine h.mono ?_
  rintro e w' ⟨v, rfl, _, o2, d⟩
  rw [lx, ly] at d
  exact ⟨_, rfl, o2, hs.next d (by simp; omega)⟩

theorem sAddIf (W0 : World) (p1 : Nat) (ao bo : Option Addr) (L M cap dap : Nat) (xs ys : List Nat) (bt : Nat) (hbt : bt < 18446744073709551616) (hu : RowT W0 (some (p1, none, [])) (.slice ao L cap) xs) (hv : RowT W0 (some (p1, none, [])) (.slice bo M dap) ys) (hdx : Digs 18446744073709551616 xs) (hdy : Digs 18446744073709551616 ys) (hL : L ≤ 200) (hM : M ≤ 200) :
    ∀ W o1 m, Stage W0 p1 m W o1 → m.length + 1 ≤ 500 → Calls Try.prog 18 #[.pointer (some ⟨p1, 0, none⟩), .int .u64 (bt : Nat), .slice ao L cap, .slice bo M dap] W fun e w' => ∃ r, e = .returned r ∧ ∃ o2, Stage W0 p1 (m ++ [(1, ((max L M : Nat) : Int), 0)]) w' o2 := by
  intro W o1 m hs hm
  have lx : xs.length = L := by obtain ⟨_, _, _, e, h, _⟩ := hu.1.open; cases e; exact h.out
  have ly : ys.length = M := by obtain ⟨_, _, _, e, h, _⟩ := hv.1.open; cases e; exact h.out
  have h := lAddIf o1 bt hbt _ _ xs ys W (hs.trRoom.less (by omega)) (hs.row hu) (hs.row hv) hdx hdy (by omega) (by omega)
  rw [hs.ptr] at h
  refine h.mono ?_
  rintro e w' ⟨v, rfl, _, o2, d⟩
  rw [lx, ly] at d
  exact ⟨_, rfl, o2, hs.next d (by simp; omega)⟩

theorem sSubIf (W0 : World) (p1 : Nat) (ao bo : Option Addr) (L M cap dap : Nat) (xs ys : List Nat) (bt : Nat) (hbt : bt < 18446744073709551616) (hu : RowT W0 (some (p1, none, [])) (.slice ao L cap) xs) (hv : RowT W0 (some (p1, none, [])) (.slice bo M dap) ys) (hdx : Digs 18446744073709551616 xs) (hdy : Digs 18446744073709551616 ys) (hL : L ≤ 200) (hM : M ≤ 200) :
    ∀ W o1 m, Stage W0 p1 m W o1 → m.length + 1 ≤ 500 → Calls Try.prog 19 #[.pointer (some ⟨p1, 0, none⟩), .int .u64 (bt : Nat), .slice ao L cap, .slice bo M dap] W fun e w' => ∃ r, e = .returned r ∧ ∃ o2, Stage W0 p1 (m ++ [(1, ((max L M : Nat) : Int), 0)]) w' o2 := by
  intro W o1 m hs hm
  have lx : xs.length = L := by obtain ⟨_, _, _, e, h, _⟩ := hu.1.open; cases e; exact h.out
  have ly : ys.length = M := by obtain ⟨_, _, _, e, h, _⟩ := hv.1.open; cases e; exact h.out
  have h := lSubIf o1 bt hbt _ _ xs ys W (hs.trRoom.less (by omega)) (hs.row hu) (hs.row hv) hdx hdy (by omega) (by omega)
  rw [hs.ptr] at h
  refine h.mono ?_
  rintro e w' ⟨v, rfl, _, o2, d⟩
  rw [lx, ly] at d
  exact ⟨_, rfl, o2, hs.next d (by simp; omega)⟩

theorem sZero (W0 : World) (p1 : Nat) (ao : Option Addr) (L cap : Nat) (xs : List Nat) (hu : RowT W0 (some (p1, none, [])) (.slice ao L cap) xs) (hdx : Digs 18446744073709551616 xs) (hL : L ≤ 200) :
    ∀ W o1 m, Stage W0 p1 m W o1 → m.length + 1 ≤ 500 → Calls Try.prog 20 #[.pointer (some ⟨p1, 0, none⟩), .slice ao L cap] W fun e w' => ∃ r, e = .returned r ∧ ∃ o2, Stage W0 p1 (m ++ [(1, ((L : Nat) : Int), 0)]) w' o2 := by
  intro W o1 m hs hm
  have lx : xs.length = L := by obtain ⟨_, _, _, e, h, _⟩ := hu.1.open; cases e; exact h.out
  have h := lZero o1 _ xs W (hs.trRoom.less (by omega)) (hs.row hu) hdx (by omega)
  rw [hs.ptr] at h
  refine h.mono ?_
  rintro e w' ⟨rfl, o2, d⟩
  rw [lx] at d
  exact ⟨_, rfl, o2, hs.next d (by simp; omega)⟩

theorem sLeft (W0 : World) (p1 : Nat) (ao : Option Addr) (L cap : Nat) (xs : List Nat) (bt : Nat) (hbt : bt < 18446744073709551616) (hu : RowT W0 (some (p1, none, [])) (.slice ao L cap) xs) (hdx : Digs 18446744073709551616 xs) (hL : L ≤ 200) :
    ∀ W o1 m, Stage W0 p1 m W o1 → m.length + 1 ≤ 500 → Calls Try.prog 10 #[.pointer (some ⟨p1, 0, none⟩), .slice ao L cap, .int .u64 (bt : Nat)] W fun e w' => ∃ r, e = .returned r ∧ ∃ o2, Stage W0 p1 (m ++ [(1, ((L : Nat) : Int), 0)]) w' o2 := by
  intro W o1 m hs hm
  have lx : xs.length = L := by obtain ⟨_, _, _, e, h, _⟩ := hu.1.open; cases e; exact h.out
  have h := lLeft o1 _ xs bt hbt W (hs.trRoom.less (by omega)) (hs.row hu) hdx (by omega)
  rw [hs.ptr] at h
  refine h.mono ?_
  rintro e w' ⟨v, rfl, _, o2, d⟩
  rw [lx] at d
  exact ⟨_, rfl, o2, hs.next d (by simp; omega)⟩

theorem sRight (W0 : World) (p1 : Nat) (ao : Option Addr) (L cap : Nat) (xs : List Nat) (bt : Nat) (hbt : bt < 18446744073709551616) (hu : RowT W0 (some (p1, none, [])) (.slice ao L cap) xs) (hdx : Digs 18446744073709551616 xs) (hL : L ≤ 200) :
    ∀ W o1 m, Stage W0 p1 m W o1 → m.length + 1 ≤ 500 → Calls Try.prog 11 #[.pointer (some ⟨p1, 0, none⟩), .slice ao L cap, .int .u64 (bt : Nat)] W fun e w' => ∃ r, e = .returned r ∧ ∃ o2, Stage W0 p1 (m ++ [(1, ((L : Nat) : Int), 0)]) w' o2 := by
  intro W o1 m hs hm
  have lx : xs.length = L := by obtain ⟨_, _, _, e, h, _⟩ := hu.1.open; cases e; exact h.out
  have h := lRight o1 _ xs bt hbt W (hs.trRoom.less (by omega)) (hs.row hu) hdx (by omega)
  rw [hs.ptr] at h
  refine h.mono ?_
  rintro e w' ⟨v, rfl, _, o2, d⟩
  rw [lx] at d
  exact ⟨_, rfl, o2, hs.next d (by simp; omega)⟩

theorem sPick (W0 : World) (p1 : Nat) (ao : Option Addr) (m0 cap : Nat) (A : Nat → Option Addr) (L C : Nat → Nat) (xss : Nat → List Nat) (i : Nat) (hi : i < 18446744073709551616) (hs0 : Slots W0 ao m0 A L C) (hap : 0 < m0 → ∀ a, ao = some a → a.block ≠ p1) (hr : ∀ p, p < m0 → RowT W0 (some (p1, none, [])) (.slice (A p) (L p) (C p)) (xss p)) (hd : ∀ p, p < m0 → Digs 18446744073709551616 (xss p)) (hL : ∀ p, p < m0 → L p ≤ 200) (hm0 : m0 ≤ 40) :
    ∀ W o1 m, Stage W0 p1 m W o1 → m.length + 40 ≤ 500 → Calls Try.prog 21 #[.pointer (some ⟨p1, 0, none⟩), .slice ao m0 cap, .int .u64 (i : Nat)] W fun e w' => ∃ r, e = .returned r ∧ ∃ o2, Stage W0 p1 (m ++ List.replicate m0 (1, ((maxOf L m0 : Nat) : Int), 0)) w' o2 := by
  intro W o1 m hs hm
  have hf : 0 < m0 → ∀ a, ao = some a → ¬ trFoot (some (p1, none, [])) a.block := fun h a e f => by
    rcases f with f | f
    · exact hap h a e f
    · cases f
  have h0 : 0 < m0 → ∀ a, ao = some a → a.block < W0.heap.size := fun h a e => by
    obtain ⟨b, off, e2, hc⟩ := hs0 0 h
    rw [e] at e2
    cases e2
    exact World.block_lt_of_cell? W0 _ hc
  have hS : Slots W ao m0 A L C := by
    by_cases h : 0 < m0
    · exact hs0.did hs.did (hf h)
    · intro i hi; omega
  have h := lPick o1 ao m0 cap A L C xss i hi W (hs.trRoom.less (by omega)) hS (fun h a e f => hf h a e (hs.did.foot (h0 h a e) f)) (fun p hp => hs.row (hr p hp)) hd (fun p hp => by have := hL p hp; omega) (by omega)
  rw [hs.ptr] at h
  refine h.mono ?_
  rintro e w' ⟨v, rfl, _, o2, d⟩
  exact ⟨_, rfl, o2, hs.next d (by simp; omega)⟩

theorem sSpan (W0 : World) (p1 : Nat) (n : Int) : ∀ W o1 m, Stage W0 p1 m W o1 → m.length + 1 ≤ 500 → Calls Try.prog 22 #[.pointer (some ⟨p1, 0, none⟩), .int .i64 n] W fun e w' => e = .returned (.tuple #[]) ∧ ∃ o2, Stage W0 p1 (m ++ [(1, n, 0)]) w' o2 := by
  intro W o1 m hs hm
  have h := tSpanDid o1 n W hs.trRoom.1
  rw [hs.ptr] at h
  refine h.mono ?_
  rintro e w' ⟨rfl, o2, d⟩
  exact ⟨rfl, o2, hs.next d (by simp; omega)⟩

theorem sameB_self (l : List Ev) : sameB l l = true := by simp [sameB]

end Go.Proofs.Ytnjmckfkfkalgab
