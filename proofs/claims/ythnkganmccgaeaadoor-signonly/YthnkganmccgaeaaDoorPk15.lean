/- Put together of: Shx2 Shx3. -/
import Derived.Test.YthnkganmccgaeaaDoorPk14
import Derived.BigRegion

/- Package sha256: shifter and turner; the numbers of a block's words, of choice and majority. -/
namespace Go.Proofs.YthnkganmccgaeaaDoor
open Go.RowKit

set_option maxHeartbeats 1000000 in
/-- shifter's closure. -/
theorem hShift (x n1 n2 n3 b : Nat) (hx : x < 4294967296) (h1 : 0 < n1 ∧ n1 < 32) (h2 : 0 < n2 ∧ n2 < 32) (h3 : n3 < 32) (w : World) (hc : Cnt3 w b n1 n2 n3) :
    Calls Tryd.prog 60 #[.int .u32 (x : Nat), .pointer (some ⟨b, 0, none⟩), .pointer (some ⟨b + 1, 0, none⟩), .pointer (some ⟨b + 1 + 1, 0, none⟩)] w fun e w' => e = .returned (.int .u32 ((rot32 x n1 ^^^ rot32 x n2 ^^^ x / 2 ^ n3 : Nat) : Int)) ∧ Kept Nought w w' := by
  obtain ⟨c1, c2, c3⟩ := hc
  have hxx := xor3 (rot32_lt x n1 hx) (rot32_lt x n2 hx) (Nat.lt_of_le_of_lt (Nat.div_le_self x (2 ^ n3)) hx)
  rw [show ((x / 2 ^ n3 : Nat) : Int) = (x : Int) / 2 ^ n3 by simp] at hxx
  have J1 : Hid (∀ W, Calls Tryd.prog 59 #[.int .u32 (x : Nat), .int .i64 (n1 : Int)] W fun e w' => e = .returned (.int .u32 (rot32 x n1 : Nat)) ∧ w' = W) := fun W => hRight x n1 hx h1.1 h1.2 W
  have J2 : Hid (∀ W, Calls Tryd.prog 59 #[.int .u32 (x : Nat), .int .i64 (n2 : Int)] W fun e w' => e = .returned (.int .u32 (rot32 x n2 : Nat)) ∧ w' = W) := fun W => hRight x n2 hx h2.1 h2.2 W
  generalize rot32 x n1 = r1 at *
  generalize rot32 x n2 = r2 at *
  generalize (r1 ^^^ r2 ^^^ x / 2 ^ n3) = z at *
  have g0 : (0 : Int) ≤ (n3 : Int) := by omega
  clear h1 h2
  go_enter Tryd.func60, Tryd.ntmps60
  go_wp2_with fail
  go_region_held3 (fun w' => w'.cell? ⟨b, 0, none⟩ = some (.int .i64 (n1 : Int)) ∧ w'.cell? ⟨b + 1, 0, none⟩ = some (.int .i64 (n2 : Int)) ∧ w'.cell? ⟨b + 1 + 1, 0, none⟩ = some (.int .i64 (n3 : Int)))
    (((try dsimp only); (repeat' apply And.intro) <;> first | (go_keep; done) | assumption))
    (first
    | (go_at_call_of 59 (Value.int IntKind.i64 (n1 : Int)); refine (J1.out _).mono ?_; rintro e w9 ⟨rfl, rfl⟩)
    | (go_at_call_of 59 (Value.int IntKind.i64 (n2 : Int)); refine (J2.out _).mono ?_; rintro e w9 ⟨rfl, rfl⟩))
  all_goals
    go_wp2_with fail
    go_ret
    exact ⟨rfl, (Kept.refl _ _).drew⟩

theorem cnt3_new (w : World) (n1 n2 n3 : Nat) : Cnt3 (((w.alloc (.cells #[.int .i64 (n1 : Int)] 3)).alloc (.cells #[.int .i64 (n2 : Int)] 3)).alloc (.cells #[.int .i64 (n3 : Int)] 3)) w.heap.size n1 n2 n3 := by
  have e2 := heap_alloc_new (w.alloc (.cells #[.int .i64 (n1 : Int)] 3)) (.cells #[.int .i64 (n2 : Int)] 3)
  have e3 := heap_alloc_new ((w.alloc (.cells #[.int .i64 (n1 : Int)] 3)).alloc (.cells #[.int .i64 (n2 : Int)] 3)) (.cells #[.int .i64 (n3 : Int)] 3)
  rw [show (w.alloc (.cells #[.int .i64 (n1 : Int)] 3)).heap.size = w.heap.size + 1 by simp] at e2
  rw [show ((w.alloc (.cells #[.int .i64 (n1 : Int)] 3)).alloc (.cells #[.int .i64 (n2 : Int)] 3)).heap.size = w.heap.size + 1 + 1 by simp] at e3
  exact ⟨by rw [cell_of_row _ _ 0 _ _ _ (heapAt_alloc (heapAt_alloc (heap_alloc_new w _)))]; rfl, by rw [cell_of_row _ _ 0 _ _ _ (heapAt_alloc e2)]; rfl, by rw [cell_of_row _ _ 0 _ _ _ e3]; rfl⟩

/-- turner. -/
theorem hTurner (n1 n2 n3 : Nat) (w : World) :
    Calls Tryd.prog 54 #[.int .i64 (n1 : Int), .int .i64 (n2 : Int), .int .i64 (n3 : Int)] w fun e w' => e = .returned (.func (.func 58) #[] #[.pointer (some ⟨w.heap.size, 0, none⟩), .pointer (some ⟨w.heap.size + 1, 0, none⟩), .pointer (some ⟨w.heap.size + 1 + 1, 0, none⟩)]) ∧ Cnt3 w' w.heap.size n1 n2 n3 ∧ Kept Nought w w' := by
  have h := cnt3_new w n1 n2 n3
  have k : Kept Nought w (((w.alloc (.cells #[.int .i64 (n1 : Int)] 3)).alloc (.cells #[.int .i64 (n2 : Int)] 3)).alloc (.cells #[.int .i64 (n3 : Int)] 3)) := (((Kept.refl Nought w).alloc _).alloc _).alloc _
  have H := toHid h
  have HK := toHid k
  clear h k
  go_enter Tryd.func54, Tryd.ntmps54
  go_wp2
  go_ret
  exact ⟨rfl, H.out, HK.out⟩

/-- shifter. -/
theorem hShifter (n1 n2 n3 : Nat) (w : World) :
    Calls Tryd.prog 55 #[.int .i64 (n1 : Int), .int .i64 (n2 : Int), .int .i64 (n3 : Int)] w fun e w' => e = .returned (.func (.func 60) #[] #[.pointer (some ⟨w.heap.size, 0, none⟩), .pointer (some ⟨w.heap.size + 1, 0, none⟩), .pointer (some ⟨w.heap.size + 1 + 1, 0, none⟩)]) ∧ Cnt3 w' w.heap.size n1 n2 n3 ∧ Kept Nought w w' := by
  have h := cnt3_new w n1 n2 n3
  have k : Kept Nought w (((w.alloc (.cells #[.int .i64 (n1 : Int)] 3)).alloc (.cells #[.int .i64 (n2 : Int)] 3)).alloc (.cells #[.int .i64 (n3 : Int)] 3)) := (((Kept.refl Nought w).alloc _).alloc _).alloc _
  have H := toHid h
  have HK := toHid k
  clear h k
  go_enter Tryd.func55, Tryd.ntmps55
  go_wp2
  go_ret
  exact ⟨rfl, H.out, HK.out⟩

/-- Choice and majority by 'or': the same bits. -/
theorem ch_or {e f g : Nat} (he : e < 4294967296) : (e &&& f) ||| ((4294967295 ^^^ e) &&& g) = chN e f g := by
  unfold chN
  apply Nat.eq_of_testBit_eq
  intro i
  simp only [Nat.testBit_or, Nat.testBit_xor, Nat.testBit_and]
  by_cases hi : i < 32
  · have hm : Nat.testBit 4294967295 i = true := by
      have := Nat.testBit_two_pow_sub_one 32 i
      simpa [hi] using this
    rw [hm]
    cases e.testBit i <;> cases f.testBit i <;> cases g.testBit i <;> rfl
  · have h1 : e.testBit i = false := Nat.testBit_lt_two_pow (Nat.lt_of_lt_of_le he (Nat.pow_le_pow_right (n := 2) (by omega) (by omega : 32 ≤ i)))
    rw [h1]
    cases Nat.testBit 4294967295 i <;> cases f.testBit i <;> cases g.testBit i <;> rfl

theorem maj_or (a b c : Nat) : (a &&& b) ||| (a &&& c) ||| (b &&& c) = majN a b c := by
  unfold majN
  apply Nat.eq_of_testBit_eq
  intro i
  simp only [Nat.testBit_or, Nat.testBit_xor, Nat.testBit_and]
  cases a.testBit i <;> cases b.testBit i <;> cases c.testBit i <;> rfl

theorem ch_bitsO {e f g : Nat} (he : e < 4294967296) (hf : f < 4294967296) (hg : g < 4294967296) : bits .or .u32 (bits .and .u32 (e : Int) (f : Int)) (bits .and .u32 (bits .xor .u32 IntKind.u32.max (e : Int)) (g : Int)) = ((chN e f g : Nat) : Int) := by
  have h := u32_xor_nat 4294967295 e (by omega) he
  rw [show IntKind.u32.max = ((4294967295 : Nat) : Int) from rfl, h, u32_and_nat e f he hf, u32_and_nat _ g (xor32 (by omega) he) hg, u32_or_nat _ _ (and32 hf) (and32 hg), ch_or he]

theorem maj_bitsO {a b c : Nat} (ha : a < 4294967296) (hb : b < 4294967296) (hc : c < 4294967296) : bits .or .u32 (bits .or .u32 (bits .and .u32 (a : Int) (b : Int)) (bits .and .u32 (a : Int) (c : Int))) (bits .and .u32 (b : Int) (c : Int)) = ((majN a b c : Nat) : Int) := by
  rw [u32_and_nat a b ha hb, u32_and_nat a c ha hc, u32_and_nat b c hb hc, u32_or_nat _ _ (and32 hb) (and32 hc), u32_or_nat _ _ (or32 (and32 hb) (and32 hc)) (and32 hc), maj_or]

/-- A word of m bytes, the highest ahead. -/
def pwN (bs : List Nat) (q : Nat) : Nat → Nat
  | 0 => 0
  | m + 1 => pwN bs q m * 256 + bs.getD (4 * q + m) 0

theorem pwN_lt {bs : List Nat} (hd : Digs 256 bs) (q : Nat) : ∀ m, pwN bs q m < 256 ^ m
  | 0 => by simp [pwN]
  | m + 1 => by
    have h := pwN_lt hd q m
    have hb : bs.getD (4 * q + m) 0 < 256 := hd.getD (by omega) _
    unfold pwN
    rw [Nat.pow_succ]
    omega

/-- The words while a block's bytes are taken in. -/
def exN (bs : List Nat) (i : Nat) : List Nat := (List.range 64).map fun q => pwN bs q (min 4 (i - 4 * q))

theorem exN_length (bs : List Nat) (i : Nat) : (exN bs i).length = 64 := by unfold exN; simp

theorem exN_get {bs : List Nat} {i q : Nat} (h : q < (exN bs i).length) : (exN bs i)[q] = pwN bs q (min 4 (i - 4 * q)) := by simp [exN]

theorem exN_at {bs : List Nat} {i : Nat} (hi : i < 64) : (exN bs i).getD (i / 4) 0 = pwN bs (i / 4) (i % 4) := by
  unfold exN
  rw [List.getD_eq_getElem?_getD, List.getElem?_map, List.getElem?_range (by omega)]
  show pwN bs (i / 4) (min 4 (i - 4 * (i / 4))) = _
  congr 1
  omega

theorem exN_set {bs : List Nat} {i z : Nat} (hz : z = pwN bs (i / 4) (i % 4) * 256 + bs.getD i 0) : (exN bs i).set (i / 4) z = exN bs (i + 1) := by
  apply List.ext_getElem
  · simp [exN]
  · intro q h1 h2
    rw [List.getElem_set, exN_get, exN_get]
    split
    · next h =>
      subst h
      rw [hz, show min 4 (i + 1 - 4 * (i / 4)) = i % 4 + 1 by omega]
      show _ = pwN bs (i / 4) (i % 4) * 256 + bs.getD (4 * (i / 4) + i % 4) 0
      rw [show 4 * (i / 4) + i % 4 = i by omega]
    · next h =>
      congr 1
      omega

theorem w4_sum {a b c d : Nat} (hb : b < 256) (hc : c < 256) (hd : d < 256) : w4N a b c d = ((a * 256 + b) * 256 + c) * 256 + d := by
  unfold w4N
  have h1 := Nat.two_pow_add_eq_or_of_lt (i := 24) (b := b * 65536) (by omega) a
  have h2 := Nat.two_pow_add_eq_or_of_lt (i := 16) (b := c * 256) (by omega) (a * 256 + b)
  have h3 := Nat.two_pow_add_eq_or_of_lt (i := 8) (b := d) (by omega) ((a * 256 + b) * 256 + c)
  rw [show a * 16777216 = 2 ^ 24 * a by omega, ← h1, show 2 ^ 24 * a + b * 65536 = 2 ^ 16 * (a * 256 + b) by omega, ← h2, show 2 ^ 16 * (a * 256 + b) + c * 256 = 2 ^ 8 * ((a * 256 + b) * 256 + c) by omega, ← h3]
  omega

theorem pw_four (bs : List Nat) (q : Nat) : pwN bs q 4 = ((bs.getD (4 * q) 0 * 256 + bs.getD (4 * q + 1) 0) * 256 + bs.getD (4 * q + 2) 0) * 256 + bs.getD (4 * q + 3) 0 := by
  show (((0 * 256 + bs.getD (4 * q + 0) 0) * 256 + bs.getD (4 * q + 1) 0) * 256 + bs.getD (4 * q + 2) 0) * 256 + bs.getD (4 * q + 3) 0 = _
  rw [Nat.zero_mul, Nat.zero_add, Nat.add_zero]

theorem wl_first {bs : List Nat} (hd : Digs 256 bs) : ∀ t, t ≤ 16 → wlN bs t = (List.range t).map fun q => pwN bs q 4
  | 0, _ => rfl
  | t + 1, ht => by
    rw [List.range_succ, List.map_append, ← wl_first hd t (by omega)]
    show wlN bs t ++ [_] = _
    rw [if_pos (by omega), w4_sum (hd.getD (by omega) _) (hd.getD (by omega) _) (hd.getD (by omega) _)]
    rw [List.map_cons, List.map_nil, pw_four]

theorem exN_end {bs : List Nat} (hd : Digs 256 bs) : exN bs 64 = wlN bs 16 ++ List.replicate 48 0 := by
  rw [wl_first hd 16 (Nat.le_refl _)]
  apply List.ext_getElem
  · simp [exN]
  · intro q h1 h2
    have hq : q < 64 := by simpa [exN] using h1
    rw [exN_get, List.getElem_append]
    split
    · next h =>
      have hq16 : q < 16 := by simpa using h
      rw [List.getElem_map, List.getElem_range, show min 4 (64 - 4 * q) = 4 by omega]
    · next h =>
      have hq16 : ¬ q < 16 := by simpa using h
      rw [List.getElem_replicate, show min 4 (64 - 4 * q) = 0 by omega]
      rfl

theorem exN_zero (bs : List Nat) : exN bs 0 = List.replicate 64 0 := by
  apply List.ext_getElem
  · simp [exN]
  · intro q h1 h2
    rw [exN_get, List.getElem_replicate, show min 4 (0 - 4 * q) = 0 by omega]
    rfl

end Go.Proofs.YthnkganmccgaeaaDoor


/- Package sha256: expand: a block's words. -/
namespace Go.Proofs.YthnkganmccgaeaaDoor
open Go.RowKit

theorem Cnt3.other {w w' : World} {p b n1 n2 n3 : Nat} (h : Cnt3 w b n1 n2 n3) (k : Kept (fun x => x = p) w w') (hb : p < b) : Cnt3 w' b n1 n2 n3 := ⟨cell_other h.c1 k (by omega), cell_other h.c2 k (by omega), cell_other h.c3 k (by omega)⟩

set_option maxRecDepth 40000 in
set_option maxHeartbeats 4000000 in
/-- expand of 64 bytes. -/
theorem hExpand (ao : Option Addr) (cap : Nat) (bs : List Nat) (w : World) (hb : Row .u8 w (.slice ao 64 cap) bs) (hbd : Digs 256 bs) :
    Calls Tryd.prog 52 #[.slice ao 64 cap] w fun e w' => e = .returned (.agg ((wlN bs 64).map fun z => Value.int .u32 (z : Nat)).toArray) ∧ Kept Nought w w' := by
  obtain ⟨_, _, _, e1, hLb, _, _, _, hnum⟩ := hb.open
  cases e1
  obtain ⟨bb, off, e1, _⟩ := hnum 0 (by omega)
  cases e1
  have hne : bs ≠ [] := fun e => by have := hLb.out; rw [e] at this; simp at this
  have hbl : bb < w.heap.size := hb.lt hne bb rfl
  obtain ⟨W, hW⟩ : ∃ W, W = (w.alloc (.cells ((List.replicate 64 0).map fun z : Nat => Value.int .u32 (z : Int)).toArray 65)).alloc (.cells ((List.replicate 64 0).map fun z : Nat => Value.int .u32 (z : Int)).toArray 65) := ⟨_, rfl⟩
  have k0 : Kept Nought w W := by rw [hW]; exact ((Kept.refl Nought w).alloc _).alloc _
  have hO0 : Arr .u32 65 W w.heap.size (List.replicate 64 0) := by rw [hW]; exact heapAt_alloc (heap_alloc_new w _)
  have hA0 : Arr .u32 65 W (w.heap.size + 1) (List.replicate 64 0) := by
    rw [hW]
    have := heap_alloc_new (w.alloc (.cells ((List.replicate 64 0).map fun z : Nat => Value.int .u32 (z : Int)).toArray 65)) (.cells ((List.replicate 64 0).map fun z : Nat => Value.int .u32 (z : Int)).toArray 65)
    rwa [show (w.alloc (.cells ((List.replicate 64 0).map fun z : Nat => Value.int .u32 (z : Int)).toArray 65)).heap.size = w.heap.size + 1 by simp] at this
  have JB : Hid (∀ wr, Kept (fun b => b = w.heap.size + 1) W wr → ∀ i, i < 64 → wr.cell? ⟨bb, off + i, none⟩ = some (.int .u8 (bs.getD i 0 : Nat))) := fun wr k i hi => by
    have hr := (hb.grew k0).kept k (fun b hb' e => by
      cases hb'
      have e' : bb = w.heap.size + 1 := e
      omega)
    obtain ⟨_, _, _, e1, _, _, _, _, hn⟩ := hr.open
    cases e1
    obtain ⟨_, _, e2, hc⟩ := hn i hi
    cases e2
    exact hc
  have HBD := toHid hbd
  have HO0 := toHid hO0
  have HA0 := toHid hA0
  have HK0 := toHid k0
  have HW : Hid (W = (w.alloc (.cells (#[.int .u32 0, .int .u32 0, .int .u32 0, .int .u32 0, .int .u32 0, .int .u32 0, .int .u32 0, .int .u32 0, .int .u32 0, .int .u32 0, .int .u32 0, .int .u32 0, .int .u32 0, .int .u32 0, .int .u32 0, .int .u32 0, .int .u32 0, .int .u32 0, .int .u32 0, .int .u32 0, .int .u32 0, .int .u32 0, .int .u32 0, .int .u32 0, .int .u32 0, .int .u32 0, .int .u32 0, .int .u32 0, .int .u32 0, .int .u32 0, .int .u32 0, .int .u32 0, .int .u32 0, .int .u32 0, .int .u32 0, .int .u32 0, .int .u32 0, .int .u32 0, .int .u32 0, .int .u32 0, .int .u32 0, .int .u32 0, .int .u32 0, .int .u32 0, .int .u32 0, .int .u32 0, .int .u32 0, .int .u32 0, .int .u32 0, .int .u32 0, .int .u32 0, .int .u32 0, .int .u32 0, .int .u32 0, .int .u32 0, .int .u32 0, .int .u32 0, .int .u32 0, .int .u32 0, .int .u32 0, .int .u32 0, .int .u32 0, .int .u32 0, .int .u32 0] : Array Value) 65)).alloc (.cells (#[.int .u32 0, .int .u32 0, .int .u32 0, .int .u32 0, .int .u32 0, .int .u32 0, .int .u32 0, .int .u32 0, .int .u32 0, .int .u32 0, .int .u32 0, .int .u32 0, .int .u32 0, .int .u32 0, .int .u32 0, .int .u32 0, .int .u32 0, .int .u32 0, .int .u32 0, .int .u32 0, .int .u32 0, .int .u32 0, .int .u32 0, .int .u32 0, .int .u32 0, .int .u32 0, .int .u32 0, .int .u32 0, .int .u32 0, .int .u32 0, .int .u32 0, .int .u32 0, .int .u32 0, .int .u32 0, .int .u32 0, .int .u32 0, .int .u32 0, .int .u32 0, .int .u32 0, .int .u32 0, .int .u32 0, .int .u32 0, .int .u32 0, .int .u32 0, .int .u32 0, .int .u32 0, .int .u32 0, .int .u32 0, .int .u32 0, .int .u32 0, .int .u32 0, .int .u32 0, .int .u32 0, .int .u32 0, .int .u32 0, .int .u32 0, .int .u32 0, .int .u32 0, .int .u32 0, .int .u32 0, .int .u32 0, .int .u32 0, .int .u32 0, .int .u32 0] : Array Value) 65)) := hW
  clear hW hO0 hA0 k0 hb hbd hnum hLb hne
  go_enter Tryd.func52, Tryd.ntmps52
  go_wp2_with fail
  rw [← HW.out]
  go_loopw [8] (fun i wr => ∃ t : Nat, t ≤ 64 ∧ i = .int .i64 (t : Int) ∧ Hid (Arr .u32 65 wr (w.heap.size + 1) (exN bs t)) ∧ Hid (Kept (fun b => b = w.heap.size + 1) W wr)) (fun i _ => 64 - (intOf i).toNat)
  case atStart => exact ⟨0, by omega, rfl, by unfold Hid; rw [exN_zero]; exact HA0.out, Kept.refl _ _⟩
  case round =>
    obtain ⟨t, ht, rfl, HA, HK⟩ := hrel
    by_cases ht6 : t < 64
    · have g1 : (t : Int) < 64 := by omega
      have g0 : (0 : Int) ≤ (t : Int) := by omega
      obtain ⟨q, hq⟩ : ∃ q, q = t / 4 := ⟨_, rfl⟩
      have gq : (t : Int).tdiv 4 = (q : Int) := by rw [Int.tdiv_eq_ediv_of_nonneg g0]; omega
      have gq' : (t : Int) / 4 = (q : Int) := by omega
      have gq0 : (0 : Int) ≤ (q : Int) := by omega
      have gq1 : (q : Int) < 64 := by omega
      have hct := HA.out.cell q (by rw [exN_length]; omega)
      have hft := HA.out.free q
      rw [hq, exN_at ht6, ← hq] at hct
      have cb := JB.out wr HK.out t ht6
      have x0 : bs.getD t 0 < 256 := HBD.out.getD (by omega) _
      have x1 : pwN bs q (t % 4) < 16777216 := by
        have := pwN_lt HBD.out q (t % 4)
        have h3 : 256 ^ (t % 4) ≤ 256 ^ 3 := Nat.pow_le_pow_right (by omega) (by omega)
        omega
      obtain ⟨z, hz⟩ : ∃ z, z = pwN bs q (t % 4) * 256 + bs.getD t 0 := ⟨_, rfl⟩
      have HN : Hid ((exN bs t).set q z = exN bs (t + 1)) := by rw [hq]; exact exN_set (by rw [← hq]; exact hz)
      generalize bs.getD t 0 = y at *
      generalize pwN bs q (t % 4) = p at *
      have hw : bits .or .u32 ((p : Int) * 256) (y : Int) = (z : Int) := by
        have h1 := u32_or_nat (p * 256) y (by omega) (by omega)
        have h2 := Nat.two_pow_add_eq_or_of_lt (i := 8) (b := y) (by omega) p
        rw [show ((p : Int) * 256) = ((p * 256 : Nat) : Int) by simp, h1, hz, show p * 256 = 2 ^ 8 * p by omega, ← h2]
      clear hz hq
      go_wp2_with fail
      go_region
      all_goals
        go_wp2_with fail
        go_roundw
        case rel => exact ⟨t + 1, by omega, by go_num, by unfold Hid; rw [← HN.out]; exact (HA.out.set q z), HK.out.next ((Kept.refl (fun b => b = w.heap.size + 1) wr).setCell ⟨w.heap.size + 1, q, none⟩ (fun _ => rfl) (.int .u32 (z : Nat))).drew (fun x _ h => h)⟩
        case measure => simp [intOf]; omega
    · have g1 : ¬ (t : Int) < 64 := by omega
      have hA := HA.out
      rw [show t = 64 by omega, exN_end HBD.out] at hA
      have hO := HO0.out.kept HK.out (by omega)
      have KW := toHid (HK0.out.next HK.out (fun x hx e => by have e' : x = w.heap.size + 1 := e; omega))
      have hsz := HK.out.size
      have hW2 : w.heap.size + 1 < wr.heap.size := lt_of_block hA
      have HOA := toHid hO
      have HAA := toHid hA
      have J1 : Hid (∀ w, Calls Tryd.prog 55 #[.int .i64 7, .int .i64 18, .int .i64 3] w fun e w' => e = .returned (.func (.func 60) #[] #[.pointer (some ⟨w.heap.size, 0, none⟩), .pointer (some ⟨w.heap.size + 1, 0, none⟩), .pointer (some ⟨w.heap.size + 1 + 1, 0, none⟩)]) ∧ Cnt3 w' w.heap.size 7 18 3 ∧ Kept Nought w w') := fun w => hShifter 7 18 3 w
      have J2 : Hid (∀ w, Calls Tryd.prog 55 #[.int .i64 17, .int .i64 19, .int .i64 10] w fun e w' => e = .returned (.func (.func 60) #[] #[.pointer (some ⟨w.heap.size, 0, none⟩), .pointer (some ⟨w.heap.size + 1, 0, none⟩), .pointer (some ⟨w.heap.size + 1 + 1, 0, none⟩)]) ∧ Cnt3 w' w.heap.size 17 19 10 ∧ Kept Nought w w') := fun w => hShifter 17 19 10 w
      clear hA hO HA HK JB HA0 HO0 HW HK0 ht hsz
      go_wp2_with fail
      refine (J1.out _).mono ?_
      rintro e w1 ⟨rfl, n1, k1⟩
      obtain ⟨B1, hB1⟩ : ∃ B1, B1 = wr.heap.size := ⟨_, rfl⟩
      rw [← hB1] at n1 ⊢
      have hB1w : w.heap.size + 1 < B1 := by omega
      have hB12 : B1 ≤ w1.heap.size := by rw [hB1]; exact k1.size
      clear hB1
      go_wp2_with fail
      refine (J2.out _).mono ?_
      rintro e w2 ⟨rfl, n2, k2⟩
      obtain ⟨B2, hB2⟩ : ∃ B2, B2 = w1.heap.size := ⟨_, rfl⟩
      rw [← hB2] at n2 ⊢
      have hB2w : w.heap.size + 1 < B2 := by omega
      clear hB2
      have N1 := toHid (n1.grew k2)
      have N2 := toHid n2
      have NB1 : Hid (∀ wr' w', Kept (fun b => b = w.heap.size + 1) w2 wr' → Kept Nought wr' w' → Cnt3 w' B1 7 18 3) := fun wr' w' k k' => (N1.out.other k hB1w).grew k'
      have NB2 : Hid (∀ wr' w', Kept (fun b => b = w.heap.size + 1) w2 wr' → Kept Nought wr' w' → Cnt3 w' B2 17 19 10) := fun wr' w' k k' => (N2.out.other k hB2w).grew k'
      have HO1 := toHid (HOA.out.grew (k1.trans k2))
      have HA1 := toHid (HAA.out.grew (k1.trans k2))
      have KW1 := toHid (KW.out.trans (k1.trans k2))
      clear J1 J2 n1 n2 k1 k2 HOA HAA KW
      go_wp2_with fail
      go_loopw [7] (fun i wr => ∃ t : Nat, 16 ≤ t ∧ t ≤ 64 ∧ i = .int .i64 (t : Int) ∧ Hid (Arr .u32 65 wr (w.heap.size + 1) (wlN bs t ++ List.replicate (64 - t) 0)) ∧ Hid (Kept (fun b => b = w.heap.size + 1) w2 wr)) (fun i _ => 64 - (intOf i).toNat)
      case atStart => exact ⟨16, by omega, by omega, rfl, HA1.out, Kept.refl _ _⟩
      case round =>
        obtain ⟨t, ht16, ht, rfl, HA, HK⟩ := hrel
        by_cases ht6 : t < 64
        · have g1 : (t : Int) < 64 := by omega
          have g0 : (0 : Int) ≤ (t : Int) := by omega
          obtain ⟨i16, hi16⟩ : ∃ j, j = t - 16 := ⟨_, rfl⟩
          obtain ⟨i15, hi15⟩ : ∃ j, j = t - 15 := ⟨_, rfl⟩
          obtain ⟨i7, hi7⟩ : ∃ j, j = t - 7 := ⟨_, rfl⟩
          obtain ⟨i2, hi2⟩ : ∃ j, j = t - 2 := ⟨_, rfl⟩
          have w16 : IntKind.i64.wrap ((t : Int) - 16) = (i16 : Int) := by rw [IntKind.wrap_i64]; omega
          have w15 : IntKind.i64.wrap ((t : Int) - 15) = (i15 : Int) := by rw [IntKind.wrap_i64]; omega
          have w7 : IntKind.i64.wrap ((t : Int) - 7) = (i7 : Int) := by rw [IntKind.wrap_i64]; omega
          have w2' : IntKind.i64.wrap ((t : Int) - 2) = (i2 : Int) := by rw [IntKind.wrap_i64]; omega
          have b16 : (i16 : Int) < 64 := by omega
          have b15 : (i15 : Int) < 64 := by omega
          have b7 : (i7 : Int) < 64 := by omega
          have b2 : (i2 : Int) < 64 := by omega
          have n16 : ¬ i16 = t := by omega
          have n15 : ¬ i15 = t := by omega
          have n7 : ¬ i7 = t := by omega
          have n2 : ¬ i2 = t := by omega
          have hlen : (wlN bs t ++ List.replicate (64 - t) 0).length = 64 := by rw [List.length_append, wlN_length, List.length_replicate]; omega
          have hlt : ∀ i, (wlN bs t).getD i 0 < 4294967296 := fun i => (wlN_digs HBD.out t).getD (by omega) i
          obtain ⟨X, hX⟩ : ∃ X, X = (wlN bs t).getD i15 0 := ⟨_, rfl⟩
          obtain ⟨Y, hY⟩ : ∃ Y, Y = (wlN bs t).getD i2 0 := ⟨_, rfl⟩
          obtain ⟨P, hP⟩ : ∃ P, P = (wlN bs t).getD i16 0 := ⟨_, rfl⟩
          obtain ⟨Q, hQ⟩ : ∃ Q, Q = (wlN bs t).getD i7 0 := ⟨_, rfl⟩
          have lX : X < 4294967296 := by rw [hX]; exact hlt _
          have lY : Y < 4294967296 := by rw [hY]; exact hlt _
          have lP : P < 4294967296 := by rw [hP]; exact hlt _
          have lQ : Q < 4294967296 := by rw [hQ]; exact hlt _
          obtain ⟨old, hold⟩ : ∃ old, old = (wlN bs t ++ List.replicate (64 - t) 0).getD t 0 := ⟨_, rfl⟩
          have JC : Hid (∀ w', Kept Nought wr w' → (w'.cell? ⟨w.heap.size + 1, i16, none⟩ = some (.int .u32 (P : Int)) ∧ w'.cell? ⟨w.heap.size + 1, i15, none⟩ = some (.int .u32 (X : Int)) ∧ w'.cell? ⟨w.heap.size + 1, i7, none⟩ = some (.int .u32 (Q : Int)) ∧ w'.cell? ⟨w.heap.size + 1, i2, none⟩ = some (.int .u32 (Y : Int))) ∧ w'.cell? ⟨w.heap.size + 1, t, none⟩ = some (.int .u32 (old : Int)) ∧ w'.frozen? ⟨w.heap.size + 1, t, none⟩ = false) := fun w' k => by
            have hA' := HA.out.grew k
            have hcell : ∀ i, i < t → w'.cell? ⟨w.heap.size + 1, i, none⟩ = some (.int .u32 ((wlN bs t).getD i 0 : Nat)) := fun i hi => by
              rw [hA'.cell i (by omega), List.getD_eq_getElem?_getD, List.getElem?_append_left (by rw [wlN_length]; exact hi), ← List.getD_eq_getElem?_getD]
            rw [hP, hX, hQ, hY, hold]
            exact ⟨⟨hcell _ (by omega), hcell _ (by omega), hcell _ (by omega), hcell _ (by omega)⟩, hA'.cell t (by omega), hA'.free t⟩
          have JS0 : Hid (∀ w', Kept Nought wr w' → Calls Tryd.prog 60 #[.int .u32 (X : Int), .pointer (some ⟨B1, 0, none⟩), .pointer (some ⟨B1 + 1, 0, none⟩), .pointer (some ⟨B1 + 1 + 1, 0, none⟩)] w' fun e w'' => e = .returned (.int .u32 ((s0N X : Nat) : Int)) ∧ Kept Nought wr w'') := fun w' k => by
            refine (hShift X 7 18 3 B1 lX (by omega) (by omega) (by omega) w' (NB1.out wr w' HK.out k)).mono ?_
            rintro e w'' ⟨rfl, k'⟩
            exact ⟨rfl, k.trans k'⟩
          have JS1 : Hid (∀ w', Kept Nought wr w' → Calls Tryd.prog 60 #[.int .u32 (Y : Int), .pointer (some ⟨B2, 0, none⟩), .pointer (some ⟨B2 + 1, 0, none⟩), .pointer (some ⟨B2 + 1 + 1, 0, none⟩)] w' fun e w'' => e = .returned (.int .u32 ((s1N Y : Nat) : Int)) ∧ Kept Nought wr w'') := fun w' k => by
            refine (hShift Y 17 19 10 B2 lY (by omega) (by omega) (by omega) w' (NB2.out wr w' HK.out k)).mono ?_
            rintro e w'' ⟨rfl, k'⟩
            exact ⟨rfl, k.trans k'⟩
          obtain ⟨z, hz⟩ : ∃ z, z = (P + s0N X + Q + s1N Y) % 4294967296 := ⟨_, rfl⟩
          have HN : Hid ((wlN bs t ++ List.replicate (64 - t) 0).set t z = wlN bs (t + 1) ++ List.replicate (64 - (t + 1)) 0) := by
            refine wl_set ht6 ?_
            rw [if_neg (by omega), ← hi16, ← hi15, ← hi7, ← hi2, ← hX, ← hY, ← hP, ← hQ, hz]
          have l0 := s0N_lt lX
          have l1 := s1N_lt lY
          generalize s0N X = a0 at *
          generalize s1N Y = a1 at *
          have e1 : IntKind.u32.wrap ((P : Int) + (a0 : Int)) = ((P + a0) % 4294967296 : Nat) := by rw [IntKind.wrap_u32]; omega
          generalize hq1 : (P + a0) % 4294967296 = q1 at *
          have e2 : IntKind.u32.wrap ((q1 : Int) + (Q : Int)) = ((q1 + Q) % 4294967296 : Nat) := by rw [IntKind.wrap_u32]; omega
          generalize hq2 : (q1 + Q) % 4294967296 = q2 at *
          have e3 : IntKind.u32.wrap ((q2 : Int) + (a1 : Int)) = (z : Int) := by rw [IntKind.wrap_u32]; omega
          have JM : Hid (∀ w' : World, w'.cell? ⟨w.heap.size + 1, i16, none⟩ = some (.int .u32 (P : Int)) → w'.cell? ⟨w.heap.size + 1, i15, none⟩ = some (.int .u32 (X : Int)) → w'.cell? ⟨w.heap.size + 1, i7, none⟩ = some (.int .u32 (Q : Int)) → w'.cell? ⟨w.heap.size + 1, i2, none⟩ = some (.int .u32 (Y : Int)) → (w'.setCell ⟨w.heap.size + 1, t, none⟩ (.int .u32 (z : Int))).cell? ⟨w.heap.size + 1, i16, none⟩ = some (.int .u32 (P : Int)) ∧ (w'.setCell ⟨w.heap.size + 1, t, none⟩ (.int .u32 (z : Int))).cell? ⟨w.heap.size + 1, i15, none⟩ = some (.int .u32 (X : Int)) ∧ (w'.setCell ⟨w.heap.size + 1, t, none⟩ (.int .u32 (z : Int))).cell? ⟨w.heap.size + 1, i7, none⟩ = some (.int .u32 (Q : Int)) ∧ (w'.setCell ⟨w.heap.size + 1, t, none⟩ (.int .u32 (z : Int))).cell? ⟨w.heap.size + 1, i2, none⟩ = some (.int .u32 (Y : Int))) := fun w' h1 h2 h3 h4 =>
            ⟨keepC h1 (fun hh => n16 (congrArg Addr.off hh)), keepC h2 (fun hh => n15 (congrArg Addr.off hh)), keepC h3 (fun hh => n7 (congrArg Addr.off hh)), keepC h4 (fun hh => n2 (congrArg Addr.off hh))⟩
          obtain ⟨⟨d16, d15, d7, d2⟩, dt, ft⟩ := JC.out wr (Kept.refl _ _)
          clear hq1 hq2 hz hX hY hP hQ hi16 hi15 hi7 hi2 hlt hlen hold
          go_wp2_with fail
          go_region_held3 (fun w' => w'.cell? ⟨w.heap.size + 1, i16, none⟩ = some (.int .u32 (P : Int)) ∧ w'.cell? ⟨w.heap.size + 1, i15, none⟩ = some (.int .u32 (X : Int)) ∧ w'.cell? ⟨w.heap.size + 1, i7, none⟩ = some (.int .u32 (Q : Int)) ∧ w'.cell? ⟨w.heap.size + 1, i2, none⟩ = some (.int .u32 (Y : Int)))
            (((try dsimp only); (repeat' apply And.intro) <;> first | (with_reducible assumption) | (with_reducible refine keepC ?_ ?_; (with_reducible assumption); (intro hh; have := congrArg Addr.off hh; dsimp only at this; omega)) | (with_reducible refine keepDr ?_; (with_reducible assumption)) | (go_keep; done)))
            (first
            | (go_at_call_of 60 (Value.int IntKind.u32 (Y : Int)); refine (JS1.out _ ks0).mono ?_; rintro e w9 ⟨rfl, ks1⟩; obtain ⟨⟨r16, r15, r7, r2⟩, rt, rf⟩ := JC.out w9 ks1; obtain ⟨m16, m15, m7, m2⟩ := JM.out w9 r16 r15 r7 r2)
            | (go_at_call_of 60 (Value.int IntKind.u32 (X : Int)); refine (JS0.out _ ((Kept.refl Nought wr).drew)).mono ?_; rintro e w8 ⟨rfl, ks0⟩; obtain ⟨⟨p16, p15, p7, p2⟩, pt, pf⟩ := JC.out w8 ks0))
          all_goals
            go_wp2_with fail
            go_roundw
            case rel => exact ⟨t + 1, by omega, by omega, by go_num, by unfold Hid; rw [← HN.out]; exact ((HA.out.grew ks1).set t z), (HK.out.next ks1 (fun x _ f => f.elim)).next ((Kept.refl (fun b => b = w.heap.size + 1) w9).setCell ⟨w.heap.size + 1, t, none⟩ (fun _ => rfl) (.int .u32 (z : Nat))) (fun x _ h => h)⟩
            case measure => simp [intOf]; omega
        · have g1 : ¬ (t : Int) < 64 := by omega
          have hA := HA.out
          rw [show t = 64 by omega, Nat.sub_self, List.replicate_zero, List.append_nil] at hA
          have hO := HO1.out.kept HK.out (by omega)
          have KW := KW1.out.next HK.out (fun x hx e => by have e' : x = w.heap.size + 1 := e; omega)
          obtain ⟨ws, hws⟩ : ∃ ws, ws = wlN bs 64 := ⟨_, rfl⟩
          have hwl : ws.length = 64 := by rw [hws]; exact wlN_length _ _
          rw [← hws] at hA
          have HWS := toHid hws
          have hi64 : (Tryd.prog.info? 65).map (·.size) = some ((ws.map fun z => Value.int .u32 (z : Nat)).toArray).size := by
            rw [List.size_toArray, List.length_map, hwl]
            kernel_rfl
          have hsz : ((List.replicate 64 0).map fun z : Nat => Value.int .u32 (z : Int)).toArray.size = ((ws.map fun z => Value.int .u32 (z : Nat)).toArray).size := by
            rw [List.size_toArray, List.length_map, List.size_toArray, List.length_map, hwl, List.length_replicate]
          have hone : ((ws.map fun z => Value.int .u32 (z : Nat)).toArray).all (·.oneCell') = true := all_one _ _
          have hfin : Arr .u32 65 (wr.setRow w.heap.size (ws.map fun z => Value.int .u32 (z : Nat)).toArray) w.heap.size ws := setRow_heap wr w.heap.size _ _ _ _ hO
          have KF := KW.next (kept_setRow wr w.heap.size (ws.map fun z => Value.int .u32 (z : Nat)).toArray) (fun x hx e => by have e' : x = w.heap.size := e; omega)
          have HA9 := toHid hA
          have HO9 := toHid hO
          have H64 := toHid hi64
          have HSZ := toHid hsz
          have HON := toHid hone
          have HFI := toHid hfin
          have HKF := toHid KF
          clear hws hA hO hi64 hsz hone hfin KF KW HA HK HO1 HA1 KW1 NB1 NB2
          go_wp2_with (first
            | refine wpList_load_row rfl 65 _ rfl (w.heap.size + 1) rfl 65 _ (0, 0) _ HA9.out Tryd.underlying65 rfl H64.out ?_
            | refine wpList_store_row rfl 65 _ _ rfl w.heap.size _ rfl rfl 65 _ HO9.out H64.out HSZ.out HON.out ?_)
          rw [← HWS.out]
          exact bodyPost_ret (v := .agg (ws.map fun z => Value.int .u32 (z : Nat)).toArray) (results_cell_row Tryd.results52 _ _ w.heap.size 65 _ (0, 0) _ rfl HFI.out Tryd.underlying65 rfl H64.out) rfl ⟨rfl, HKF.out⟩

end Go.Proofs.YthnkganmccgaeaaDoor

