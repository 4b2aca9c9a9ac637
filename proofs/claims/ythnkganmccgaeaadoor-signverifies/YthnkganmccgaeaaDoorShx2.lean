/- Package sha256: shifter and turner; the numbers of a block's words, of choice and majority. -/
import Derived.Test.YthnkganmccgaeaaDoorShx1
namespace Go.Proofs.YthnkganmccgaeaaDoor
open Go.RowKit

set_option maxHeartbeats 1000000 in
/-- shifter's closure. -/
theorem hShift (x n1 n2 n3 b : Nat) (hx : x < 4294967296) (h1 : 0 < n1 ∧ n1 < 32) (h2 : 0 < n2 ∧ n2 < 32) (h3 : n3 < 32) (w : World) (hc : Cnt3 w b n1 n2 n3) :
    Calls Tryd.prog 60 #[.int .u32 (x : Nat), .pointer (some ⟨b, 0, none⟩), .pointer (some ⟨b + 1, 0, none⟩), .pointer (some ⟨b + 1 + 1, 0, none⟩)] w fun e w' => e = .returned (.int .u32 ((rot32 x n1 ^^^ rot32 x n2 ^^^ x / 2 ^ n3 : Nat) : Int)) ∧ Kept Nought w w' := by
  obtain ⟨c1, c2, c3⟩ := hc
  have hxx := xor3 (rot32_lt x n1 hx) (rot32_lt x n2 hx) (Nat.lt_of_le_of_lt (Nat.div_le_self x (2 ^ n3)) hx)
  rw [show ((x / 2 ^ n3 : Nat) : Int) = (x : Int) / 2 ^ n3 by simp] at hxx
  have J1 : Hid (∀ W, Calls Tryd.prog 59 #[.int .u32 (x : Nat), .int .i64 (n1 : Int)] W fun e w' => e = .returned (.int .u32 (rot32 x n1 : Nat)) ∧ w' = W) := fun W => hRight x n1 hx h1.1 h1.2 W
  have J2 : Hid (∀ W, Calls Tryd.prog 59 #[.int .u32 (x : Nat), .int .i64 (n2 : Int)] W fun e w' => e = .returned (.int .u32 (rot32 x n2 : Nat)) ∧ w' = W) := fun W => hRight x n2 hx h2.1 h2.2 W
  generalize rot32 x n1 = r1 at *
  generalize rot32 x n2 = r2 at *
  generalize (r1 ^^^ r2 ^^^ x / 2 ^ n3) = z at *
  have g0 : (0 : Int) ≤ (n3 : Int) := by omega
  clear h1 h2
  go_enter Tryd.func60, Tryd.ntmps60
  go_wp2_with fail
  go_region_held3 (fun w' => w'.cell? ⟨b, 0, none⟩ = some (.int .i64 (n1 : Int)) ∧ w'.cell? ⟨b + 1, 0, none⟩ = some (.int .i64 (n2 : Int)) ∧ w'.cell? ⟨b + 1 + 1, 0, none⟩ = some (.int .i64 (n3 : Int)))
    (((try dsimp only); (repeat' apply And.intro) <;> first | (go_keep; done) | assumption))
    (first
    | (go_at_call_of 59 (Value.int IntKind.i64 (n1 : Int)); refine (J1.out _).mono ?_; rintro e w9 ⟨rfl, rfl⟩)
    | (go_at_call_of 59 (Value.int IntKind.i64 (n2 : Int)); refine (J2.out _).mono ?_; rintro e w9 ⟨rfl, rfl⟩))
  all_goals
    go_wp2_with fail
    go_ret
    exact ⟨rfl, (Kept.refl _ _).drew⟩

theorem cnt3_new (w : World) (n1 n2 n3 : Nat) : Cnt3 (((w.alloc (.cells #[.int .i64 (n1 : Int)] 3)).alloc (.cells #[.int .i64 (n2 : Int)] 3)).alloc (.cells #[.int .i64 (n3 : Int)] 3)) w.heap.size n1 n2 n3 := by
  have e2 := heap_alloc_new (w.alloc (.cells #[.int .i64 (n1 : Int)] 3)) (.cells #[.int .i64 (n2 : Int)] 3)
  have e3 := heap_alloc_new ((w.alloc (.cells #[.int .i64 (n1 : Int)] 3)).alloc (.cells #[.int .i64 (n2 : Int)] 3)) (.cells #[.int .i64 (n3 : Int)] 3)
  rw [show (w.alloc (.cells #[.int .i64 (n1 : Int)] 3)).heap.size = w.heap.size + 1 by simp] at e2
  rw [show ((w.alloc (.cells #[.int .i64 (n1 : Int)] 3)).alloc (.cells #[.int .i64 (n2 : Int)] 3)).heap.size = w.heap.size + 1 + 1 by simp] at e3
  exact ⟨by rw [cell_of_row _ _ 0 _ _ _ (heapAt_alloc (heapAt_alloc (heap_alloc_new w _)))]; rfl, by rw [cell_of_row _ _ 0 _ _ _ (heapAt_alloc e2)]; rfl, by rw [cell_of_row _ _ 0 _ _ _ e3]; rfl⟩

/-- turner. -/
theorem hTurner (n1 n2 n3 : Nat) (w : World) :
    Calls Tryd.prog 54 #[.int .i64 (n1 : Int), .int .i64 (n2 : Int), .int .i64 (n3 : Int)] w fun e w' => e = .returned (.func (.func 58) #[] #[.pointer (some ⟨w.heap.size, 0, none⟩), .pointer (some ⟨w.heap.size + 1, 0, none⟩), .pointer (some ⟨w.heap.size + 1 + 1, 0, none⟩)]) ∧ Cnt3 w' w.heap.size n1 n2 n3 ∧ Kept Nought w w' := by
  have h := cnt3_new w n1 n2 n3
  have k : Kept Nought w (((w.alloc (.cells #[.int .i64 (n1 : Int)] 3)).alloc (.cells #[.int .i64 (n2 : Int)] 3)).alloc (.cells #[.int .i64 (n3 : Int)] 3)) := (((Kept.refl Nought w).alloc _).alloc _).alloc _
  have H := toHid h
  have HK := toHid k
  clear h k
  go_enter Tryd.func54, Tryd.ntmps54
  go_wp2
  go_ret
  exact ⟨rfl, H.out, HK.out⟩

/-- shifter. -/
theorem hShifter (n1 n2 n3 : Nat) (w : World) :
    Calls Tryd.prog 55 #[.int .i64 (n1 : Int), .int .i64 (n2 : Int), .int .i64 (n3 : Int)] w fun e w' => e = .returned (.func (.func 60) #[] #[.pointer (some ⟨w.heap.size, 0, none⟩), .pointer (some ⟨w.heap.size + 1, 0, none⟩), .pointer (some ⟨w.heap.size + 1 + 1, 0, none⟩)]) ∧ Cnt3 w' w.heap.size n1 n2 n3 ∧ Kept Nought w w' := by
  have h := cnt3_new w n1 n2 n3
  have k : Kept Nought w (((w.alloc (.cells #[.int .i64 (n1 : Int)] 3)).alloc (.cells #[.int .i64 (n2 : Int)] 3)).alloc (.cells #[.int .i64 (n3 : Int)] 3)) := (((Kept.refl Nought w).alloc _).alloc _).alloc _
  have H := toHid h
  have HK := toHid k
  clear h k
  go_enter Tryd.func55, Tryd.ntmps55
  go_wp2
  go_ret
  exact ⟨rfl, H.out, HK.out⟩

/-- Choice and majority by 'or': the same bits. -/
theorem ch_or {e f g : Nat} (he : e < 4294967296) : (e &&& f) ||| ((4294967295 ^^^ e) &&& g) = chN e f g := by
  unfold chN
  apply Nat.eq_of_testBit_eq
  intro i
  simp only [Nat.testBit_or, Nat.testBit_xor, Nat.testBit_and]
  by_cases hi : i < 32
  · have hm : Nat.testBit 4294967295 i = true := by
      have := Nat.testBit_two_pow_sub_one 32 i
      simpa [hi] using this
    rw [hm]
    cases e.testBit i <;> cases f.testBit i <;> cases g.testBit i <;> rfl
  · have h1 : e.testBit i = false := Nat.testBit_lt_two_pow (Nat.lt_of_lt_of_le he (Nat.pow_le_pow_right (n := 2) (by omega) (by omega : 32 ≤ i)))
    rw [h1]
    cases Nat.testBit 4294967295 i <;> cases f.testBit i <;> cases g.testBit i <;> rfl

theorem maj_or (a b c : Nat) : (a &&& b) ||| (a &&& c) ||| (b &&& c) = majN a b c := by
  unfold majN
  apply Nat.eq_of_testBit_eq
  intro i
  simp only [Nat.testBit_or, Nat.testBit_xor, Nat.testBit_and]
  cases a.testBit i <;> cases b.testBit i <;> cases c.testBit i <;> rfl

theorem ch_bitsO {e f g : Nat} (he : e < 4294967296) (hf : f < 4294967296) (hg : g < 4294967296) : bits .or .u32 (bits .and .u32 (e : Int) (f : Int)) (bits .and .u32 (bits .xor .u32 IntKind.u32.max (e : Int)) (g : Int)) = ((chN e f g : Nat) : Int) := by
  have h := u32_xor_nat 4294967295 e (by omega) he
  rw [show IntKind.u32.max = ((4294967295 : Nat) : Int) from rfl, h, u32_and_nat e f he hf, u32_and_nat _ g (xor32 (by omega) he) hg, u32_or_nat _ _ (and32 hf) (and32 hg), ch_or he]

theorem maj_bitsO {a b c : Nat} (ha : a < 4294967296) (hb : b < 4294967296) (hc : c < 4294967296) : bits .or .u32 (bits .or .u32 (bits .and .u32 (a : Int) (b : Int)) (bits .and .u32 (a : Int) (c : Int))) (bits .and .u32 (b : Int) (c : Int)) = ((majN a b c : Nat) : Int) := by
  rw [u32_and_nat a b ha hb, u32_and_nat a c ha hc, u32_and_nat b c hb hc, u32_or_nat _ _ (and32 hb) (and32 hc), u32_or_nat _ _ (or32 (and32 hb) (and32 hc)) (and32 hc), maj_or]

/-- A word of m bytes, the highest ahead. -/
def pwN (bs : List Nat) (q : Nat) : Nat → Nat
  | 0 => 0
  | m + 1 => pwN bs q m * 256 + bs.getD (4 * q + m) 0

theorem pwN_lt {bs : List Nat} (hd : Digs 256 bs) (q : Nat) : ∀ m, pwN bs q m < 256 ^ m
  | 0 => by simp [pwN]
  | m + 1 => by
    have h := pwN_lt hd q m
    have hb : bs.getD (4 * q + m) 0 < 256 := hd.getD (by omega) _
    unfold pwN
    rw [Nat.pow_succ]
    omega

/-- The words while a block's bytes are taken in. -/
def exN (bs : List Nat) (i : Nat) : List Nat := (List.range 64).map fun q => pwN bs q (min 4 (i - 4 * q))

theorem exN_length (bs : List Nat) (i : Nat) : (exN bs i).length = 64 := by unfold exN; simp

theorem exN_get {bs : List Nat} {i q : Nat} (h : q < (exN bs i).length) : (exN bs i)[q] = pwN bs q (min 4 (i - 4 * q)) := by simp [exN]

theorem exN_at {bs : List Nat} {i : Nat} (hi : i < 64) : (exN bs i).getD (i / 4) 0 = pwN bs (i / 4) (i % 4) := by
  unfold exN
  rw [List.getD_eq_getElem?_getD, List.getElem?_map, List.getElem?_range (by omega)]
  show pwN bs (i / 4) (min 4 (i - 4 * (i / 4))) = _
  congr 1
  omega

theorem exN_set {bs : List Nat} {i z : Nat} (hz : z = pwN bs (i / 4) (i % 4) * 256 + bs.getD i 0) : (exN bs i).set (i / 4) z = exN bs (i + 1) := by
  apply List.ext_getElem
  · simp [exN]
  · intro q h1 h2
    rw [List.getElem_set, exN_get, exN_get]
    split
    · next h =>
      subst h
      rw [hz, show min 4 (i + 1 - 4 * (i / 4)) = i % 4 + 1 by omega]
      show _ = pwN bs (i / 4) (i % 4) * 256 + bs.getD (4 * (i / 4) + i % 4) 0
      rw [show 4 * (i / 4) + i % 4 = i by omega]
    · next h =>
      congr 1
      omega

theorem w4_sum {a b c d : Nat} (hb : b < 256) (hc : c < 256) (hd : d < 256) : w4N a b c d = ((a * 256 + b) * 256 + c) * 256 + d := by
  unfold w4N
  have h1 := Nat.two_pow_add_eq_or_of_lt (i := 24) (b := b * 65536) (by omega) a
  have h2 := Nat.two_pow_add_eq_or_of_lt (i := 16) (b := c * 256) (by omega) (a * 256 + b)
  have h3 := Nat.two_pow_add_eq_or_of_lt (i := 8) (b := d) (by omega) ((a * 256 + b) * 256 + c)
  rw [show a * 16777216 = 2 ^ 24 * a by omega, ← h1, show 2 ^ 24 * a + b * 65536 = 2 ^ 16 * (a * 256 + b) by omega, ← h2, show 2 ^ 16 * (a * 256 + b) + c * 256 = 2 ^ 8 * ((a * 256 + b) * 256 + c) by omega, ← h3]
  omega

theorem pw_four (bs : List Nat) (q : Nat) : pwN bs q 4 = ((bs.getD (4 * q) 0 * 256 + bs.getD (4 * q + 1) 0) * 256 + bs.getD (4 * q + 2) 0) * 256 + bs.getD (4 * q + 3) 0 := by
  show (((0 * 256 + bs.getD (4 * q + 0) 0) * 256 + bs.getD (4 * q + 1) 0) * 256 + bs.getD (4 * q + 2) 0) * 256 + bs.getD (4 * q + 3) 0 = _
  rw [Nat.zero_mul, Nat.zero_add, Nat.add_zero]

theorem wl_first {bs : List Nat} (hd : Digs 256 bs) : ∀ t, t ≤ 16 → wlN bs t = (List.range t).map fun q => pwN bs q 4
  | 0, _ => rfl
  | t + 1, ht => by
    rw [List.range_succ, List.map_append, ← wl_first hd t (by omega)]
    show wlN bs t ++ [_] = _
    rw [if_pos (by omega), w4_sum (hd.getD (by omega) _) (hd.getD (by omega) _) (hd.getD (by omega) _)]
    rw [List.map_cons, List.map_nil, pw_four]

theorem exN_end {bs : List Nat} (hd : Digs 256 bs) : exN bs 64 = wlN bs 16 ++ List.replicate 48 0 := by
  rw [wl_first hd 16 (Nat.le_refl _)]
  apply List.ext_getElem
  · simp [exN]
  · intro q h1 h2
    have hq : q < 64 := by simpa [exN] using h1
    rw [exN_get, List.getElem_append]
    split
    · next h =>
      have hq16 : q < 16 := by simpa using h
      rw [List.getElem_map, List.getElem_range, show min 4 (64 - 4 * q) = 4 by omega]
    · next h =>
      have hq16 : ¬ q < 16 := by simpa using h
      rw [List.getElem_replicate, show min 4 (64 - 4 * q) = 0 by omega]
      rfl

theorem exN_zero (bs : List Nat) : exN bs 0 = List.replicate 64 0 := by
  apply List.ext_getElem
  · simp [exN]
  · intro q h1 h2
    rw [exN_get, List.getElem_replicate, show min 4 (0 - 4 * q) = 0 by omega]
    rfl

end Go.Proofs.YthnkganmccgaeaaDoor
