/- Put together of: Mir3. -/
import Derived.Test.YtcjaafmlflonhaaGreatDoorPk18
import Derived.Test.YtcjaafmlflonhaaGreatDoorPk22
import Derived.Test.YtcjaafmlflonhaaGreatDoorPk24

/- Package miller: split, mayBeBase. -/
namespace Go.Proofs.YtcjaafmlflonhaaGreatDoor
open Go.RowKit

theorem cells6 {W : World} {p : Nat} {a b c d e f : Value} {t : TypeId} {fr : Nat × Nat} (h : W.heap[p]? = some (.cells #[a, b, c, d, e, f] t fr)) : W.cell? ⟨p, 0, none⟩ = some a ∧ W.cell? ⟨p, 1, none⟩ = some b ∧ W.cell? ⟨p, 2, none⟩ = some c ∧ W.cell? ⟨p, 3, none⟩ = some d ∧ W.cell? ⟨p, 4, none⟩ = some e ∧ W.cell? ⟨p, 5, none⟩ = some f :=
  ⟨(cell_of_row W p 0 _ _ _ h).trans rfl, (cell_of_row W p 1 _ _ _ h).trans rfl, (cell_of_row W p 2 _ _ _ h).trans rfl, (cell_of_row W p 3 _ _ _ h).trans rfl, (cell_of_row W p 4 _ _ _ h).trans rfl, (cell_of_row W p 5 _ _ _ h).trans rfl⟩

theorem frees6 {W : World} {p : Nat} {a b c d e f : Value} {t : TypeId} (h : W.heap[p]? = some (.cells #[a, b, c, d, e, f] t (0, 0))) : W.frozen? ⟨p, 0, none⟩ = false ∧ W.frozen? ⟨p, 1, none⟩ = false ∧ W.frozen? ⟨p, 2, none⟩ = false ∧ W.frozen? ⟨p, 3, none⟩ = false ∧ W.frozen? ⟨p, 4, none⟩ = false ∧ W.frozen? ⟨p, 5, none⟩ = false := by
  simp [World.frozen?, h]

theorem set6e {W : World} {p : Nat} {a b c d e f : Value} {t : TypeId} (h : W.heap[p]? = some (.cells #[a, b, c, d, e, f] t (0, 0))) (x : Value) : (W.setCell ⟨p, 4, none⟩ x).heap[p]? = some (.cells #[a, b, c, d, x, f] t (0, 0)) := by
  have := heap_setCell_same W p 4 #[a, b, c, d, e, f] t x h
  simpa using this

theorem set6f {W : World} {p : Nat} {a b c d e f : Value} {t : TypeId} (h : W.heap[p]? = some (.cells #[a, b, c, d, e, f] t (0, 0))) (x : Value) : (W.setCell ⟨p, 5, none⟩ x).heap[p]? = some (.cells #[a, b, c, d, e, x] t (0, 0)) := by
  have := heap_setCell_same W p 5 #[a, b, c, d, e, f] t x h
  simpa using this

theorem put6 {W : World} {p : Nat} {a b c d e f : Value} {t : TypeId} (h : W.heap[p]? = some (.cells #[a, b, c, d, e, f] t (0, 0))) (x y z u v s : Value) :
    ((((((W.setCell ⟨p, 0, none⟩ x).setCell ⟨p, 1, none⟩ y).setCell ⟨p, 2, none⟩ z).setCell ⟨p, 3, none⟩ u).setCell ⟨p, 4, none⟩ v).setCell ⟨p, 5, none⟩ s).heap[p]? = some (.cells #[x, y, z, u, v, s] t (0, 0)) := by
  have h1 := heap_setCell_same W p 0 #[a, b, c, d, e, f] t x h
  have h2 := heap_setCell_same (W.setCell ⟨p, 0, none⟩ x) p 1 #[x, b, c, d, e, f] t y (by simpa using h1)
  have h3 := heap_setCell_same ((W.setCell ⟨p, 0, none⟩ x).setCell ⟨p, 1, none⟩ y) p 2 #[x, y, c, d, e, f] t z (by simpa using h2)
  have h4 := heap_setCell_same (((W.setCell ⟨p, 0, none⟩ x).setCell ⟨p, 1, none⟩ y).setCell ⟨p, 2, none⟩ z) p 3 #[x, y, z, d, e, f] t u (by simpa using h3)
  have h5 := heap_setCell_same ((((W.setCell ⟨p, 0, none⟩ x).setCell ⟨p, 1, none⟩ y).setCell ⟨p, 2, none⟩ z).setCell ⟨p, 3, none⟩ u) p 4 #[x, y, z, u, e, f] t v (by simpa using h4)
  have h6 := heap_setCell_same (((((W.setCell ⟨p, 0, none⟩ x).setCell ⟨p, 1, none⟩ y).setCell ⟨p, 2, none⟩ z).setCell ⟨p, 3, none⟩ u).setCell ⟨p, 4, none⟩ v) p 5 #[x, y, z, u, v, f] t s (by simpa using h5)
  simpa using h6

theorem kept6 (W : World) (p : Nat) (x y z u v s : Value) : Kept (fun b => b = p) W ((((((W.setCell ⟨p, 0, none⟩ x).setCell ⟨p, 1, none⟩ y).setCell ⟨p, 2, none⟩ z).setCell ⟨p, 3, none⟩ u).setCell ⟨p, 4, none⟩ v).setCell ⟨p, 5, none⟩ s) :=
  ((((((Kept.refl (fun b => b = p) W).setCell ⟨p, 0, none⟩ (fun _ => rfl) x).setCell ⟨p, 1, none⟩ (fun _ => rfl) y).setCell ⟨p, 2, none⟩ (fun _ => rfl) z).setCell ⟨p, 3, none⟩ (fun _ => rfl) u).setCell ⟨p, 4, none⟩ (fun _ => rfl) v).setCell ⟨p, 5, none⟩ (fun _ => rfl) s

/-- A number that is asked about, as its six cells. -/
def numV (ao bo lo oo : Option Addr) (n mc rc lc oc K s : Nat) : Array Value := #[.slice ao n mc, .int .u64 (K : Nat), .slice bo n rc, .slice lo n lc, .slice oo n oc, .int .i64 (s : Nat)]

/-- Such a number in memory: X, X - 1, X - 1 without its s noughts. -/
structure Num17 (w : World) (X : Nat) (ao bo lo oo : Option Addr) (n mc rc lc oc K s : Nat) : Prop where
  mod : Mod8 w none ao bo n n K mc rc (digs 18446744073709551616 X n) (modR X)
  last : Row .u64 w (.slice lo n lc) (digs 18446744073709551616 (X - 1) n)
  odd : Row .u64 w (.slice oo n oc) (digs 18446744073709551616 ((X - 1) / 2 ^ s) n)
  tz : IsTz (X - 1) s
  big : 3 < X
  par : X % 2 = 1
  fit : X < 18446744073709551616 ^ n
  n0 : 0 < n
  nb : n ≤ 130
  sb : s ≤ 10000

theorem Num17.grew {w w' : World} {X : Nat} {ao bo lo oo : Option Addr} {n mc rc lc oc K s : Nat} (h : Num17 w X ao bo lo oo n mc rc lc oc K s) (k : Kept Nought w w') : Num17 w' X ao bo lo oo n mc rc lc oc K s :=
  ⟨h.mod.grew k, h.last.grew k, h.odd.grew k, h.tz, h.big, h.par, h.fit, h.n0, h.nb, h.sb⟩

theorem tz_pos {X s : Nat} (h : IsTz (X - 1) s) (hX : 3 < X) (hp : X % 2 = 1) : 0 < s := by
  rcases Nat.eq_zero_or_pos s with e | e
  · subst e
    have := h.1
    rw [Nat.pow_zero, Nat.div_one] at this
    omega
  · exact e

theorem setup17 {V K : Nat} (h : montE V = 0) (hK : isKf V K) : okMod (modM V) K (modR V) ∧ modM V = digs 18446744073709551616 V (wordsN V) ∧ (modR V).length = wordsN V ∧ Digs 18446744073709551616 (modR V) := by
  have hM : modM V = digs 18446744073709551616 V (wordsN V) := by unfold modM; rw [if_pos h]
  have hR : modR V = digs 18446744073709551616 (2 ^ (128 * wordsN V) % V) (wordsN V) := by unfold modR; rw [if_pos h]
  have hv : val 18446744073709551616 (modM V) = V := by rw [hM, val_digs, Nat.mod_eq_of_lt ((wordsN_le V _).1 (Nat.le_refl _))]
  refine ⟨?_, hM, by rw [hR, digs_length], by rw [hR]; exact digs_digs (by omega) _ _⟩
  unfold okMod
  rw [hv]
  exact ⟨h, rfl, hK, rfl⟩

theorem odd_mont {X : Nat} (h : oddE X = 0) : montE X = 0 := by
  unfold oddE at h
  unfold montE
  split at h
  · omega
  · rename_i h1
    rw [if_neg h1]
    split at h
    · omega
    · rename_i h2
      rw [if_neg (by omega), if_neg (by omega)]

/-- How many noughts the number at block b has counted. -/
def twosN (b : Nat) (w : World) : Nat := match w.cell? ⟨b, 5, none⟩ with
  | some (.int _ z) => z.toNat
  | _ => 0

theorem twosN_of {b t : Nat} {w : World} {k : IntKind} (h : w.cell? ⟨b, 5, none⟩ = some (.int k (t : Int))) : twosN b w = t := by
  unfold twosN
  rw [h]
  simp

theorem shr_half (M t : Nat) : M / 2 ^ t / 2 = M / 2 ^ (t + 1) := by
  rw [Nat.div_div_eq_div_mul, Nat.pow_succ]

set_option maxRecDepth 40000 in
set_option maxHeartbeats 4000000 in
/-- split. -/
theorem ySplit (co : Option Addr) (L cap : Nat) (xs : List Nat) (X : Nat) (hX : X = val 18446744073709551616 xs) (hO : oddE X = 0) (w : World) (hu : Row .u64 w (.slice co L cap) xs) (hd : Digs 18446744073709551616 xs) (hL : L ≤ 1000000) :
    Calls Tryz.prog 73 #[.slice co L cap] w fun e w' => ∃ (ao bo lo oo : Option Addr) (n mc rc lc oc K s : Nat), e = .returned (.agg (numV ao bo lo oo n mc rc lc oc K s)) ∧ Num17 w' X ao bo lo oo n mc rc lc oc K s ∧ Kept Nought w w' := by
  obtain ⟨hX3, hX2, nw, hnw, hXb⟩ := oddE_ok hO
  obtain ⟨s, hs, hsb⟩ := tz_ex (64 * nw) (X - 1) (by omega) (by rw [Nat.pow_mul]; exact Nat.lt_of_le_of_lt (Nat.sub_le _ _) hXb)
  have hsm : s ≤ 10000 := by omega
  have HSZ := toHid hs
  have hE := odd_mont hO
  obtain ⟨n, hn⟩ : ∃ n, n = wordsN X := ⟨_, rfl⟩
  have hnb : n ≤ 130 := by rw [hn]; exact (montE_ok hE).1
  have hXn : X < 18446744073709551616 ^ n := by rw [hn]; exact (wordsN_le X _).1 (Nat.le_refl _)
  have hn0 : 0 < n := by
    rcases Nat.eq_zero_or_pos n with e | e
    · rw [e, Nat.pow_zero] at hXn
      omega
    · exact e
  obtain ⟨W, hW⟩ : ∃ W, W = w.alloc (.cells #[.slice none 0 0, .int .u64 0, .slice none 0 0, .slice none 0 0, .slice none 0 0, .int .i64 0] 111) := ⟨_, rfl⟩
  have k0 : Kept Nought w W := by rw [hW]; exact (Kept.refl Nought w).alloc _
  have hx0 : W.heap[w.heap.size]? = some (.cells #[.slice none 0 0, .int .u64 0, .slice none 0 0, .slice none 0 0, .slice none 0 0, .int .i64 0] 111 (0, 0)) := by rw [hW]; exact heap_alloc_new _ _
  have hS := mSetupF co L cap xs X 0 hX hE.symm W (hu.grew k0) hd hL
  have HW := toHid hW
  have HK0 := toHid k0
  have HX0 := toHid hx0
  have HN := toHid hn
  have HXN := toHid hXn
  clear hW k0 hx0 hu hd hL hX hO hXb hsb hnw hs hn hXn
  go_enter Tryz.func73, Tryz.ntmps73
  go_wp2_with (rw [← HW.out])
  refine hS.mono ?_
  rintro e w1 ⟨a, K, b, rfl, ha, hb, hK, ⟨fa, fb⟩, k1⟩
  obtain ⟨o1, o2, o3, o4⟩ := setup17 hE hK
  rw [o2, ← HN.out] at ha o1
  obtain ⟨ao, an, mc, rfl, hla, _⟩ := ha.open
  obtain rfl : an = n := by have := hla.out; rw [digs_length] at this; exact this.symm
  obtain ⟨bo, bn, rc, rfl, hlb, _⟩ := hb.open
  obtain rfl : bn = an := by rw [← hlb.out, o3]; exact HN.out.symm
  have HM : Hid (Mod8 w1 none ao bo bn bn K mc rc (digs 18446744073709551616 X bn) (modR X)) := ⟨RowT.none ha, RowT.none hb, digs_digs (by omega) _ _, o4, hK.1, o1⟩
  have hR := yRefuseNo 0 (w1.alloc (.cells #[.slice ao bn mc, .int .u64 (K : Nat), .slice bo bn rc] 109))
  unfold modCells
  have HKW := toHid (HK0.out.trans k1)
  have HSW : Hid (w.heap.size < w1.heap.size) := Nat.lt_of_lt_of_le (lt_of_block HX0.out) k1.size
  have HX1 := toHid ((k1.block _ (lt_of_block HX0.out) (fun f => f)).trans HX0.out)
  have HFA : Hid ((∀ x, (Value.slice ao bn mc).ownBlock = some x → w.heap.size < x) ∧ ∀ x, (Value.slice bo bn rc).ownBlock = some x → w.heap.size < x) := ⟨fun x hx => Nat.lt_of_lt_of_le (lt_of_block HX0.out) (fa x hx), fun x hx => Nat.lt_of_lt_of_le (lt_of_block HX0.out) (fb x hx)⟩
  clear hS ha hb hK fa fb k1 o1 o2 o3 o4 hla hlb
  go_wp2_with fail
  refine hR.mono ?_
  rintro e w2 ⟨rfl, rfl⟩
  obtain ⟨W2, hW2⟩ : ∃ W2, W2 = w1.alloc (.cells #[.slice ao bn mc, .int .u64 (K : Nat), .slice bo bn rc] 109) := ⟨_, rfl⟩
  rw [← hW2]
  have k2 : Kept Nought w1 W2 := by rw [hW2]; exact (Kept.refl Nought w1).alloc _
  have hb2 : W2.heap[w1.heap.size]? = some (.cells #[.slice ao bn mc, .int .u64 (K : Nat), .slice bo bn rc] 109 (0, 0)) := by rw [hW2]; exact heap_alloc_new _ _
  have JC : Hid (∀ W', Kept Nought W2 W' → W'.cell? ⟨w1.heap.size, 0, none⟩ = some (.slice ao bn mc) ∧ W'.cell? ⟨w1.heap.size, 1, none⟩ = some (.int .u64 (K : Nat)) ∧ W'.cell? ⟨w1.heap.size, 2, none⟩ = some (.slice bo bn rc)) := fun W' k => cells3 ((k.block _ (lt_of_block hb2) (fun f => f)).trans hb2)
  have HM2 := toHid (HM.out.grew k2)
  have JW : Hid (Calls Tryz.prog 30 #[.int .u64 1, .int .i64 1] W2.drew fun r w' => ∃ zo zc, r = .returned (.slice zo 1 zc) ∧ Row .u64 w' (.slice zo 1 zc) (digs 18446744073709551616 1 1) ∧ Kept Nought W2 w') := by
    refine (nWord 1 (by omega) 1 W2.drew).mono ?_
    rintro e w' ⟨v', rfl, h1, h2⟩
    rw [show clampN 1 = 1 by decide] at h1
    obtain ⟨zo, zn, zc, rfl, hl, _⟩ := h1.open
    obtain rfl : zn = 1 := hl.out.symm
    exact ⟨zo, zc, rfl, h1, (Kept.refl Nought W2).drew.trans h2⟩
  have JS : Hid (∀ W' zo zc, Kept Nought W2 W' → Row .u64 W' (.slice zo 1 zc) (digs 18446744073709551616 1 1) → Calls Tryz.prog 29 #[.pointer none, .slice ao bn mc, .slice zo 1 zc] W' fun e w' => ∃ lo lc c, e = .returned (.tuple #[.slice lo bn lc, .int .u64 (c : Nat)]) ∧ Row .u64 w' (.slice lo bn lc) (digs 18446744073709551616 (X - 1) bn) ∧ (∀ x, (Value.slice lo bn lc).ownBlock = some x → w.heap.size < x) ∧ Kept Nought W2 w') := fun W' zo zc k h => by
    have h1 := lSub none _ _ _ _ W' (TrRoom.none _ _ (by omega)) (HM2.out.grew k).hm (RowT.none h) HM2.out.hmd (digs_digs (by omega) _ _) (by rw [digs_length]; omega) (by rw [digs_length]; omega)
    rw [digs_length, digs_length, show max bn 1 = bn by omega, val_digs, val_digs, Nat.mod_eq_of_lt HXN.out, Nat.pow_one, show (1 : Nat) % 18446744073709551616 = 1 by decide] at h1
    refine h1.mono ?_
    rintro e w' ⟨v', rfl, ho, o', d⟩
    have hr := own_row' ho (digs_length _ _ _)
    obtain ⟨lo, ln, lc, rfl, hl, _⟩ := hr.open
    obtain rfl : ln = bn := by have := hl.out; rw [digs_length] at this; exact this.symm
    have hfr : ∀ x, (Value.slice lo ln lc).ownBlock = some x → w.heap.size < x := fun x hx => by
      have h2 := (ho.lt x hx).1
      have h3 := k.size
      have h4 := k2.size
      have h5 := HSW.out
      omega
    rw [show subN X 1 ln = X - 1 by unfold subN; rw [if_neg (by omega)]] at hr
    exact ⟨lo, lc, _, rfl, hr, hfr, k.trans d.none.2⟩
  have HK12 := toHid k2
  have hwd := JW.out
  obtain ⟨p0, p1, p2⟩ := JC.out _ (Kept.refl Nought W2)
  have HK2 := toHid (HKW.out.trans k2)
  clear hR hW2 k2 hb2 JW HM
  go_wp2_with fail
  go_region_held3 (fun w' => w'.cell? ⟨w1.heap.size, 0, none⟩ = some (.slice ao bn mc))
    (((try dsimp only); first | (go_keep; done) | assumption))
    (first
    | (go_at_call 30; refine hwd.mono ?_; rintro e w3 ⟨zo, zc, rfl, hr3, k3⟩; obtain ⟨s0, s1, s2⟩ := JC.out _ k3)
    | (go_at_call 29; refine (JS.out _ zo zc k3 hr3).mono ?_; rintro e w4 ⟨lo, lc, c4, rfl, hr4, hf4, k4⟩; obtain ⟨t0, t1, t2⟩ := JC.out _ k4))
  all_goals
    obtain ⟨W5, hW5⟩ : ∃ W5, W5 = w4.alloc (.cells #[.slice ao bn mc, .int .u64 (K : Nat), .slice bo bn rc, .slice lo bn lc, .slice lo bn lc, .int .i64 0] 111) := ⟨_, rfl⟩
    have k5 : Kept Nought w4 W5 := by rw [hW5]; exact (Kept.refl Nought w4).alloc _
    have hb5 : W5.heap[w4.heap.size]? = some (.cells #[.slice ao bn mc, .int .u64 (K : Nat), .slice bo bn rc, .slice lo bn lc, .slice lo bn lc, .int .i64 0] 111 (0, 0)) := by rw [hW5]; exact heap_alloc_new _ _
    have hlt : ∀ b, (Value.slice lo bn lc).ownBlock = some b → b ≠ w4.heap.size ∧ w.heap.size < b := fun b hb => by
      have h8 := hr4.lt (by intro h; have h1 := congrArg List.length h; rw [digs_length] at h1; have h2 : bn = 0 := h1; omega) b hb
      have h9 := hf4 b hb
      omega
    have HR5 := toHid (hr4.grew k5)
    have HB5 := toHid hb5
    have HK5 := toHid k5
    have HW5 := toHid hW5
    have HL4 := toHid hr4
    have HNE := toHid hlt
    have HK4 := toHid k4
    clear hwd JS hr3 k3 hr4 hf4 hlt k5 hb5 hW5 k4
    go_wp2_with (rw [← HW5.out])
    go_loopw [] (fun wr => ∃ (t : Nat) (oo : Option Addr) (oc : Nat), t ≤ s ∧ Hid (wr.heap[w4.heap.size]? = some (.cells #[.slice ao bn mc, .int .u64 (K : Nat), .slice bo bn rc, .slice lo bn lc, .slice oo bn oc, .int .i64 (t : Nat)] 111 (0, 0))) ∧ Hid (Kept Nought w4 wr) ∧ Hid (Row .u64 wr (.slice oo bn oc) (digs 18446744073709551616 ((X - 1) / 2 ^ t) bn)) ∧ Hid (∀ b, (Value.slice oo bn oc).ownBlock = some b → b ≠ w4.heap.size ∧ w.heap.size < b)) (fun wr => s - twosN w4.heap.size wr)
    case atStart => exact ⟨0, lo, lc, Nat.zero_le _, HB5.out, HK5.out, by rw [Nat.pow_zero, Nat.div_one]; exact HR5.out, HNE.out⟩
    case round =>
      obtain ⟨t, oo, oc, ht, hbk, hkp, hrow, hne⟩ := hrel
      obtain ⟨c0, c1, c2, c3, c4, c5⟩ := cells6 hbk.out
      obtain ⟨f0, f1, f2, f3, f4, f5⟩ := frees6 hbk.out
      have HT := toHid (twosN_of c5)
      have hlt : (X - 1) / 2 ^ t < 18446744073709551616 ^ bn := Nat.lt_of_le_of_lt (Nat.le_trans (Nat.div_le_self _ _) (Nat.sub_le _ _)) HXN.out
      have hB := nBit _ _ 0 wr hrow.out (digs_digs (by omega) _ _) (by omega)
      rw [val_digs, Nat.mod_eq_of_lt hlt, show ((0 : Int)) = ((0 : Nat) : Int) from rfl, bitN_nat, Nat.pow_zero, Nat.div_one] at hB
      by_cases hts : t < s
      · rw [HSZ.out.2 t hts] at hB
        have h9 := lRight none _ _ 0 (by omega) wr (TrRoom.none _ _ (by omega)) (RowT.none hrow.out) (digs_digs (by omega) _ _) (by rw [digs_length]; omega)
        rw [digs_length, val_digs, Nat.mod_eq_of_lt hlt, show 0 % 2 * 18446744073709551616 ^ bn = 0 by simp, Nat.add_zero, shr_half, HSZ.out.2 t hts] at h9
        go_wp2_with fail
        refine hB.mono ?_
        rintro e w6 ⟨rfl, rfl⟩
        clear hB
        go_wp2_with fail
        refine h9.mono ?_
        rintro e w7 ⟨v7, rfl, ho, o', d⟩
        have k7 := d.none.2
        have hr7 := own_row' ho (digs_length _ _ _)
        have hn7 : ∀ b, v7.ownBlock = some b → b ≠ w4.heap.size ∧ w.heap.size < b := fun b hb => by
          have h5 := (ho.lt b hb).1
          have h6 := lt_of_block hbk.out
          have h7 := HSW.out
          have h8 := HK12.out.size
          have h9 := HK4.out.size
          omega
        obtain ⟨qo, qn, qc, rfl, hl, _⟩ := hr7.open
        obtain rfl : qn = bn := by have := hl.out; rw [digs_length] at this; exact this.symm
        have hb7 := (k7.block _ (lt_of_block hbk.out) (fun f => f)).trans hbk.out
        have hb8 := set6e hb7 (.slice qo qn qc)
        obtain ⟨d0, d1, d2, d3, d4, d5⟩ := cells6 hb7
        obtain ⟨g0, g1, g2, g3, g4, g5⟩ := frees6 hb7
        obtain ⟨e0, e1, e2, e3, e4, e5⟩ := cells6 hb8
        obtain ⟨i0, i1, i2, i3, i4, i5⟩ := frees6 hb8
        have HB9 : Hid (((w7.setCell ⟨w4.heap.size, 4, none⟩ (.slice qo qn qc)).setCell ⟨w4.heap.size, 5, none⟩ (.int .i64 ((t : Int) + 1))).heap[w4.heap.size]? = some (.cells #[.slice ao qn mc, .int .u64 (K : Nat), .slice bo qn rc, .slice lo qn lc, .slice qo qn qc, .int .i64 ((t + 1 : Nat) : Int)] 111 (0, 0))) := set6f hb8 (.int .i64 ((t : Int) + 1))
        have kk : Kept (fun b => b = w4.heap.size) w7 ((w7.setCell ⟨w4.heap.size, 4, none⟩ (.slice qo qn qc)).setCell ⟨w4.heap.size, 5, none⟩ (.int .i64 ((t : Int) + 1))) := ((Kept.refl (fun b => b = w4.heap.size) w7).setCell ⟨w4.heap.size, 4, none⟩ (fun _ => rfl) _).setCell ⟨w4.heap.size, 5, none⟩ (fun _ => rfl) _
        have HR9 := toHid (hr7.kept kk (fun b hb => (hn7 b hb).1))
        have HK9 := toHid (kept_new (hkp.out.trans k7) kk (Nat.le_refl _))
        have HN9 := toHid hn7
        have HT9 := toHid (twosN_of (cells6 HB9.out).2.2.2.2.2)
        clear h9 ho d k7 hr7 hn7 hb7 hb8 kk hl c0 c1 c2 c3 c4 c5 f0 f1 f2 f3 f4 f5
        go_wp2_with fail
        go_roundw
        case rel => exact ⟨t + 1, qo, qc, by omega, HB9, HK9, HR9, HN9⟩
        case measure => rw [HT.out, HT9.out]; omega
      · obtain rfl : t = s := by omega
        rw [HSZ.out.1] at hB
        have hx9 := ((HK12.out.trans (HK4.out.trans hkp.out)).block _ (lt_of_block HX1.out) (fun f => f)).trans HX1.out
        obtain ⟨d0, d1, d2, d3, d4, d5⟩ := cells6 hx9
        obtain ⟨g0, g1, g2, g3, g4, g5⟩ := frees6 hx9
        obtain ⟨r0, r1, r2, r3, r4, r5⟩ := cells6 (put6 hx9 (.slice ao bn mc) (.int .u64 (K : Nat)) (.slice bo bn rc) (.slice lo bn lc) (.slice oo bn oc) (.int .i64 (t : Nat)))
        have kk := kept6 wr w.heap.size (.slice ao bn mc) (.int .u64 (K : Nat)) (.slice bo bn rc) (.slice lo bn lc) (.slice oo bn oc) (.int .i64 (t : Nat))
        have k24 := HK12.out.trans (HK4.out.trans hkp.out)
        have HQ1 := toHid ((HL4.out.grew hkp.out).kept kk (fun b hb e => by have := (HNE.out b hb).2; omega))
        have HQ2 := toHid (hrow.out.kept kk (fun b hb e => by have := (hne.out b hb).2; omega))
        have hM9 := HM2.out.grew (HK4.out.trans hkp.out)
        have HQ3 : Hid (Mod8 _ none ao bo bn bn K mc rc (digs 18446744073709551616 X bn) (modR X)) := ⟨RowT.none (hM9.hm.1.kept kk (fun b hb e => by have := HFA.out.1 b hb; omega)), RowT.none (hM9.hr.1.kept kk (fun b hb e => by have := HFA.out.2 b hb; omega)), hM9.hmd, hM9.hrd, hM9.hK, hM9.ok⟩
        have HKF := toHid (kept_new (HKW.out.trans k24) kk (Nat.le_refl _))
        clear hx9 kk k24 hM9
        go_wp2_with fail
        refine hB.mono ?_
        rintro e w6 ⟨rfl, rfl⟩
        clear hB
        go_wp2_with fail
        refine bodyPost_ret (v := .agg (numV ao bo lo oo bn mc rc lc oc K t)) (by simp [results, Tryz.results73, go_sem, r0, r1, r2, r3, r4, r5, numV]) rfl ⟨ao, bo, lo, oo, bn, mc, rc, lc, oc, K, t, rfl, ⟨HQ3.out, HQ1.out, HQ2.out, HSZ.out, hX3, hX2, HXN.out, hn0, hnb, hsm⟩, HKF.out⟩

set_option maxRecDepth 20000 in
set_option maxHeartbeats 2000000 in
/-- mayBeBase. -/
theorem yMay (ao bo lo oo vo : Option Addr) (n mc rc lc oc K s X M vc : Nat) (ys : List Nat) (R : Bool) (hR : R = decide (1 < val 18446744073709551616 ys ∧ val 18446744073709551616 ys < X - 1)) (w : World) (h : Num17 w X ao bo lo oo n mc rc lc oc K s) (hv : Row .u64 w (.slice vo M vc) ys) (hd : Digs 18446744073709551616 ys) :
    Calls Tryz.prog 109 #[.agg (numV ao bo lo oo n mc rc lc oc K s), .slice vo M vc] w fun e w' => e = .returned (.bool R) ∧ Kept Nought w w' := by
  obtain ⟨W, hW⟩ : ∃ W, W = w.alloc (.cells (numV ao bo lo oo n mc rc lc oc K s) 111) := ⟨_, rfl⟩
  have k0 : Kept Nought w W := by rw [hW]; exact (Kept.refl Nought w).alloc _
  have hx0 : W.heap[w.heap.size]? = some (.cells (numV ao bo lo oo n mc rc lc oc K s) 111 (0, 0)) := by rw [hW]; exact heap_alloc_new _ _
  have JC : Hid (∀ W', Kept Nought W W' → W'.cell? ⟨w.heap.size, 3, none⟩ = some (.slice lo n lc)) := fun W' k => (cells6 ((k.block _ (lt_of_block hx0) (fun f => f)).trans hx0)).2.2.2.1
  have hwd : Calls Tryz.prog 30 #[.int .u64 1, .int .i64 1] W fun r w' => ∃ zo zc, r = .returned (.slice zo 1 zc) ∧ Row .u64 w' (.slice zo 1 zc) (digs 18446744073709551616 1 1) ∧ Kept Nought W w' := by
    refine (nWord 1 (by omega) 1 W).mono ?_
    rintro e w' ⟨v', rfl, h1, h2⟩
    rw [show clampN 1 = 1 by decide] at h1
    obtain ⟨zo, zn, zc, rfl, hl, _⟩ := h1.open
    obtain rfl : zn = 1 := hl.out.symm
    exact ⟨zo, zc, rfl, h1, h2⟩
  obtain ⟨A, hA⟩ : ∃ A, A = val 18446744073709551616 ys := ⟨_, rfl⟩
  rw [← hA] at hR
  have J1 : Hid (∀ W' zo zc, Kept Nought W W' → Row .u64 W' (.slice zo 1 zc) (digs 18446744073709551616 1 1) → Calls Tryz.prog 56 #[.slice vo M vc, .slice zo 1 zc] W' fun e w' => e = .returned (.int .i64 (cmpN A 1)) ∧ Kept Nought W w') := fun W' zo zc k h1 => by
    have h2 := nCompare _ _ _ _ W' (hv.grew (k0.trans k)) h1 hd (digs_digs (by omega) _ _)
    rw [val_digs, Nat.pow_one, show (1 : Nat) % 18446744073709551616 = 1 by decide, ← hA] at h2
    refine h2.mono ?_
    rintro e w' ⟨rfl, k2⟩
    exact ⟨rfl, k.trans k2⟩
  have hfit : X - 1 < 18446744073709551616 ^ n := Nat.lt_of_le_of_lt (Nat.sub_le _ _) h.fit
  have J2 : Hid (∀ W', Kept Nought W W' → Calls Tryz.prog 56 #[.slice vo M vc, .slice lo n lc] W' fun e w' => e = .returned (.int .i64 (cmpN A (X - 1))) ∧ Kept Nought W w') := fun W' k => by
    have h2 := nCompare _ _ _ _ W' (hv.grew (k0.trans k)) (h.last.grew (k0.trans k)) hd (digs_digs (by omega) _ _)
    rw [val_digs, Nat.mod_eq_of_lt hfit, ← hA] at h2
    refine h2.mono ?_
    rintro e w' ⟨rfl, k2⟩
    exact ⟨rfl, k.trans k2⟩
  have HW := toHid hW
  have HK0 := toHid k0
  have HR := toHid hR
  unfold numV at HW ⊢
  clear hW k0 hx0 hR hA h hv hd hfit
  by_cases h1 : 1 < A
  · have e1 : cmpN A 1 = 1 := cmpN_gt h1
    rw [e1] at J1
    by_cases h2 : A < X - 1
    · have e2 : cmpN A (X - 1) = -1 := cmpN_lt h2
      rw [e2] at J2
      go_enter Tryz.func109, Tryz.ntmps109
      go_wp2_with (rw [← HW.out])
      refine hwd.mono ?_
      rintro e w2 ⟨zo, zc, rfl, hr2, k2⟩
      have j1 := J1.out _ zo zc k2 hr2
      clear hwd
      go_wp2_with fail
      refine j1.mono ?_
      rintro e w3 ⟨rfl, k3⟩
      have c3 := JC.out _ k3
      have j2 := J2.out _ k3
      clear j1 hr2
      go_wp2_with fail
      refine j2.mono ?_
      rintro e w4 ⟨rfl, k4⟩
      have HRt : Hid (R = true) := by unfold Hid; rw [HR.out]; exact decide_eq_true ⟨h1, h2⟩
      clear j2
      go_wp2_with fail
      go_ret
      exact ⟨by rw [HRt.out]; rfl, HK0.out.trans k4⟩
    · have e2 := cmpN_nn (show X - 1 ≤ A by omega)
      generalize cmpN A (X - 1) = c at *
      have e2' : ¬ c < 0 := e2
      go_enter Tryz.func109, Tryz.ntmps109
      go_wp2_with (rw [← HW.out])
      refine hwd.mono ?_
      rintro e w2 ⟨zo, zc, rfl, hr2, k2⟩
      have j1 := J1.out _ zo zc k2 hr2
      clear hwd
      go_wp2_with fail
      refine j1.mono ?_
      rintro e w3 ⟨rfl, k3⟩
      have c3 := JC.out _ k3
      have j2 := J2.out _ k3
      clear j1 hr2
      go_wp2_with fail
      refine j2.mono ?_
      rintro e w4 ⟨rfl, k4⟩
      have HRt : Hid (R = false) := by unfold Hid; rw [HR.out]; exact decide_eq_false (fun h => h2 h.2)
      clear j2
      go_wp2_with fail
      go_ret
      refine ⟨?_, HK0.out.trans k4⟩
      rw [HRt.out]
      simp [e2']
  · have e1 := cmpN_le (show A ≤ 1 by omega)
    generalize cmpN A 1 = c at *
    have e1' : ¬ c > 0 := by omega
    have e1'' : ¬ 0 < c := by omega
    have q1 : decide (0 < c) = false := decide_eq_false e1''
    have q1' : decide (c > 0) = false := decide_eq_false e1''
    go_enter Tryz.func109, Tryz.ntmps109
    go_wp2_with (rw [← HW.out])
    refine hwd.mono ?_
    rintro e w2 ⟨zo, zc, rfl, hr2, k2⟩
    have j1 := J1.out _ zo zc k2 hr2
    clear hwd
    go_wp2_with fail
    refine j1.mono ?_
    rintro e w3 ⟨rfl, k3⟩
    have HRt : Hid (R = false) := by unfold Hid; rw [HR.out]; exact decide_eq_false (fun h => h1 h.1)
    clear j1 hr2
    go_wp2_with fail
    go_ret
    exact ⟨by rw [HRt.out]; rfl, HK0.out.trans k3⟩

end Go.Proofs.YtcjaafmlflonhaaGreatDoor

