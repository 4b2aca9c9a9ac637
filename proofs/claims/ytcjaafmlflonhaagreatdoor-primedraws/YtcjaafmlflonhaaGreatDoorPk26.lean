/- Put together of: Sho1 Sho2. -/
import Derived.Test.YtcjaafmlflonhaaGreatDoorPk22
import Derived.Test.YtcjaafmlflonhaaGreatDoorPk23

/- Package short: the bits of a number, the highest ahead, as a range over a function hands them out (bitsOf). -/
namespace Go.Proofs.YtcjaafmlflonhaaGreatDoor
open Go.RowKit Go.Shelf

attribute [local go_sem] Oper.semAt_some

theorem bits_le {ys : List Nat} {L : Nat} (hd : Digs 18446744073709551616 ys) (hL : ys.length = L) : blen (val 18446744073709551616 ys) ≤ 64 * L := by
  rw [blen_le]
  have := val_lt (B := 18446744073709551616) (by omega) hd
  rw [hL, show (18446744073709551616 : Nat) = 2 ^ 64 from rfl, ← Nat.pow_mul] at this
  exact this

/-- What bits come to. -/
def bndN (l : List Nat) : Nat := l.foldl (fun a d => 2 * a + d) 0

theorem bndN_snoc (l : List Nat) (d : Nat) : bndN (l ++ [d]) = 2 * bndN l + d := by simp [bndN]

theorem bnd_upto {E N : Nat} (hE : E < 2 ^ N) : ∀ j, j ≤ N → bndN ((List.range j).map fun i => E / 2 ^ (N - 1 - i) % 2) = E / 2 ^ (N - j)
  | 0, _ => by
    rw [List.range_zero, List.map_nil, Nat.sub_zero, Nat.div_eq_of_lt hE]
    rfl
  | j + 1, hj => by
    rw [List.range_succ, List.map_append, List.map_cons, List.map_nil, bndN_snoc, bnd_upto hE j (by omega)]
    have e : N - j = (N - 1 - j) + 1 := by omega
    rw [e, Nat.pow_succ, ← Nat.div_div_eq_div_mul, show N - (j + 1) = N - 1 - j by omega]
    omega

theorem bnd_all {E N : Nat} (hE : blen E = N) : bndN ((List.range N).map fun i => E / 2 ^ (N - 1 - i) % 2) = E := by
  have h := bnd_upto ((blen_le E N).1 (Nat.le_of_eq hE)) N (Nat.le_refl _)
  rw [Nat.sub_self, Nat.pow_zero, Nat.div_one] at h
  exact h

set_option maxRecDepth 100000 in
set_option maxHeartbeats 2000000 in
/-- bitsOf's closure. -/
theorem sho1 (n : Nat) (hn : 1 ≤ n) (l Bs L N : Nat) (g : Nat → Nat) (v : Value) (ys : List Nat) (hd : Digs 18446744073709551616 ys) (hL : Hid (ys.length = L)) (hN : Hid (blen (val 18446744073709551616 ys) = N)) (hb : L ≤ 1000000) (hg : Hid (∀ j, val 18446744073709551616 ys / 2 ^ (N - 1 - j) % 2 = g j)) (S : Nat → Prop) (hS : S Bs) (hSv : ∀ b, v.ownBlock = some b → 0 < L → S b)
    (J Jx : List (Fin N) → World → Prop)
    (hY : ∀ pre (x : Fin N) W, J pre W → pre.length < N → YieldAt Fence.wide (n - 1) Tryz.prog l #[.int .u64 (g x.val : Nat)] W fun e W' =>
      (e = .returned (.bool true) ∧ J (pre ++ [x]) W' ∧ KeepB S W W') ∨ (e = .returned (.bool false) ∧ Jx (pre ++ [x]) W'))
    (W : World) (hBs : W.cell? ⟨Bs, 0, none⟩ = some v) (hr : Row .u64 W v ys) (h0 : J [] W) :
    CallsIn Fence.wide n Tryz.prog 182 #[.func (.yield l) #[] #[], .pointer (some ⟨Bs, 0, none⟩)] W fun e W' => (∃ v, e = .returned v) ∧
      ((∃ zs, zs.map Fin.val = List.range N ∧ J zs W') ∨ (∃ pre, True ∧ Jx pre W')) := by
  obtain ⟨ao, m, cap, rfl, hlen, c1, c2, c3, hnum⟩ := hr.open
  obtain rfl : m = L := by rw [← hlen.out]; exact hL.out
  have HNb : Hid (N ≤ 64000000) := by have := bits_le hd hL.out; have := hN.out; unfold Hid; omega
  have hBits := nBits _ ys W hr hd (by have := hL.out; omega)
  rw [hN.out] at hBits
  have HBIT : Hid (∀ (i j : Nat) (W' : World), KeepB S W W' → i = N - 1 - j → i ≤ 64000000 → Calls Tryz.prog 106 #[.slice ao m cap, .int .i64 (i : Int)] W' fun r w' => r = .returned (.int .u64 (g j : Nat)) ∧ w' = W') := fun i j W' k hi hb => by
    have := nBit _ ys (i : Int) W' (k.row (fun b hb hp => hSv b hb (by have := hL.out; omega)) hr) hd (by omega)
    rw [bitN_nat, hi, hg.out] at this
    rw [hi]
    exact this
  clear hnum hr hL hlen hd hN hg
  refine callsIn_of_wp Tryz.func182 rfl trivial ?_ rfl
  simp only [Tryz.ntmps182, List.size_toArray, List.length_cons, List.length_nil, Nat.reduceAdd, Nat.reduceSub, Array.replicate_succ, Array.replicate_zero, List.push_toArray, List.append_toArray, List.nil_append, List.cons_append]
  gi_wp2_with fail
  refine ⟨trivial, ?_⟩
  refine (callsIn_wide.2 hBits).mono ?_
  rintro e w' ⟨rfl, rfl⟩
  have gN : IntKind.i64.wrap ((N : Int) - 1) = (N : Int) - 1 := by rw [IntKind.wrap_i64]; have := HNb.out; omega
  clear hBits
  gi_wp2_with fail
  gi_loopw [3] (fun i wr => ∃ (k : Nat) (I : Int), k ≤ N ∧ i = .int .i64 I ∧ Hid (I = (N : Int) - 1 - (k : Int)) ∧ (∃ pre : List (Fin N), Hid (pre.map Fin.val = List.range k) ∧ J pre wr) ∧ KeepB S w' wr)
    (fun i _ => (intOf i + 1).toNat)
  case atStart => exact ⟨0, _, Nat.zero_le _, rfl, by unfold Hid; omega, ⟨[], by simp [Hid], h0⟩, KeepB.refl _ _⟩
  case round =>
    obtain ⟨k, I, hk, rfl, HI, ⟨pre, hpre, hJs⟩, hkp⟩ := hrel
    by_cases hkm : k < N
    · obtain ⟨i, hi⟩ : ∃ i : Nat, i = N - 1 - k := ⟨_, rfl⟩
      obtain rfl : I = (i : Int) := by have := HI.out; omega
      have gi0 : (0 : Int) ≤ (i : Int) := by omega
      have gi1 : IntKind.i64.wrap ((i : Int) - 1) = (i : Int) - 1 := by rw [IntKind.wrap_i64]; have := HNb.out; omega
      have hbox := (hkp.cell (p := ⟨Bs, 0, none⟩) hS).trans hBs
      have hBit := HBIT.out i k wr hkp hi (by have := HNb.out; omega)
      have hlen2 : pre.length < N := by
        have := congrArg List.length hpre.out
        rw [List.length_map, List.length_range] at this
        omega
      obtain ⟨fn, tmps, assign, body, hy, hR⟩ := hY pre ⟨k, hkm⟩ wr hJs hlen2
      dsimp only at hy
      have HI2 := toHid hi
      clear hi
      gi_wp2_with fail
      refine ⟨trivial, ?_⟩
      refine (callsIn_wide.2 hBit).mono ?_
      rintro e w2 ⟨rfl, rfl⟩
      clear hBit
      gi_wp2_with fail
      refine hR.mono ?_
      rintro e W3 (⟨rfl, hJ3, hk3⟩ | ⟨rfl, hJx3⟩)
      · gi_wp2_with fail
        go_roundw
        case rel => exact ⟨k + 1, (i : Int) - 1, hkm, by first | rfl | (rw [gi1]), by have := HI.out; unfold Hid; omega, ⟨pre ++ [⟨k, hkm⟩], by unfold Hid; rw [List.map_append, hpre.out, List.range_succ]; rfl, hJ3⟩, hkp.trans hk3⟩
        case measure => simp [intOf]
      · gi_wp2_with fail
        refine bodyPost_ret (results_none rfl _ _ _) rfl ?_
        exact ⟨⟨_, rfl⟩, .inr ⟨_, trivial, hJx3⟩⟩
    · obtain rfl : k = N := by omega
      obtain rfl : I = -1 := by have := HI.out; omega
      gi_wp2_with fail
      go_end0
      exact ⟨⟨_, rfl⟩, .inl ⟨pre, hpre.out, hJs⟩⟩

/-- bitsOf: the slice is boxed; the function value holds the box. -/
theorem shoBox (ao : Option Addr) (len cap : Nat) (w : World) :
    Calls Tryz.prog 166 #[.slice ao len cap] w fun e w' => e = .returned (.func (.func 182) #[] #[.pointer (some ⟨w.heap.size, 0, none⟩)]) ∧ w' = w.alloc (.cells #[.slice ao len cap] 31) := by
  go_enter Tryz.func166, Tryz.ntmps166
  go_wp2
  go_ret
  exact ⟨rfl, rfl⟩

/-- bitsOf's value, as a range over it wants it. -/
theorem shoStops (n : Nat) (hn : 1 ≤ n) (Bs L N : Nat) (g : Nat → Nat) (v : Value) (ys : List Nat) (hd : Digs 18446744073709551616 ys) (hL : ys.length = L) (hN : blen (val 18446744073709551616 ys) = N) (hb : L ≤ 1000000) (hg : ∀ j, val 18446744073709551616 ys / 2 ^ (N - 1 - j) % 2 = g j) (S : Nat → Prop) (hS : S Bs) (hSv : ∀ b, v.ownBlock = some b → 0 < L → S b)
    (w : World) (hSw : ∀ k, S k → k < w.heap.size) (hBs : w.cell? ⟨Bs, 0, none⟩ = some v) (hr : Row .u64 w v ys) :
    SeqStopsK Fence.wide n Tryz.prog 182 #[.pointer (some ⟨Bs, 0, none⟩)] (fun x : Fin N => #[Value.int .u64 (g x.val : Nat)]) (KeepB S) (fun zs => zs.map Fin.val = List.range N) (fun _ => True) N w := fun l J Jx W hW _ _ hY h0 => by
  have hk : KeepB S w W := fun k hk => hW.block k (hSw k hk)
  exact sho1 n hn l Bs L N g v ys hd hL hN hb hg S hS hSv J Jx hY W ((hk.cell (p := ⟨Bs, 0, none⟩) hS).trans hBs) (hk.row (fun b hb hp => hSv b hb (by omega)) hr) h0

end Go.Proofs.YtcjaafmlflonhaaGreatDoor


/- Package short: a number to a power, bit by bit (raised). -/
namespace Go.Proofs.YtcjaafmlflonhaaGreatDoor
open Go.RowKit Go.Shelf

attribute [local go_sem] Oper.semAt_some

/-- A number in Montgomery's form. -/
def MonR (w : World) (v : Value) (n V P : Nat) : Prop := Row .u64 w v (digs 18446744073709551616 (mon n V P) n)

theorem MonR.grew {w w' : World} {v : Value} {n V P : Nat} (h : MonR w v n V P) (k : Kept Nought w w') : MonR w' v n V P := Row.grew h k

theorem MonR.shape {w : World} {v : Value} {n V P : Nat} (h : MonR w v n V P) : ∃ xo xc, v = .slice xo n xc := by
  obtain ⟨xo, xn, xc, rfl, hl, _⟩ := Row.open h
  have := hl.out
  rw [digs_length] at this
  subst this
  exact ⟨_, _, rfl⟩

/-- The product of two such numbers, with no trace. -/
theorem mul9 (ao bo xo yo : Option Addr) (n l K mcap rcap xc yc P Q : Nat) (ms rs : List Nat) (w : World) (hM : Mod8 w none ao bo n l K mcap rcap ms rs) (hx : MonR w (.slice xo n xc) n (val 18446744073709551616 ms) P) (hy : MonR w (.slice yo n yc) n (val 18446744073709551616 ms) Q) :
    Calls Tryz.prog 115 #[.pointer none, .agg #[.slice ao n mcap, .int .u64 (K : Nat), .slice bo l rcap], .slice xo n xc, .slice yo n yc] w fun e w' => ∃ zo zc, e = .returned (.tuple #[.slice zo n zc, .int .i64 0]) ∧ MonR w' (.slice zo n zc) n (val 18446744073709551616 ms) (P * Q) ∧ Fresh w (.slice zo n zc) ∧ Kept Nought w w' := by
  obtain ⟨⟨f0, f1⟩, f2, f3, f4, f5⟩ := hM.facts
  have hV : 0 < val 18446744073709551616 ms := by omega
  have ex := mon_val (P := P) hV f5
  have ey := mon_val (P := Q) hV f5
  refine (mMul none ao bo xo yo n l K mcap rcap n n xc yc 0 ms rs _ _ w (TrRoom.none w _ (by omega)) hM.hm hM.hr (RowT.none hx) (RowT.none hy) hM.hmd hM.hrd (digs_digs (by omega) _ _) (digs_digs (by omega) _ _) hM.hK (by omega) ⟨fun _ => ⟨hM.ok, ⟨rfl, by rw [ex]; exact mon_lt hV⟩, rfl, by rw [ey]; exact mon_lt hV⟩, fun _ => rfl⟩ (by omega)).mono ?_
  rintro e w' ⟨v', rfl, ⟨Y, hR, hG⟩, ⟨hF, hU⟩, o', d⟩
  rw [if_pos rfl] at hR
  have hG' := hG rfl
  rw [ex, ey] at hG'
  rw [mon_mul f3 hG'.1 hG'.2] at hR
  have hA : MonR w' v' n (val 18446744073709551616 ms) (P * Q) := hR
  obtain ⟨zo, zc, rfl⟩ := hA.shape
  exact ⟨zo, zc, rfl, hA, hF, d.none.2⟩

/-- A number comes out, with no trace. -/
theorem lea9 (ao bo xo : Option Addr) (n l K mcap rcap xc P : Nat) (ms rs : List Nat) (w : World) (hM : Mod8 w none ao bo n l K mcap rcap ms rs) (hx : MonR w (.slice xo n xc) n (val 18446744073709551616 ms) P) :
    Calls Tryz.prog 143 #[.pointer none, .agg #[.slice ao n mcap, .int .u64 (K : Nat), .slice bo l rcap], .slice xo n xc] w fun e w' => ∃ v', e = .returned (.tuple #[v', .int .i64 0]) ∧ Row .u64 w' v' (digs 18446744073709551616 (P % val 18446744073709551616 ms) n) ∧ Kept Nought w w' := by
  obtain ⟨⟨f0, f1⟩, f2, f3, f4, f5⟩ := hM.facts
  have hV : 0 < val 18446744073709551616 ms := by omega
  have ex := mon_val (P := P) hV f5
  refine (mLeave none ao bo xo n l K mcap rcap n xc 0 ms rs _ w (TrRoom.none w _ (by omega)) hM.hm hM.hr (RowT.none hx) hM.hmd hM.hrd (digs_digs (by omega) _ _) hM.hK (by omega) ⟨fun _ => ⟨hM.ok, rfl, by rw [ex]; exact mon_lt hV⟩, fun _ => rfl⟩ (by omega)).mono ?_
  rintro e w' ⟨v', rfl, ⟨Y, hR, hG⟩, ⟨hF, hU⟩, o', d⟩
  rw [if_pos rfl] at hR
  have hG' := hG rfl
  rw [ex] at hG'
  rw [mon_leave f3 hG'.1 hG'.2] at hR
  exact ⟨v', rfl, hR, d.none.2⟩

/-- 1 as it is there. -/
theorem one9 (ao bo : Option Addr) (n l K mcap rcap : Nat) (ms rs : List Nat) (w : World) (hM : Mod8 w none ao bo n l K mcap rcap ms rs) :
    Calls Tryz.prog 113 #[.agg #[.slice ao n mcap, .int .u64 (K : Nat), .slice bo l rcap]] w fun e w' => ∃ zo zc, e = .returned (.slice zo n zc) ∧ MonR w' (.slice zo n zc) n (val 18446744073709551616 ms) 1 ∧ Kept Nought w w' := by
  obtain ⟨⟨f0, f1⟩, f2, f3, f4, f5⟩ := hM.facts
  refine (mOne ao bo n l K mcap rcap ms rs (digs 18446744073709551616 (mon n (val 18446744073709551616 ms) 1) n) w hM.hm.1 hM.hr.1 hM.hmd hM.hrd hM.hK (by omega) (fun _ => by unfold mon; rw [Nat.mul_one]) (fun h => absurd hM.ok h)).mono ?_
  rintro e w' ⟨v', rfl, hR, k⟩
  have hA : MonR w' v' n (val 18446744073709551616 ms) 1 := hR
  obtain ⟨zo, zc, rfl⟩ := hA.shape
  exact ⟨zo, zc, rfl, hA, k⟩

/-- What stands in a round that began in W: the variable at bP holds qv, which is P in Montgomery's form; what was ahead of that variable, in W1, stands. -/
structure RS9 (W1 W w : World) (bP n V P : Nat) (qv : Value) : Prop where
  box : Box w bP qv 31
  num : MonR w qv n V P
  ne : ∀ b, qv.ownBlock = some b → b ≠ bP
  old : Kept Nought W1 w
  kept : Kept (fun b => b = bP) W w

theorem RS9.step {W1 W w w' : World} {bP n V P : Nat} {qv : Value} (h : RS9 W1 W w bP n V P qv) (k : Kept Nought w w') : RS9 W1 W w' bP n V P qv :=
  ⟨h.box.grew k, h.num.grew k, h.ne, h.old.trans k, h.kept.next k (fun _ _ f => f.elim)⟩

theorem RS9.put {W1 W w : World} {bP n V P Q : Nat} {qv zv : Value} (h : RS9 W1 W w bP n V P qv) (hz : MonR w zv n V Q) (hne : ∀ b, zv.ownBlock = some b → b ≠ bP) (hb : W1.heap.size ≤ bP) : RS9 W1 W (w.setCell ⟨bP, 0, none⟩ zv) bP n V Q zv := by
  have kb := kept_box w bP zv
  exact ⟨h.box.set zv, Row.kept hz kb hne, hne, kept_new h.old kb hb, h.kept.next kb (fun _ _ f => f)⟩

/-- The exponent that bits come to. -/
def bndF {N : Nat} (g : Nat → Nat) (pre : List (Fin N)) : Nat := bndN (pre.map fun x => g x.val)

theorem bndF_snoc {N : Nat} (g : Nat → Nat) (pre : List (Fin N)) (x : Fin N) : bndF g (pre ++ [x]) = 2 * bndF g pre + g x.val := by
  unfold bndF
  rw [List.map_append, List.map_cons, List.map_nil, bndN_snoc]

theorem bndF_all {N : Nat} {g : Nat → Nat} {ys : List (Fin N)} (h : ys.map Fin.val = List.range N) : bndF g ys = bndN ((List.range N).map g) := by
  unfold bndF
  rw [← h, List.map_map]
  rfl

/-- What stands between two rounds. -/
def Btw9 (W1 : World) (bP n V X : Nat) (ev : Value) {N : Nat} (g : Nat → Nat) (pre : List (Fin N)) (W : World) : Prop :=
  ∃ (qo : Option Addr) (qc : Nat), RS9 W1 W W bP n V (X ^ bndF g pre) (.slice qo n qc) ∧ Box W (bP + 1) ev 31

theorem Btw9.turn {W1 : World} {bP n V X N B : Nat} {ev : Value} {g : Nat → Nat} {pre : List (Fin N)} {W W' : World} (h : Btw9 W1 bP n V X ev g pre W) (t : Turn B W W') (hB : W1.heap.size ≤ B) : Btw9 W1 bP n V X ev g pre W' := by
  obtain ⟨qo, qc, h1, h2⟩ := h
  exact ⟨qo, qc, ⟨t.cells h1.box, t.row h1.num, h1.ne, t.kept h1.old hB, Kept.refl _ _⟩, t.cells h2⟩

set_option maxRecDepth 100000 in
set_option maxHeartbeats 4000000 in
/-- raised. -/
theorem sRaised (ao bo xo eo : Option Addr) (n l0 K mcap rcap xc L ecap X : Nat) (ms rs ys : List Nat) (w : World) (hM : Mod8 w none ao bo n l0 K mcap rcap ms rs) (hx : MonR w (.slice xo n xc) n (val 18446744073709551616 ms) X)
    (he : Row .u64 w (.slice eo L ecap) ys) (hde : Digs 18446744073709551616 ys) (hL : L ≤ 300) :
    Calls Tryz.prog 144 #[.agg #[.slice ao n mcap, .int .u64 (K : Nat), .slice bo l0 rcap], .slice xo n xc, .slice eo L ecap] w fun e w' => ∃ zo zc, e = .returned (.slice zo n zc) ∧ MonR w' (.slice zo n zc) n (val 18446744073709551616 ms) (X ^ val 18446744073709551616 ys) ∧ Kept Nought w w' := by
  obtain ⟨⟨f0, f1⟩, f2, f3, f4, f5⟩ := hM.facts
  obtain ⟨V, hV⟩ : ∃ V, V = val 18446744073709551616 ms := ⟨_, rfl⟩
  rw [← hV] at f3 f4 f5 hx ⊢
  obtain ⟨W0, hW0⟩ : ∃ W0, W0 = (w.alloc (.cells #[.slice ao n mcap, .int .u64 (K : Nat), .slice bo l0 rcap] 109)).alloc (.cells #[.slice xo n xc] 31) := ⟨_, rfl⟩
  have k0 : Kept Nought w W0 := by rw [hW0]; exact ((Kept.refl Nought w).alloc _).alloc _
  have hM0 : W0.heap[w.heap.size]? = some (.cells #[.slice ao n mcap, .int .u64 (K : Nat), .slice bo l0 rcap] 109 (0, 0)) := by
    rw [hW0]
    exact heapAt_alloc (heap_alloc_new w _)
  have hX0 : Box W0 (w.heap.size + 1) (.slice xo n xc) 31 := by
    rw [hW0]
    have := Box.new (w.alloc (.cells #[.slice ao n mcap, .int .u64 (K : Nat), .slice bo l0 rcap] 109)) (.slice xo n xc) 31
    rwa [show (w.alloc (.cells #[.slice ao n mcap, .int .u64 (K : Nat), .slice bo l0 rcap] 109)).heap.size = w.heap.size + 1 by simp] at this
  have JC : Hid (∀ W, Kept Nought W0 W → W.cell? ⟨w.heap.size, 0, none⟩ = some (.slice ao n mcap) ∧ W.cell? ⟨w.heap.size, 1, none⟩ = some (.int .u64 (K : Nat)) ∧ W.cell? ⟨w.heap.size, 2, none⟩ = some (.slice bo l0 rcap) ∧ W.cell? ⟨w.heap.size + 1, 0, none⟩ = some (.slice xo n xc)) := fun W k => by
    obtain ⟨q0, q1, q2⟩ := cells3 ((k.block _ (lt_of_block hM0) (fun f => f)).trans hM0)
    exact ⟨q0, q1, q2, (hX0.grew k).cell⟩
  have JOne : Hid (Calls Tryz.prog 113 #[.agg #[.slice ao n mcap, .int .u64 (K : Nat), .slice bo l0 rcap]] W0 fun e w' => ∃ zo zc, e = .returned (.slice zo n zc) ∧ MonR w' (.slice zo n zc) n V 1 ∧ Kept Nought W0 w') := by
    have := one9 ao bo n l0 K mcap rcap ms rs W0 (hM.grew k0)
    rw [← hV] at this
    exact this
  have JMul : Hid (∀ W yo yc zo zc P Q, Kept Nought W0 W → MonR W (.slice yo n yc) n V P → MonR W (.slice zo n zc) n V Q → Calls Tryz.prog 115 #[.pointer none, .agg #[.slice ao n mcap, .int .u64 (K : Nat), .slice bo l0 rcap], .slice yo n yc, .slice zo n zc] W fun e w' => ∃ ro rc, e = .returned (.tuple #[.slice ro n rc, .int .i64 0]) ∧ MonR w' (.slice ro n rc) n V (P * Q) ∧ Fresh W (.slice ro n rc) ∧ Kept Nought W w') := fun W yo yc zo zc P Q k hA hB => by
    rw [hV] at hA hB ⊢
    exact mul9 ao bo yo zo n l0 K mcap rcap yc zc P Q ms rs W (hM.grew (k0.trans k)) hA hB
  have JX : Hid (∀ W, Kept Nought W0 W → MonR W (.slice xo n xc) n V X) := fun W k => hx.grew (k0.trans k)
  have JRow : Hid (∀ W, Kept Nought W0 W → Row .u64 W (.slice eo L ecap) ys) := fun W k => he.grew (k0.trans k)
  obtain ⟨_, _, _, e1, hlen, _⟩ := he.open
  cases e1
  have HLen := toHid hlen
  have HOwn : Hid (∀ b, (Value.slice eo L ecap).ownBlock = some b → 0 < L → b < w.heap.size) := fun b hb hp => he.lt (by intro e; rw [e] at hlen; have := hlen.out; simp at this; omega) b hb
  have HW0 := toHid hW0
  have HK0 := toHid k0
  have HF0 := toHid f0
  obtain ⟨c0, c1, c2, c3⟩ := JC.out _ (Kept.refl Nought W0)
  have hO := JOne.out
  clear hW0 k0 hM0 hX0 hM hx he hlen hV f0 f2 f3 JOne
  refine (callsIn_wide (n := 9)).1 ?_
  refine callsIn_of_wp_marks Tryz.func144 rfl trivial ?_ rfl
  simp only [Tryz.ntmps144, List.size_toArray, List.length_cons, List.length_nil, Nat.reduceAdd, Nat.reduceSub, Array.replicate_succ, Array.replicate_zero, List.push_toArray, List.append_toArray, List.nil_append, List.cons_append]
  refine wpIn_wide.2 ?_
  go_wp2_with (rw [← HW0.out])
  refine hO.mono ?_
  rintro e W1 ⟨po, pc, rfl, hP1, k1⟩
  clear hO c0 c1 c2 c3
  go_wp2_with fail
  have hWB := shoBox eo L ecap (W1.alloc (.cells #[.slice po n pc] 31))
  refine hWB.mono ?_
  rintro e W3 ⟨rfl, rfl⟩
  have kP : Kept Nought W1 (W1.alloc (.cells #[.slice po n pc] 31)) := (Kept.refl Nought W1).alloc _
  have kE := kP.alloc (.cells #[.slice eo L ecap] 31)
  have bxP := (Box.new W1 (.slice po n pc) 31).alloc (.cells #[.slice eo L ecap] 31)
  have bxE := Box.new (W1.alloc (.cells #[.slice po n pc] 31)) (.slice eo L ecap) 31
  have hs3 : ((W1.alloc (.cells #[.slice po n pc] 31)).alloc (.cells #[.slice eo L ecap] 31)).heap.size = W1.heap.size + 2 := by simp
  rw [World.size_alloc] at bxE
  have hrow := JRow.out _ (k1.trans kE)
  have hne0 : ∀ b, (Value.slice po n pc).ownBlock = some b → b ≠ W1.heap.size := fun b hb e => by
    have := Row.lt hP1 (by intro h; have h1 := congrArg List.length h; rw [digs_length] at h1; have h2 : n = 0 := h1; have := HF0.out; omega) b hb
    omega
  have R0 : Hid (RS9 W1 _ _ W1.heap.size n V 1 (.slice po n pc)) := toHid ⟨bxP, hP1.grew kE, hne0, kE, Kept.refl _ _⟩
  obtain ⟨N, hN⟩ : ∃ N, blen (val 18446744073709551616 ys) = N := ⟨_, rfl⟩
  obtain ⟨g, hg⟩ : ∃ g : Nat → Nat, ∀ j, val 18446744073709551616 ys / 2 ^ (N - 1 - j) % 2 = g j := ⟨_, fun _ => rfl⟩
  have HG := toHid hg
  have HN := toHid hN
  have K1 := toHid k1
  clear hWB kP bxP hP1 hne0
  go_wp2_with fail
  generalize (W1.alloc (.cells #[.slice po n pc] 31)).alloc (.cells #[.slice eo L ecap] 31) = W3 at *
  refine (wpIn_wide (n := 9)).1 ?_
  refine wpIn_rangeFunc_ownG (F := Fence.wide) (n := 9) rfl (by omega) (gf := 182) (lb := #[.pointer (some ⟨W1.heap.size + 1, 0, none⟩)]) rfl trivial (enters_of Tryz.func182 (by kernel_rfl) rfl)
    (shoStops 8 (by omega) (W1.heap.size + 1) L N g (.slice eo L ecap) ys hde HLen.out.out hN (by omega) hg (fun k => k = W1.heap.size + 1 ∨ ((Value.slice eo L ecap).ownBlock = some k ∧ 0 < L)) (.inl rfl) (fun b hb hp => .inr ⟨hb, hp⟩) _ ?hsw bxE.cell hrow) KeepB.trans (KeepB.put ?hsw2) (Below.refl _ _) (fun _ => rfl)
    (Btw9 W1 W1.heap.size n V X (.slice eo L ecap) g) (fun _ _ _ => False)
    (ownFrom_turn (fun s A B hs t => hs.turn t (by rw [hs3]; omega))) (fun _ _ _ _ _ hs _ _ => hs)
    ⟨po, pc, by have := R0.out; exact this, bxE⟩
    ?act ?assign ?body ?done ?stop
  case hsw =>
    rintro k (rfl | ⟨hk, hp⟩)
    · omega
    · have := HOwn.out k hk hp
      have := HK0.out.size
      have := K1.out.size
      omega
  case hsw2 =>
    rintro k (rfl | ⟨hk, hp⟩)
    · omega
    · have := HOwn.out k hk hp
      have := HK0.out.size
      have := K1.out.size
      omega
  case assign =>
    intro l x W K hK
    gi_wp2
    exact hK
  case body =>
    rintro l pre x W ⟨qo, qc, R1, hbe⟩ hlt
    have HBE := toHid hbe
    have HX : Hid (g x.val < 2) := by rw [← HG.out]; exact Nat.mod_lt _ (by omega)
    have HR := toHid R1
    have HEnd : Hid (∀ (wE : World) (qto : Option Addr) (tc : Nat), RS9 W1 W wE W1.heap.size n V (X ^ bndF g (pre ++ [x])) (.slice qto n tc) → KeepsFrom W3.heap.size W wE ∧ KeepB (fun k => k = W1.heap.size + 1 ∨ ((Value.slice eo L ecap).ownBlock = some k ∧ 0 < L)) W wE ∧ Btw9 W1 W1.heap.size n V X (.slice eo L ecap) g (pre ++ [x]) wE) := fun wE qto tc RE => by
      have kE2 : Box wE (W1.heap.size + 1) (.slice eo L ecap) 31 := HBE.out.kept RE.kept (by omega)
      refine ⟨keepsFrom_kept RE.kept (fun b hb _ => ?_), ?_, qto, tc, ⟨RE.box, RE.num, RE.ne, RE.old, Kept.refl _ _⟩, kE2⟩
      · subst hb
        exact ⟨_, _, _, HR.out.box⟩
      · rintro k (rfl | ⟨hk, hp⟩)
        · exact (show wE.heap[_]? = _ from kE2).trans (show W.heap[_]? = _ from HBE.out).symm
        · have h1 := HOwn.out k hk hp
          have h2 := HK0.out.size
          have h3 := K1.out.size
          have h4 := HR.out.old.size
          exact RE.kept.block k (by omega) (by omega)
    obtain ⟨q0, q1, q2, q3⟩ := JC.out _ (K1.out.trans R1.old)
    have qP := R1.box.cell
    have fP := R1.box.free
    have hMul := JMul.out W qo qc qo qc _ _ (K1.out.trans R1.old) R1.num R1.num
    rw [← Nat.pow_add] at hMul
    clear R1 hbe
    gi_wp2_with fail
    refine ⟨trivial, ?_⟩
    refine (CallsIn.inRound l (callsIn_wide.2 hMul)).mono ?_
    rintro e w7 ⟨so, sc, rfl, hA7, hF7, d7⟩
    have R7 := HR.out.step d7
    have hne7 : ∀ b, (Value.slice so n sc).ownBlock = some b → b ≠ W1.heap.size := fun b hb e => by
      have h1 := hF7 b hb
      have h2 := HR.out.box.lt
      omega
    have R8 := toHid (R7.put hA7 hne7 (Nat.le_refl _))
    have qP7 := R7.box.cell
    have fP7 := R7.box.free
    clear hMul hA7 hF7 d7 hne7 R7 q0 q1 q2 q3 qP fP
    by_cases h1 : g x.val = 1
    · obtain ⟨q0, q1, q2, q3⟩ := JC.out _ (K1.out.trans R8.out.old)
      have qP := R8.out.box.cell
      have fP := R8.out.box.free
      have hMul := JMul.out _ so sc xo xc _ _ (K1.out.trans R8.out.old) R8.out.num (JX.out _ (K1.out.trans R8.out.old))
      rw [← Nat.pow_succ, show (bndF g pre + bndF g pre).succ = bndF g (pre ++ [x]) by rw [bndF_snoc, h1]; omega] at hMul
      have gx : ((g x.val : Nat) : Int) = 1 := by omega
      clear h1
      gi_wp2_with fail
      refine ⟨trivial, ?_⟩
      refine (CallsIn.inRound l (callsIn_wide.2 hMul)).mono ?_
      rintro e w9 ⟨qto, tc, rfl, hA9, hF9, d9⟩
      have R9 := R8.out.step d9
      have hne9 : ∀ b, (Value.slice qto n tc).ownBlock = some b → b ≠ W1.heap.size := fun b hb e => by
        have h1 := hF9 b hb
        have h2 := R8.out.box.lt
        omega
      have R10 := toHid (R9.put hA9 hne9 (Nat.le_refl _))
      have qP9 := R9.box.cell
      have fP9 := R9.box.free
      clear hMul hA9 hF9 d9 hne9 R9 q0 q1 q2 q3 qP fP
      gi_wp2_with fail
      exact HEnd.out _ _ _ R10.out
    · have gx : ¬ ((g x.val : Nat) : Int) = 1 := by omega
      have R9 := R8.out
      rw [show bndF g pre + bndF g pre = bndF g (pre ++ [x]) by rw [bndF_snoc]; have := HX.out; omega] at R9
      have HR9 := toHid R9
      clear h1 R9
      gi_wp2_with fail
      exact HEnd.out _ _ _ HR9.out
  case done =>
    rintro D zs W hD hzs ⟨qo, qc, R1, hbe⟩ hK
    have qP := R1.box.cell
    have hE : bndF g zs = val 18446744073709551616 ys := by
      rw [bndF_all hzs, show g = fun j => val 18446744073709551616 ys / 2 ^ (N - 1 - j) % 2 from funext (fun j => (HG.out j).symm)]
      exact bnd_all HN.out
    rw [hE] at R1
    have HR := toHid R1
    have HK := toHid hK
    clear hE hzs R1 hbe hg hN hK
    go_wp2_with fail
    refine ⟨by simp, .inl ⟨_, _, rfl, run_takeDeferred HK.out, ?_⟩⟩
    have tt := turn_put (B := W3.heap.size) hD HK.out rfl (.deferred none)
    exact ⟨_, results_tmp rfl _ _ _, qo, qc, rfl, tt.row HR.out.num, tt.kept (HK0.out.trans (K1.out.trans HR.out.old)) (by have h1 := HK0.out.size; have h2 := K1.out.size; omega)⟩
  case stop =>
    rintro D c pre W _ _ h _
    exact h.elim

end Go.Proofs.YtcjaafmlflonhaaGreatDoor

