/- Put together of: Sho2 Sho3. -/
import Derived.Test.YtldbfcifoijliaaGreatDoorPk19
import Derived.Test.YtldbfcifoijliaaGreatDoorPk21

/- Package short: a number to a power, bit by bit (raised). -/
namespace Go.Proofs.YtldbfcifoijliaaGreatDoor
open Go.RowKit Go.Shelf

attribute [local go_sem] Oper.semAt_some

/-- A number in Montgomery's form. -/
def MonR (w : World) (v : Value) (n V P : Nat) : Prop := Row .u64 w v (digs 18446744073709551616 (mon n V P) n)

theorem MonR.grew {w w' : World} {v : Value} {n V P : Nat} (h : MonR w v n V P) (k : Kept Nought w w') : MonR w' v n V P := Row.grew h k

theorem MonR.shape {w : World} {v : Value} {n V P : Nat} (h : MonR w v n V P) : ∃ xo xc, v = .slice xo n xc := by
  obtain ⟨xo, xn, xc, rfl, hl, _⟩ := Row.open h
  have := hl.out
  rw [digs_length] at this
  subst this
  exact ⟨_, _, rfl⟩

/-- The product of two such numbers, with no trace. -/
theorem mul9 (ao bo xo yo : Option Addr) (n l K mcap rcap xc yc P Q : Nat) (ms rs : List Nat) (w : World) (hM : Mod8 w none ao bo n l K mcap rcap ms rs) (hx : MonR w (.slice xo n xc) n (val 18446744073709551616 ms) P) (hy : MonR w (.slice yo n yc) n (val 18446744073709551616 ms) Q) :
    Calls Tryz.prog 89 #[.pointer none, .agg #[.slice ao n mcap, .int .u64 (K : Nat), .slice bo l rcap], .slice xo n xc, .slice yo n yc] w fun e w' => ∃ zo zc, e = .returned (.tuple #[.slice zo n zc, .int .i64 0]) ∧ MonR w' (.slice zo n zc) n (val 18446744073709551616 ms) (P * Q) ∧ Fresh w (.slice zo n zc) ∧ Kept Nought w w' := by
  obtain ⟨⟨f0, f1⟩, f2, f3, f4, f5⟩ := hM.facts
  have hV : 0 < val 18446744073709551616 ms := by omega
  have ex := mon_val (P := P) hV f5
  have ey := mon_val (P := Q) hV f5
  refine (mMul none ao bo xo yo n l K mcap rcap n n xc yc 0 ms rs _ _ w (TrRoom.none w _ (by omega)) hM.hm hM.hr (RowT.none hx) (RowT.none hy) hM.hmd hM.hrd (digs_digs (by omega) _ _) (digs_digs (by omega) _ _) hM.hK (by omega) ⟨fun _ => ⟨hM.ok, ⟨rfl, by rw [ex]; exact mon_lt hV⟩, rfl, by rw [ey]; exact mon_lt hV⟩, fun _ => rfl⟩ (by omega)).mono ?_
  rintro e w' ⟨v', rfl, ⟨Y, hR, hG⟩, ⟨hF, hU⟩, o', d⟩
  rw [if_pos rfl] at hR
  have hG' := hG rfl
  rw [ex, ey] at hG'
  rw [mon_mul f3 hG'.1 hG'.2] at hR
  have hA : MonR w' v' n (val 18446744073709551616 ms) (P * Q) := hR
  obtain ⟨zo, zc, rfl⟩ := hA.shape
  exact ⟨zo, zc, rfl, hA, hF, d.none.2⟩

/-- A number comes out, with no trace. -/
theorem lea9 (ao bo xo : Option Addr) (n l K mcap rcap xc P : Nat) (ms rs : List Nat) (w : World) (hM : Mod8 w none ao bo n l K mcap rcap ms rs) (hx : MonR w (.slice xo n xc) n (val 18446744073709551616 ms) P) :
    Calls Tryz.prog 65 #[.pointer none, .agg #[.slice ao n mcap, .int .u64 (K : Nat), .slice bo l rcap], .slice xo n xc] w fun e w' => ∃ v', e = .returned (.tuple #[v', .int .i64 0]) ∧ Row .u64 w' v' (digs 18446744073709551616 (P % val 18446744073709551616 ms) n) ∧ Kept Nought w w' := by
  obtain ⟨⟨f0, f1⟩, f2, f3, f4, f5⟩ := hM.facts
  have hV : 0 < val 18446744073709551616 ms := by omega
  have ex := mon_val (P := P) hV f5
  refine (mLeave none ao bo xo n l K mcap rcap n xc 0 ms rs _ w (TrRoom.none w _ (by omega)) hM.hm hM.hr (RowT.none hx) hM.hmd hM.hrd (digs_digs (by omega) _ _) hM.hK (by omega) ⟨fun _ => ⟨hM.ok, rfl, by rw [ex]; exact mon_lt hV⟩, fun _ => rfl⟩ (by omega)).mono ?_
  rintro e w' ⟨v', rfl, ⟨Y, hR, hG⟩, ⟨hF, hU⟩, o', d⟩
  rw [if_pos rfl] at hR
  have hG' := hG rfl
  rw [ex] at hG'
  rw [mon_leave f3 hG'.1 hG'.2] at hR
  exact ⟨v', rfl, hR, d.none.2⟩

/-- 1 as it is there. -/
theorem one9 (ao bo : Option Addr) (n l K mcap rcap : Nat) (ms rs : List Nat) (w : World) (hM : Mod8 w none ao bo n l K mcap rcap ms rs) :
    Calls Tryz.prog 87 #[.agg #[.slice ao n mcap, .int .u64 (K : Nat), .slice bo l rcap]] w fun e w' => ∃ zo zc, e = .returned (.slice zo n zc) ∧ MonR w' (.slice zo n zc) n (val 18446744073709551616 ms) 1 ∧ Kept Nought w w' := by
  obtain ⟨⟨f0, f1⟩, f2, f3, f4, f5⟩ := hM.facts
  refine (mOne ao bo n l K mcap rcap ms rs (digs 18446744073709551616 (mon n (val 18446744073709551616 ms) 1) n) w hM.hm.1 hM.hr.1 hM.hmd hM.hrd hM.hK (by omega) (fun _ => by unfold mon; rw [Nat.mul_one]) (fun h => absurd hM.ok h)).mono ?_
  rintro e w' ⟨v', rfl, hR, k⟩
  have hA : MonR w' v' n (val 18446744073709551616 ms) 1 := hR
  obtain ⟨zo, zc, rfl⟩ := hA.shape
  exact ⟨zo, zc, rfl, hA, k⟩

/-- What stands in a round that began in W: the variable at bP holds qv, which is P in Montgomery's form; what was ahead of that variable, in W1, stands. -/
structure RS9 (W1 W w : World) (bP n V P : Nat) (qv : Value) : Prop where
  box : Box w bP qv 23
  num : MonR w qv n V P
  ne : ∀ b, qv.ownBlock = some b → b ≠ bP
  old : Kept Nought W1 w
  kept : Kept (fun b => b = bP) W w

theorem RS9.step {W1 W w w' : World} {bP n V P : Nat} {qv : Value} (h : RS9 W1 W w bP n V P qv) (k : Kept Nought w w') : RS9 W1 W w' bP n V P qv :=
  ⟨h.box.grew k, h.num.grew k, h.ne, h.old.trans k, h.kept.next k (fun _ _ f => f.elim)⟩

theorem RS9.put {W1 W w : World} {bP n V P Q : Nat} {qv zv : Value} (h : RS9 W1 W w bP n V P qv) (hz : MonR w zv n V Q) (hne : ∀ b, zv.ownBlock = some b → b ≠ bP) (hb : W1.heap.size ≤ bP) : RS9 W1 W (w.setCell ⟨bP, 0, none⟩ zv) bP n V Q zv := by
  have kb := kept_box w bP zv
  exact ⟨h.box.set zv, Row.kept hz kb hne, hne, kept_new h.old kb hb, h.kept.next kb (fun _ _ f => f)⟩

/-- The exponent that bits come to. -/
def bndF {N : Nat} (g : Nat → Nat) (pre : List (Fin N)) : Nat := bndN (pre.map fun x => g x.val)

theorem bndF_snoc {N : Nat} (g : Nat → Nat) (pre : List (Fin N)) (x : Fin N) : bndF g (pre ++ [x]) = 2 * bndF g pre + g x.val := by
  unfold bndF
  rw [List.map_append, List.map_cons, List.map_nil, bndN_snoc]

theorem bndF_all {N : Nat} {g : Nat → Nat} {ys : List (Fin N)} (h : ys.map Fin.val = List.range N) : bndF g ys = bndN ((List.range N).map g) := by
  unfold bndF
  rw [← h, List.map_map]
  rfl

/-- What stands between two rounds. -/
def Btw9 (W1 : World) (bP n V X : Nat) (ev : Value) {N : Nat} (g : Nat → Nat) (pre : List (Fin N)) (W : World) : Prop :=
  ∃ (qo : Option Addr) (qc : Nat), RS9 W1 W W bP n V (X ^ bndF g pre) (.slice qo n qc) ∧ Box W (bP + 1) ev 23

theorem Btw9.turn {W1 : World} {bP n V X N B : Nat} {ev : Value} {g : Nat → Nat} {pre : List (Fin N)} {W W' : World} (h : Btw9 W1 bP n V X ev g pre W) (t : Turn B W W') (hB : W1.heap.size ≤ B) : Btw9 W1 bP n V X ev g pre W' := by
  obtain ⟨qo, qc, h1, h2⟩ := h
  exact ⟨qo, qc, ⟨t.cells h1.box, t.row h1.num, h1.ne, t.kept h1.old hB, Kept.refl _ _⟩, t.cells h2⟩

set_option maxRecDepth 100000 in
set_option maxHeartbeats 4000000 in
/-- raised. -/
theorem sRaised (ao bo xo eo : Option Addr) (n l0 K mcap rcap xc L ecap X : Nat) (ms rs ys : List Nat) (w : World) (hM : Mod8 w none ao bo n l0 K mcap rcap ms rs) (hx : MonR w (.slice xo n xc) n (val 18446744073709551616 ms) X)
    (he : Row .u64 w (.slice eo L ecap) ys) (hde : Digs 18446744073709551616 ys) (hL : L ≤ 300) :
    Calls Tryz.prog 66 #[.agg #[.slice ao n mcap, .int .u64 (K : Nat), .slice bo l0 rcap], .slice xo n xc, .slice eo L ecap] w fun e w' => ∃ zo zc, e = .returned (.slice zo n zc) ∧ MonR w' (.slice zo n zc) n (val 18446744073709551616 ms) (X ^ val 18446744073709551616 ys) ∧ Kept Nought w w' := by
  obtain ⟨⟨f0, f1⟩, f2, f3, f4, f5⟩ := hM.facts
  obtain ⟨V, hV⟩ : ∃ V, V = val 18446744073709551616 ms := ⟨_, rfl⟩
  rw [← hV] at f3 f4 f5 hx ⊢
  obtain ⟨W0, hW0⟩ : ∃ W0, W0 = (w.alloc (.cells #[.slice ao n mcap, .int .u64 (K : Nat), .slice bo l0 rcap] 52)).alloc (.cells #[.slice xo n xc] 23) := ⟨_, rfl⟩
  have k0 : Kept Nought w W0 := by rw [hW0]; exact ((Kept.refl Nought w).alloc _).alloc _
  have hM0 : W0.heap[w.heap.size]? = some (.cells #[.slice ao n mcap, .int .u64 (K : Nat), .slice bo l0 rcap] 52 (0, 0)) := by
    rw [hW0]
    exact heapAt_alloc (heap_alloc_new w _)
  have hX0 : Box W0 (w.heap.size + 1) (.slice xo n xc) 23 := by
    rw [hW0]
    have := Box.new (w.alloc (.cells #[.slice ao n mcap, .int .u64 (K : Nat), .slice bo l0 rcap] 52)) (.slice xo n xc) 23
    rwa [show (w.alloc (.cells #[.slice ao n mcap, .int .u64 (K : Nat), .slice bo l0 rcap] 52)).heap.size = w.heap.size + 1 by simp] at this
  have JC : Hid (∀ W, Kept Nought W0 W → W.cell? ⟨w.heap.size, 0, none⟩ = some (.slice ao n mcap) ∧ W.cell? ⟨w.heap.size, 1, none⟩ = some (.int .u64 (K : Nat)) ∧ W.cell? ⟨w.heap.size, 2, none⟩ = some (.slice bo l0 rcap) ∧ W.cell? ⟨w.heap.size + 1, 0, none⟩ = some (.slice xo n xc)) := fun W k => by
    obtain ⟨q0, q1, q2⟩ := cells3 ((k.block _ (lt_of_block hM0) (fun f => f)).trans hM0)
    exact ⟨q0, q1, q2, (hX0.grew k).cell⟩
  have JOne : Hid (Calls Tryz.prog 87 #[.agg #[.slice ao n mcap, .int .u64 (K : Nat), .slice bo l0 rcap]] W0 fun e w' => ∃ zo zc, e = .returned (.slice zo n zc) ∧ MonR w' (.slice zo n zc) n V 1 ∧ Kept Nought W0 w') := by
    have := one9 ao bo n l0 K mcap rcap ms rs W0 (hM.grew k0)
    rw [← hV] at this
    exact this
  have JMul : Hid (∀ W yo yc zo zc P Q, Kept Nought W0 W → MonR W (.slice yo n yc) n V P → MonR W (.slice zo n zc) n V Q → Calls Tryz.prog 89 #[.pointer none, .agg #[.slice ao n mcap, .int .u64 (K : Nat), .slice bo l0 rcap], .slice yo n yc, .slice zo n zc] W fun e w' => ∃ ro rc, e = .returned (.tuple #[.slice ro n rc, .int .i64 0]) ∧ MonR w' (.slice ro n rc) n V (P * Q) ∧ Fresh W (.slice ro n rc) ∧ Kept Nought W w') := fun W yo yc zo zc P Q k hA hB => by
    rw [hV] at hA hB ⊢
    exact mul9 ao bo yo zo n l0 K mcap rcap yc zc P Q ms rs W (hM.grew (k0.trans k)) hA hB
  have JX : Hid (∀ W, Kept Nought W0 W → MonR W (.slice xo n xc) n V X) := fun W k => hx.grew (k0.trans k)
  have JRow : Hid (∀ W, Kept Nought W0 W → Row .u64 W (.slice eo L ecap) ys) := fun W k => he.grew (k0.trans k)
  obtain ⟨_, _, _, e1, hlen, _⟩ := he.open
  cases e1
  have HLen := toHid hlen
  have HOwn : Hid (∀ b, (Value.slice eo L ecap).ownBlock = some b → 0 < L → b < w.heap.size) := fun b hb hp => he.lt (by intro e; rw [e] at hlen; have := hlen.out; simp at this; omega) b hb
  have HW0 := toHid hW0
  have HK0 := toHid k0
  have HF0 := toHid f0
  obtain ⟨c0, c1, c2, c3⟩ := JC.out _ (Kept.refl Nought W0)
  have hO := JOne.out
  clear hW0 k0 hM0 hX0 hM hx he hlen hV f0 f2 f3 JOne
  refine (callsIn_wide (n := 9)).1 ?_
  refine callsIn_of_wp_marks Tryz.func66 rfl trivial ?_ rfl
  simp only [Tryz.ntmps66, List.size_toArray, List.length_cons, List.length_nil, Nat.reduceAdd, Nat.reduceSub, Array.replicate_succ, Array.replicate_zero, List.push_toArray, List.append_toArray, List.nil_append, List.cons_append]
  refine wpIn_wide.2 ?_
  go_wp2_with (rw [← HW0.out])
  refine hO.mono ?_
  rintro e W1 ⟨po, pc, rfl, hP1, k1⟩
  clear hO c0 c1 c2 c3
  go_wp2_with fail
  have hWB := shoBox eo L ecap (W1.alloc (.cells #[.slice po n pc] 23))
  refine hWB.mono ?_
  rintro e W3 ⟨rfl, rfl⟩
  have kP : Kept Nought W1 (W1.alloc (.cells #[.slice po n pc] 23)) := (Kept.refl Nought W1).alloc _
  have kE := kP.alloc (.cells #[.slice eo L ecap] 23)
  have bxP := (Box.new W1 (.slice po n pc) 23).alloc (.cells #[.slice eo L ecap] 23)
  have bxE := Box.new (W1.alloc (.cells #[.slice po n pc] 23)) (.slice eo L ecap) 23
  have hs3 : ((W1.alloc (.cells #[.slice po n pc] 23)).alloc (.cells #[.slice eo L ecap] 23)).heap.size = W1.heap.size + 2 := by simp
  rw [World.size_alloc] at bxE
  have hrow := JRow.out _ (k1.trans kE)
  have hne0 : ∀ b, (Value.slice po n pc).ownBlock = some b → b ≠ W1.heap.size := fun b hb e => by
    have := Row.lt hP1 (by intro h; have h1 := congrArg List.length h; rw [digs_length] at h1; have h2 : n = 0 := h1; have := HF0.out; omega) b hb
    omega
  have R0 : Hid (RS9 W1 _ _ W1.heap.size n V 1 (.slice po n pc)) := toHid ⟨bxP, hP1.grew kE, hne0, kE, Kept.refl _ _⟩
  obtain ⟨N, hN⟩ : ∃ N, blen (val 18446744073709551616 ys) = N := ⟨_, rfl⟩
  obtain ⟨g, hg⟩ : ∃ g : Nat → Nat, ∀ j, val 18446744073709551616 ys / 2 ^ (N - 1 - j) % 2 = g j := ⟨_, fun _ => rfl⟩
  have HG := toHid hg
  have HN := toHid hN
  have K1 := toHid k1
  clear hWB kP bxP hP1 hne0
  go_wp2_with fail
  generalize (W1.alloc (.cells #[.slice po n pc] 23)).alloc (.cells #[.slice eo L ecap] 23) = W3 at *
  refine (wpIn_wide (n := 9)).1 ?_
  refine wpIn_rangeFunc_ownG (F := Fence.wide) (n := 9) rfl (by omega) (gf := 104) (lb := #[.pointer (some ⟨W1.heap.size + 1, 0, none⟩)]) rfl trivial (enters_of Tryz.func104 (by kernel_rfl) rfl)
    (shoStops 8 (by omega) (W1.heap.size + 1) L N g (.slice eo L ecap) ys hde HLen.out.out hN (by omega) hg (fun k => k = W1.heap.size + 1 ∨ ((Value.slice eo L ecap).ownBlock = some k ∧ 0 < L)) (.inl rfl) (fun b hb hp => .inr ⟨hb, hp⟩) _ ?hsw bxE.cell hrow) KeepB.trans (KeepB.put ?hsw2) (Below.refl _ _) (fun _ => rfl)
    (Btw9 W1 W1.heap.size n V X (.slice eo L ecap) g) (fun _ _ _ => False)
    (ownFrom_turn (fun s A B hs t => hs.turn t (by rw [hs3]; omega))) (fun _ _ _ _ _ hs _ _ => hs)
    ⟨po, pc, by have := R0.out; exact this, bxE⟩
    ?act ?assign ?body ?done ?stop
  case hsw =>
    rintro k (rfl | ⟨hk, hp⟩)
    · omega
    · have := HOwn.out k hk hp
      have := HK0.out.size
      have := K1.out.size
      omega
  case hsw2 =>
    rintro k (rfl | ⟨hk, hp⟩)
    · omega
    · have := HOwn.out k hk hp
      have := HK0.out.size
      have := K1.out.size
      omega
  case assign =>
    intro l x W K hK
    gi_wp2
    exact hK
  case body =>
    rintro l pre x W ⟨qo, qc, R1, hbe⟩ hlt
    have HBE := toHid hbe
    have HX : Hid (g x.val < 2) := by rw [← HG.out]; exact Nat.mod_lt _ (by omega)
    have HR := toHid R1
    have HEnd : Hid (∀ (wE : World) (qto : Option Addr) (tc : Nat), RS9 W1 W wE W1.heap.size n V (X ^ bndF g (pre ++ [x])) (.slice qto n tc) → KeepsFrom W3.heap.size W wE ∧ KeepB (fun k => k = W1.heap.size + 1 ∨ ((Value.slice eo L ecap).ownBlock = some k ∧ 0 < L)) W wE ∧ Btw9 W1 W1.heap.size n V X (.slice eo L ecap) g (pre ++ [x]) wE) := fun wE qto tc RE => by
      have kE2 : Box wE (W1.heap.size + 1) (.slice eo L ecap) 23 := HBE.out.kept RE.kept (by omega)
      refine ⟨keepsFrom_kept RE.kept (fun b hb _ => ?_), ?_, qto, tc, ⟨RE.box, RE.num, RE.ne, RE.old, Kept.refl _ _⟩, kE2⟩
      · subst hb
        exact ⟨_, _, _, HR.out.box⟩
      · rintro k (rfl | ⟨hk, hp⟩)
        · exact (show wE.heap[_]? = _ from kE2).trans (show W.heap[_]? = _ from HBE.out).symm
        · have h1 := HOwn.out k hk hp
          have h2 := HK0.out.size
          have h3 := K1.out.size
          have h4 := HR.out.old.size
          exact RE.kept.block k (by omega) (by omega)
    obtain ⟨q0, q1, q2, q3⟩ := JC.out _ (K1.out.trans R1.old)
    have qP := R1.box.cell
    have fP := R1.box.free
    have hMul := JMul.out W qo qc qo qc _ _ (K1.out.trans R1.old) R1.num R1.num
    rw [← Nat.pow_add] at hMul
    clear R1 hbe
    gi_wp2_with fail
    refine ⟨trivial, ?_⟩
    refine (CallsIn.inRound l (callsIn_wide.2 hMul)).mono ?_
    rintro e w7 ⟨so, sc, rfl, hA7, hF7, d7⟩
    have R7 := HR.out.step d7
    have hne7 : ∀ b, (Value.slice so n sc).ownBlock = some b → b ≠ W1.heap.size := fun b hb e => by
      have h1 := hF7 b hb
      have h2 := HR.out.box.lt
      omega
    have R8 := toHid (R7.put hA7 hne7 (Nat.le_refl _))
    have qP7 := R7.box.cell
    have fP7 := R7.box.free
    clear hMul hA7 hF7 d7 hne7 R7 q0 q1 q2 q3 qP fP
    by_cases h1 : g x.val = 1
    · obtain ⟨q0, q1, q2, q3⟩ := JC.out _ (K1.out.trans R8.out.old)
      have qP := R8.out.box.cell
      have fP := R8.out.box.free
      have hMul := JMul.out _ so sc xo xc _ _ (K1.out.trans R8.out.old) R8.out.num (JX.out _ (K1.out.trans R8.out.old))
      rw [← Nat.pow_succ, show (bndF g pre + bndF g pre).succ = bndF g (pre ++ [x]) by rw [bndF_snoc, h1]; omega] at hMul
      have gx : ((g x.val : Nat) : Int) = 1 := by omega
      clear h1
      gi_wp2_with fail
      refine ⟨trivial, ?_⟩
      refine (CallsIn.inRound l (callsIn_wide.2 hMul)).mono ?_
      rintro e w9 ⟨qto, tc, rfl, hA9, hF9, d9⟩
      have R9 := R8.out.step d9
      have hne9 : ∀ b, (Value.slice qto n tc).ownBlock = some b → b ≠ W1.heap.size := fun b hb e => by
        have h1 := hF9 b hb
        have h2 := R8.out.box.lt
        omega
      have R10 := toHid (R9.put hA9 hne9 (Nat.le_refl _))
      have qP9 := R9.box.cell
      have fP9 := R9.box.free
      clear hMul hA9 hF9 d9 hne9 R9 q0 q1 q2 q3 qP fP
      gi_wp2_with fail
      exact HEnd.out _ _ _ R10.out
    · have gx : ¬ ((g x.val : Nat) : Int) = 1 := by omega
      have R9 := R8.out
      rw [show bndF g pre + bndF g pre = bndF g (pre ++ [x]) by rw [bndF_snoc]; have := HX.out; omega] at R9
      have HR9 := toHid R9
      clear h1 R9
      gi_wp2_with fail
      exact HEnd.out _ _ _ HR9.out
  case done =>
    rintro D zs W hD hzs ⟨qo, qc, R1, hbe⟩ hK
    have qP := R1.box.cell
    have hE : bndF g zs = val 18446744073709551616 ys := by
      rw [bndF_all hzs, show g = fun j => val 18446744073709551616 ys / 2 ^ (N - 1 - j) % 2 from funext (fun j => (HG.out j).symm)]
      exact bnd_all HN.out
    rw [hE] at R1
    have HR := toHid R1
    have HK := toHid hK
    clear hE hzs R1 hbe hg hN hK
    go_wp2_with fail
    refine ⟨by simp, .inl ⟨_, _, rfl, run_takeDeferred HK.out, ?_⟩⟩
    have tt := turn_put (B := W3.heap.size) hD HK.out rfl (.deferred none)
    exact ⟨_, results_tmp rfl _ _ _, qo, qc, rfl, tt.row HR.out.num, tt.kept (HK0.out.trans (K1.out.trans HR.out.old)) (by have h1 := HK0.out.size; have h2 := K1.out.size; omega)⟩
  case stop =>
    rintro D c pre W _ _ h _
    exact h.elim

end Go.Proofs.YtldbfcifoijliaaGreatDoor


/- Package short: Quick, Exp. -/
namespace Go.Proofs.YtldbfcifoijliaaGreatDoor
open Go.RowKit

/-- A number goes in, with no trace. -/
theorem ent9 (ao bo xo : Option Addr) (n l K mcap rcap xc : Nat) (ms rs xs : List Nat) (w : World) (hM : Mod8 w none ao bo n l K mcap rcap ms rs) (hx : Row .u64 w (.slice xo n xc) xs) (hdx : Digs 18446744073709551616 xs) (hlt : val 18446744073709551616 xs < val 18446744073709551616 ms) :
    Calls Tryz.prog 64 #[.pointer none, .agg #[.slice ao n mcap, .int .u64 (K : Nat), .slice bo l rcap], .slice xo n xc] w fun e w' => ∃ zo zc, e = .returned (.tuple #[.slice zo n zc, .int .i64 0]) ∧ MonR w' (.slice zo n zc) n (val 18446744073709551616 ms) (val 18446744073709551616 xs) ∧ Kept Nought w w' := by
  obtain ⟨⟨f0, f1⟩, f2, f3, f4, f5⟩ := hM.facts
  refine (mEnter none ao bo xo n l K mcap rcap n xc 0 ms rs xs w (TrRoom.none w _ (by omega)) hM.hm hM.hr (RowT.none hx) hM.hmd hM.hrd hdx hM.hK (by omega) ⟨fun _ => ⟨hM.ok, rfl, hlt⟩, fun _ => rfl⟩ (by omega)).mono ?_
  rintro e w' ⟨v', rfl, ⟨Y, hR, hG⟩, _, o', d⟩
  rw [if_pos rfl] at hR
  have hG' : Y = mon n (val 18446744073709551616 ms) (val 18446744073709551616 xs) := hG rfl
  rw [hG'] at hR
  have hA : MonR w' v' n (val 18446744073709551616 ms) (val 18446744073709551616 xs) := hR
  obtain ⟨zo, zc, rfl⟩ := hA.shape
  exact ⟨zo, zc, rfl, hA, d.none.2⟩

set_option maxRecDepth 40000 in
set_option maxHeartbeats 2000000 in
/-- Quick. -/
theorem sQuick (ao bo xo eo : Option Addr) (n l K mcap rcap N1 xc L ecap : Nat) (ms rs xs ys : List Nat) (E : Nat)
    (hE : (E = 0 ∧ (okMod ms K rs ∧ (N1 = n ∧ val 18446744073709551616 xs < val 18446744073709551616 ms)) ∧ L ≤ 300) ∨ (E = 2 ∧ (okMod ms K rs ∧ (N1 = n ∧ val 18446744073709551616 xs < val 18446744073709551616 ms)) ∧ 300 < L) ∨ (E = 1 ∧ ¬ (okMod ms K rs ∧ (N1 = n ∧ val 18446744073709551616 xs < val 18446744073709551616 ms))))
    (RL : List Nat) (hRL : RL = if E = 0 then digs 18446744073709551616 (val 18446744073709551616 xs ^ val 18446744073709551616 ys % val 18446744073709551616 ms) n else []) (w : World)
    (hm : Row .u64 w (.slice ao n mcap) ms) (hr : Row .u64 w (.slice bo l rcap) rs) (hx : Row .u64 w (.slice xo N1 xc) xs) (hy : Row .u64 w (.slice eo L ecap) ys) (hmd : Digs 18446744073709551616 ms) (hrd : Digs 18446744073709551616 rs) (hdx : Digs 18446744073709551616 xs) (hdy : Digs 18446744073709551616 ys) (hK : K < 18446744073709551616) (hnb : n ≤ 300) :
    Calls Tryz.prog 45 #[.agg #[.slice ao n mcap, .int .u64 (K : Nat), .slice bo l rcap], .slice xo N1 xc, .slice eo L ecap] w fun e w' => ∃ v', e = .returned (.tuple #[v', .int .i64 ((E : Nat) : Int)]) ∧ Row .u64 w' v' RL ∧ Kept Nought w w' := by
  obtain ⟨W, hW⟩ : ∃ W, W = w.alloc (.cells #[.slice ao n mcap, .int .u64 (K : Nat), .slice bo l rcap] 52) := ⟨_, rfl⟩
  have k0 : Kept Nought w W := by rw [hW]; exact (Kept.refl Nought w).alloc _
  have hx0 : W.heap[w.heap.size]? = some (.cells #[.slice ao n mcap, .int .u64 (K : Nat), .slice bo l rcap] 52 (0, 0)) := by rw [hW]; exact heap_alloc_new _ _
  have JC : Hid (∀ W', Kept Nought W W' → W'.cell? ⟨w.heap.size, 0, none⟩ = some (.slice ao n mcap) ∧ W'.cell? ⟨w.heap.size, 1, none⟩ = some (.int .u64 (K : Nat)) ∧ W'.cell? ⟨w.heap.size, 2, none⟩ = some (.slice bo l rcap)) := fun W' k => cells3 ((k.block _ (lt_of_block hx0) (fun f => f)).trans hx0)
  have HW := toHid hW
  have HK0 := toHid k0
  obtain ⟨p0, p1, p2⟩ := JC.out _ (Kept.refl Nought W)
  by_cases hP : okMod ms K rs ∧ (N1 = n ∧ val 18446744073709551616 xs < val 18446744073709551616 ms)
  · obtain ⟨hok, rfl, hlt⟩ := hP
    have hM : Mod8 w none ao bo N1 l K mcap rcap ms rs := ⟨RowT.none hm, RowT.none hr, hmd, hrd, hK, hok⟩
    have hEn := ent9 ao bo xo N1 l K mcap rcap xc ms rs xs W (hM.grew k0) (hx.grew k0) hdx hlt
    by_cases hL : L ≤ 300
    · obtain rfl : E = 0 := by
        rcases hE with h | h | h
        · exact h.1
        · omega
        · exact absurd ⟨hok, rfl, hlt⟩ h.2
      rw [if_pos rfl] at hRL
      have gL : ¬ (L : Int) > 300 := by omega
      have JR : Hid (∀ W' zo zc, Kept Nought W W' → MonR W' (.slice zo N1 zc) N1 (val 18446744073709551616 ms) (val 18446744073709551616 xs) → Calls Tryz.prog 66 #[.agg #[.slice ao N1 mcap, .int .u64 (K : Nat), .slice bo l rcap], .slice zo N1 zc, .slice eo L ecap] W' fun e w' => ∃ yo yc, e = .returned (.slice yo N1 yc) ∧ MonR w' (.slice yo N1 yc) N1 (val 18446744073709551616 ms) (val 18446744073709551616 xs ^ val 18446744073709551616 ys) ∧ Kept Nought W w') := fun W' zo zc k h => by
        refine (sRaised ao bo zo eo N1 l K mcap rcap zc L ecap _ ms rs ys W' (hM.grew (k0.trans k)) h (hy.grew (k0.trans k)) hdy hL).mono ?_
        rintro e w' ⟨yo, yc, rfl, h1, h2⟩
        exact ⟨yo, yc, rfl, h1, k.trans h2⟩
      have JL : Hid (∀ W' zo zc, Kept Nought W W' → MonR W' (.slice zo N1 zc) N1 (val 18446744073709551616 ms) (val 18446744073709551616 xs ^ val 18446744073709551616 ys) → Calls Tryz.prog 65 #[.pointer none, .agg #[.slice ao N1 mcap, .int .u64 (K : Nat), .slice bo l rcap], .slice zo N1 zc] W' fun e w' => ∃ v', e = .returned (.tuple #[v', .int .i64 0]) ∧ Row .u64 w' v' RL ∧ Kept Nought W w') := fun W' zo zc k h => by
        refine (lea9 ao bo zo N1 l K mcap rcap zc _ ms rs W' (hM.grew (k0.trans k)) h).mono ?_
        rintro e w' ⟨v', rfl, h1, h2⟩
        rw [← hRL] at h1
        exact ⟨v', rfl, h1, k.trans h2⟩
      clear hE hRL hm hr hx hy hmd hrd hdx hdy hK hW k0 hx0 hok hlt hM hL hnb
      generalize val 18446744073709551616 ms = V at *
      generalize val 18446744073709551616 xs = X at *
      generalize X ^ val 18446744073709551616 ys = Y at *
      go_enter Tryz.func45, Tryz.ntmps45
      go_wp2_with (rw [← HW.out])
      refine hEn.mono ?_
      rintro e w1 ⟨zo, zc, rfl, hA1, k1⟩
      obtain ⟨q0, q1, q2⟩ := JC.out _ k1
      have kd : Kept Nought W w1.drew := k1.drew
      have hA1d := hA1.grew (Kept.refl Nought w1).drew
      clear hEn p0 p1 p2
      go_wp2_with fail
      go_region_held3 (fun w' => w'.cell? ⟨w.heap.size, 0, none⟩ = some (.slice ao N1 mcap) ∧ w'.cell? ⟨w.heap.size, 1, none⟩ = some (.int .u64 (K : Int)) ∧ w'.cell? ⟨w.heap.size, 2, none⟩ = some (.slice bo l rcap))
        (((try dsimp only); (repeat' apply And.intro) <;> first | (go_keep; done) | assumption))
        (first
        | (go_at_call 66; refine (JR.out _ zo zc kd hA1d).mono ?_; rintro e w2 ⟨yo, yc, rfl, hA2, k2⟩; obtain ⟨s0, s1, s2⟩ := JC.out _ k2)
        | (go_at_call 65; refine (JL.out _ yo yc k2 hA2).mono ?_; rintro e w4 ⟨v4, rfl, hr4, k4⟩; obtain ⟨t0, t1, t2⟩ := JC.out _ k4))
      all_goals
        go_wp2_with fail
        go_ret2
        exact ⟨_, rfl, hr4, HK0.out.trans k4⟩
    · obtain rfl : E = 2 := by
        rcases hE with h | h | h
        · exact absurd h.2.2 hL
        · exact h.1
        · exact absurd ⟨hok, rfl, hlt⟩ h.2
      rw [if_neg (by omega)] at hRL
      have gL : (L : Int) > 300 := by omega
      have HRL := toHid hRL
      clear hE hRL hm hr hx hy hmd hrd hdx hdy hK hW k0 hx0 hok hlt hM hL hnb
      go_enter Tryz.func45, Tryz.ntmps45
      go_wp2_with (rw [← HW.out])
      refine hEn.mono ?_
      rintro e w1 ⟨zo, zc, rfl, hA1, k1⟩
      clear hEn p0 p1 p2 hA1
      go_wp2_with fail
      go_ret2
      exact ⟨_, rfl, by rw [HRL.out]; exact Row.nil _ _, HK0.out.trans k1⟩
  · obtain rfl : E = 1 := by
      rcases hE with h | h | h
      · exact absurd h.2.1 hP
      · exact absurd h.2.1 hP
      · exact h.1
    rw [if_neg (by omega)] at hRL
    have HRL := toHid hRL
    have hEn : Calls Tryz.prog 64 #[.pointer none, .agg #[.slice ao n mcap, .int .u64 (K : Nat), .slice bo l rcap], .slice xo N1 xc] W fun e w' => ∃ v', e = .returned (.tuple #[v', .int .i64 1]) ∧ Kept Nought W w' := by
      refine (mEnter none ao bo xo n l K mcap rcap N1 xc 1 ms rs xs W (TrRoom.none W _ (by omega)) (RowT.none (hm.grew k0)) (RowT.none (hr.grew k0)) (RowT.none (hx.grew k0)) hmd hrd hdx hK hnb ⟨fun h => absurd h (by omega), fun h => absurd h hP⟩ (by omega)).mono ?_
      rintro e w' ⟨v', rfl, _, _, o', d⟩
      exact ⟨v', rfl, d.none.2⟩
    clear hE hRL hm hr hx hy hmd hrd hdx hdy hK hW k0 hx0 hP hnb
    go_enter Tryz.func45, Tryz.ntmps45
    go_wp2_with (rw [← HW.out])
    refine hEn.mono ?_
    rintro e w1 ⟨v1, rfl, k1⟩
    clear hEn p0 p1 p2
    go_wp2_with fail
    go_ret2
    exact ⟨_, rfl, by rw [HRL.out]; exact Row.nil _ _, HK0.out.trans k1⟩

theorem clamp1 : clampN 1 = 1 := by decide

set_option maxRecDepth 40000 in
set_option maxHeartbeats 2000000 in
/-- Exp. -/
theorem sExp (ao bo xo : Option Addr) (n l K mcap rcap N1 xc d : Nat) (ms rs xs : List Nat) (E : Nat)
    (hE : E = 0 ↔ (okMod ms K rs ∧ (N1 = n ∧ val 18446744073709551616 xs < val 18446744073709551616 ms))) (hE1 : E ≤ 1)
    (RL : List Nat) (hRL : RL = if E = 0 then digs 18446744073709551616 (val 18446744073709551616 xs ^ d % val 18446744073709551616 ms) n else []) (w : World)
    (hm : Row .u64 w (.slice ao n mcap) ms) (hr : Row .u64 w (.slice bo l rcap) rs) (hx : Row .u64 w (.slice xo N1 xc) xs) (hmd : Digs 18446744073709551616 ms) (hrd : Digs 18446744073709551616 rs) (hdx : Digs 18446744073709551616 xs) (hd : d < 18446744073709551616) (hK : K < 18446744073709551616) (hnb : n ≤ 300) :
    Calls Tryz.prog 24 #[.agg #[.slice ao n mcap, .int .u64 (K : Nat), .slice bo l rcap], .slice xo N1 xc, .int .u64 (d : Nat)] w fun e w' => ∃ v', e = .returned (.tuple #[v', .int .i64 ((E : Nat) : Int)]) ∧ Row .u64 w' v' RL ∧ Kept Nought w w' := by
  obtain ⟨W, hW⟩ : ∃ W, W = w.alloc (.cells #[.slice ao n mcap, .int .u64 (K : Nat), .slice bo l rcap] 52) := ⟨_, rfl⟩
  have k0 : Kept Nought w W := by rw [hW]; exact (Kept.refl Nought w).alloc _
  have hx0 : W.heap[w.heap.size]? = some (.cells #[.slice ao n mcap, .int .u64 (K : Nat), .slice bo l rcap] 52 (0, 0)) := by rw [hW]; exact heap_alloc_new _ _
  have JC : Hid (∀ W', Kept Nought W W' → W'.cell? ⟨w.heap.size, 0, none⟩ = some (.slice ao n mcap) ∧ W'.cell? ⟨w.heap.size, 1, none⟩ = some (.int .u64 (K : Nat)) ∧ W'.cell? ⟨w.heap.size, 2, none⟩ = some (.slice bo l rcap)) := fun W' k => cells3 ((k.block _ (lt_of_block hx0) (fun f => f)).trans hx0)
  have JW : Hid (Calls Tryz.prog 46 #[.int .u64 (d : Nat), .int .i64 1] W.drew fun r w' => ∃ zo zc, r = .returned (.slice zo 1 zc) ∧ Row .u64 w' (.slice zo 1 zc) [d] ∧ Kept Nought W w') := by
    refine (nWord d hd 1 W.drew).mono ?_
    rintro e w' ⟨v', rfl, h1, h2⟩
    rw [clamp1, word_digs d 0 hd] at h1
    have h1' : Row .u64 w' v' [d] := h1
    obtain ⟨zo, zn, zc, rfl, hl, _⟩ := h1'.open
    obtain rfl : zn = 1 := hl.out.symm
    exact ⟨zo, zc, rfl, h1', (Kept.refl Nought W).drew.trans h2⟩
  have JQ : Hid (∀ W' zo zc, Kept Nought W W' → Row .u64 W' (.slice zo 1 zc) [d] → Calls Tryz.prog 45 #[.agg #[.slice ao n mcap, .int .u64 (K : Nat), .slice bo l rcap], .slice xo N1 xc, .slice zo 1 zc] W' fun e w' => ∃ v', e = .returned (.tuple #[v', .int .i64 ((E : Nat) : Int)]) ∧ Row .u64 w' v' RL ∧ Kept Nought W w') := fun W' zo zc k h => by
    have kk := k0.trans k
    have hv : val 18446744073709551616 [d] = d := by simp [val]
    refine (sQuick ao bo xo zo n l K mcap rcap N1 xc 1 zc ms rs xs [d] E ?_ RL (by rw [hv]; exact hRL) W' (hm.grew kk) (hr.grew kk) (hx.grew kk) h hmd hrd hdx (Digs.one hd) hK hnb).mono ?_
    · by_cases h0 : E = 0
      · exact .inl ⟨h0, hE.1 h0, by omega⟩
      · exact .inr (.inr ⟨by omega, fun h => h0 (hE.2 h)⟩)
    · rintro e w' ⟨v', rfl, h1, h2⟩
      exact ⟨v', rfl, h1, k.trans h2⟩
  have HW := toHid hW
  have HK0 := toHid k0
  obtain ⟨p0, p1, p2⟩ := JC.out _ (Kept.refl Nought W)
  have hwd := JW.out
  clear hE hE1 hRL hm hr hx hmd hrd hdx hd hK hW k0 hx0 hnb
  go_enter Tryz.func24, Tryz.ntmps24
  go_wp2_with (rw [← HW.out])
  go_region_held3 (fun w' => w'.cell? ⟨w.heap.size, 0, none⟩ = some (.slice ao n mcap) ∧ w'.cell? ⟨w.heap.size, 1, none⟩ = some (.int .u64 (K : Int)) ∧ w'.cell? ⟨w.heap.size, 2, none⟩ = some (.slice bo l rcap))
    (((try dsimp only); (repeat' apply And.intro) <;> first | (go_keep; done) | assumption))
    (first
    | (go_at_call 46; refine hwd.mono ?_; rintro e w2 ⟨zo, zc, rfl, hr2, k2⟩; obtain ⟨s0, s1, s2⟩ := JC.out _ k2)
    | (go_at_call 45; refine (JQ.out _ zo zc k2 hr2).mono ?_; rintro e w4 ⟨v4, rfl, hr4, k4⟩; obtain ⟨t0, t1, t2⟩ := JC.out _ k4))
  all_goals
    go_wp2_with fail
    go_ret2
    exact ⟨_, rfl, hr4, HK0.out.trans k4⟩

end Go.Proofs.YtldbfcifoijliaaGreatDoor

