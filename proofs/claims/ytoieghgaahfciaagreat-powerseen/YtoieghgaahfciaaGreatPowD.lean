/- Package power: raised. -/
import Derived.Test.YtoieghgaahfciaaGreatPowC
namespace Go.Proofs.YtoieghgaahfciaaGreat
open Go.RowKit Go.Shelf

attribute [local go_sem] Oper.semAt_some

/-- What raised writes down ahead of its last step. -/
def rndEv8 (n L k : Nat) : List Ev := (1, (L : Int), 0) :: (List.replicate k (winEv8 n)).flatten

theorem rndEv8_succ (n L k : Nat) : rndEv8 n L (k + 1) = rndEv8 n L k ++ winEv8 n := by
  unfold rndEv8
  rw [List.replicate_succ', List.flatten_append, List.cons_append]
  simp

theorem rndEv8_len {n : Nat} (h : n ≤ 130) (L k : Nat) : (rndEv8 n L k).length ≤ 1 + k * 11000 := by
  have := flat_len (winEv8_len h) k
  unfold rndEv8
  rw [List.length_cons]
  omega

/-- The exponent that windows come to. -/
def wndF {N : Nat} (g : Nat → Nat) (pre : List (Fin N)) : Nat := wndN (pre.map fun x => g x.val)

theorem wndF_snoc {N : Nat} (g : Nat → Nat) (pre : List (Fin N)) (x : Fin N) : wndF g (pre ++ [x]) = 16 * wndF g pre + g x.val := by
  unfold wndF
  rw [List.map_append, List.map_cons, List.map_nil, wndN_snoc]

theorem wndF_all {N : Nat} {g : Nat → Nat} {ys : List (Fin N)} (h : ys.map Fin.val = List.range N) : wndF g ys = wndN ((List.range N).map g) := by
  unfold wndF
  rw [← h, List.map_map]
  rfl

/-- What stands between two rounds. -/
def Btw (W0 : World) (o : Tr) (bP n V X L : Nat) (ev : Value) {N : Nat} (g : Nat → Nat) (pre : List (Fin N)) (W : World) : Prop :=
  ∃ (o1 : Tr) (qo : Option Addr) (qc : Nat), Box W bP (.slice qo n qc) 23 ∧ MonAt W (.slice qo n qc) n V (X ^ wndF g pre) ∧ Did W0 o (rndEv8 n L pre.length) W o1 ∧ Box W (bP + 1) ev 23

theorem Btw.turn {W0 : World} {o : Tr} {bP n V X L N B : Nat} {ev : Value} {g : Nat → Nat} {pre : List (Fin N)} {W W' : World} (h : Btw W0 o bP n V X L ev g pre W) (t : Turn B W W') (hB : W0.heap.size ≤ B) : Btw W0 o bP n V X L ev g pre W' := by
  obtain ⟨o1, qo, qc, h1, h2, h3, h4⟩ := h
  exact ⟨o1, qo, qc, t.cells h1, ⟨t.row h2.1, t.u64s h2.2⟩, t.did h3 hB, t.cells h4⟩

/-- What the round's variables hold. -/
def Held9 (bT : Nat) (po ao bo : Option Addr) (n l0 K mcap rcap gT cT : Nat) (W : World) : Prop :=
  W.cell? ⟨bT, 0, none⟩ = some (.pointer po) ∧ W.cell? ⟨bT + 1, 0, none⟩ = some (.slice ao n mcap) ∧ W.cell? ⟨bT + 1, 1, none⟩ = some (.int .u64 (K : Nat)) ∧ W.cell? ⟨bT + 1, 2, none⟩ = some (.slice bo l0 rcap) ∧ W.cell? ⟨bT + 1 + 1, 0, none⟩ = some (.slice (some ⟨gT, 0, none⟩) 16 cT)

set_option maxRecDepth 100000 in
set_option maxHeartbeats 4000000 in
/-- raised. -/
theorem wRaised (o : Tr) (ao bo eo : Option Addr) (n l0 K mcap rcap gT cT L ecap X : Nat) (A : Nat → Option Addr) (C : Nat → Nat) (ms rs ys : List Nat) (xv : Value) (wT w : World) (ht : TrRoom w o 60000000) (hM : Mod8 w o ao bo n l0 K mcap rcap ms rs) (hT : Tab8 wT w xv (.slice (some ⟨gT, 0, none⟩) 16 cT) n 16 A C (val 18446744073709551616 ms) X)
    (he : RowT w o (.slice eo L ecap) ys) (hde : Digs 18446744073709551616 ys) (hL : L ≤ 300) :
    Calls Tryz.prog 26 #[trPtr o, .agg #[.slice ao n mcap, .int .u64 (K : Nat), .slice bo l0 rcap], .slice (some ⟨gT, 0, none⟩) 16 cT, .slice eo L ecap] w fun e w' => ∃ zo zc, e = .returned (.slice zo n zc) ∧ (Row .u64 w' (.slice zo n zc) (digs 18446744073709551616 (X ^ val 18446744073709551616 ys % val 18446744073709551616 ms) n) ∧ U64s w' (.slice zo n zc)) ∧ Fresh w (.slice zo n zc) ∧ ∃ o', Did w o (rndEv8 n L (16 * L) ++ leaEv8 n) w' o' := by
  have he58 : ∀ args w, (callFunc 58 args).run Tryz.prog w = .ok (.enter 58 args) w := fun _ _ => by simp [go_sem]
  have he57 : ∀ args w, (callFunc 57 args).run Tryz.prog w = .ok (.enter 57 args) w := fun _ _ => by simp [go_sem]
  have he56 : ∀ args w, (callFunc 56 args).run Tryz.prog w = .ok (.enter 56 args) w := fun _ _ => by simp [go_sem]
  obtain ⟨⟨f0, f1⟩, f2, f3, f4, f5⟩ := hM.facts
  obtain ⟨po, hpo⟩ := trPtr_shape o
  obtain ⟨V, hV⟩ : ∃ V, V = val 18446744073709551616 ms := ⟨_, rfl⟩
  rw [← hV] at f3 f4 f5 hT ⊢
  obtain ⟨W0, hW0⟩ : ∃ W0, W0 = ((w.alloc (.cells #[.pointer po] 48)).alloc (.cells #[.slice ao n mcap, .int .u64 (K : Nat), .slice bo l0 rcap] 26)).alloc (.cells #[.slice (some ⟨gT, 0, none⟩) 16 cT] 35) := ⟨_, rfl⟩
  have k0 : Kept Nought w W0 := by rw [hW0]; exact (((Kept.refl Nought w).alloc _).alloc _).alloc _
  have hsz : W0.heap.size = w.heap.size + 1 + 1 + 1 := by rw [hW0]; simp
  have hT0 : Box W0 w.heap.size (.pointer po) 48 := by rw [hW0]; exact ((Box.new w _ _).alloc _).alloc _
  have hM0 : W0.heap[w.heap.size + 1]? = some (.cells #[.slice ao n mcap, .int .u64 (K : Nat), .slice bo l0 rcap] 26 (0, 0)) := by
    rw [hW0]
    refine heapAt_alloc ?_
    have := heap_alloc_new (w.alloc (.cells #[.pointer po] 48)) (.cells #[.slice ao n mcap, .int .u64 (K : Nat), .slice bo l0 rcap] 26)
    rwa [show (w.alloc (.cells #[.pointer po] 48)).heap.size = w.heap.size + 1 by simp] at this
  have hA0 : Box W0 (w.heap.size + 1 + 1) (.slice (some ⟨gT, 0, none⟩) 16 cT) 35 := by
    rw [hW0]
    have := Box.new ((w.alloc (.cells #[.pointer po] 48)).alloc (.cells #[.slice ao n mcap, .int .u64 (K : Nat), .slice bo l0 rcap] 26)) (.slice (some ⟨gT, 0, none⟩) 16 cT) 35
    rwa [show ((w.alloc (.cells #[.pointer po] 48)).alloc (.cells #[.slice ao n mcap, .int .u64 (K : Nat), .slice bo l0 rcap] 26)).heap.size = w.heap.size + 1 + 1 by simp] at this
  have HTR := toHid (ht.grew k0)
  have JC : Hid (∀ W m o', Did W0 o m W o' → Held9 w.heap.size po ao bo n l0 K mcap rcap gT cT W) := fun W m o' d => by
    obtain ⟨q0, q1, q2⟩ := cells3 ((d.kept.block _ (lt_of_block hM0) (cells_apart hM0 HTR.out.1 (by decide) (by decide))).trans hM0)
    exact ⟨(hT0.did d HTR.out.1 (by decide) (by decide)).cell, q0, q1, q2, (hA0.did d HTR.out.1 (by decide) (by decide)).cell⟩
  have JMul : Hid (∀ W m o' yo yc zo zc P Q, Did W0 o m W o' → TrRoom W o' 2000 → MonAt W (.slice yo n yc) n V P → MonAt W (.slice zo n zc) n V Q → Calls Tryz.prog 57 #[.pointer po, .agg #[.slice ao n mcap, .int .u64 (K : Nat), .slice bo l0 rcap], .slice yo n yc, .slice zo n zc] W fun e w' => ∃ ro rc, e = .returned (.tuple #[.slice ro n rc, .int .i64 0]) ∧ MonAt w' (.slice ro n rc) n V (P * Q) ∧ Fresh W (.slice ro n rc) ∧ ∃ o2, Did W o' (mulEv8 n) w' o2) := fun W m o' yo yc zo zc P Q d hr hA hB => by
    rw [hV] at hA hB
    have := mul8 o' ao bo yo zo n l0 K mcap rcap yc zc P Q ms rs W hr ((hM.grew k0).did d) hA hB
    rw [d.ptr, hpo, ← hV] at this
    exact this
  have JPick : Hid (∀ W m o' i, Did W0 o m W o' → TrRoom W o' 2000 → i < 16 → Calls Tryz.prog 58 #[.pointer po, .slice (some ⟨gT, 0, none⟩) 16 cT, .int .u64 (i : Nat)] W fun e w' => ∃ ro rc, e = .returned (.slice ro n rc) ∧ MonAt w' (.slice ro n rc) n V (X ^ i) ∧ Fresh W (.slice ro n rc) ∧ ∃ o2, Did W o' (pickEv8 n) w' o2) := fun W m o' i d hr hi => by
    have := pick8 o' gT cT n V X i A C wT W xv hr (by omega) f5 f1 ((hT.grew k0).did d HTR.out.1) hi
    rw [d.ptr, hpo] at this
    exact this
  have JLea : Hid (∀ W m o' yo yc P, Did W0 o m W o' → TrRoom W o' 2000 → MonAt W (.slice yo n yc) n V P → Calls Tryz.prog 59 #[.pointer po, .agg #[.slice ao n mcap, .int .u64 (K : Nat), .slice bo l0 rcap], .slice yo n yc] W fun e w' => ∃ zo zc, e = .returned (.tuple #[.slice zo n zc, .int .i64 0]) ∧ (Row .u64 w' (.slice zo n zc) (digs 18446744073709551616 (P % V) n) ∧ U64s w' (.slice zo n zc)) ∧ Fresh W (.slice zo n zc) ∧ ∃ o2, Did W o' (leaEv8 n) w' o2) := fun W m o' yo yc P d hr hA => by
    rw [hV] at hA
    have := lea8 o' ao bo yo n l0 K mcap rcap yc P ms rs W hr ((hM.grew k0).did d) hA
    rw [d.ptr, hpo, ← hV] at this
    exact this
  have JSpan : Hid (Calls Tryz.prog 54 #[.pointer po, .int .i64 (L : Int)] W0 fun r w' => r = .returned (.tuple #[]) ∧ ∃ o', Did W0 o [(1, (L : Int), 0)] w' o') := by
    have := tSpanDid o (L : Int) W0 HTR.out.1
    rw [hpo] at this
    exact this
  have JTab : Hid (∀ W m o', Did W0 o m W o' → Tab8 wT W xv (.slice (some ⟨gT, 0, none⟩) 16 cT) n 16 A C V X) := fun W m o' d => (hT.grew k0).did d HTR.out.1
  have JRow : Hid (∀ W m o', Did W0 o m W o' → RowT W o' (.slice eo L ecap) ys) := fun W m o' d => (he.grew k0).did d
  obtain ⟨_, _, _, e1, hlen, _⟩ := he.1.open
  cases e1
  have HLen := toHid hlen
  have HOwn : Hid (∀ b, (Value.slice eo L ecap).ownBlock = some b → 0 < L → b < w.heap.size) := fun b hb hp => he.1.lt (by intro e; rw [e] at hlen; have := hlen.out; simp at this; omega) b hb
  have HW0 := toHid hW0
  have HK0 := toHid k0
  have HSZ := toHid hsz
  have HF1 := toHid f1
  obtain ⟨c0, c1, c2, c3, c4⟩ := JC.out _ _ _ (Did.of_kept (Kept.refl Nought W0) HTR.out.1)
  have hS := JSpan.out
  rw [hpo]
  clear hW0 k0 hsz hT0 hM0 hA0 ht hM hT he hlen hpo hV f2 f3 JSpan
  refine (callsIn_wide (n := 9)).1 ?_
  refine callsIn_of_wp_marks Tryz.func26 rfl trivial ?_ rfl
  simp only [Tryz.ntmps26, List.size_toArray, List.length_cons, List.length_nil, Nat.reduceAdd, Nat.reduceSub, Array.replicate_succ, Array.replicate_zero, List.push_toArray, List.append_toArray, List.nil_append, List.cons_append]
  refine wpIn_wide.2 ?_
  go_wp2_with fail
  rw [← HW0.out]
  refine hS.mono ?_
  rintro e W1 ⟨rfl, o1, d1⟩
  obtain ⟨q0, q1, q2, q3, q4⟩ := JC.out _ _ _ d1
  have hTab1 := JTab.out _ _ _ d1
  have hc0 := hTab1.at (j := 0) (by omega)
  clear hS c0 c1 c2 c3 c4
  go_wp2_with fail
  have hWB := winBox eo L ecap (W1.alloc (.cells #[.slice (A 0) n (C 0)] 23))
  refine hWB.mono ?_
  rintro e W3 ⟨rfl, rfl⟩
  have kP : Kept Nought W1 (W1.alloc (.cells #[.slice (A 0) n (C 0)] 23)) := (Kept.refl Nought W1).alloc _
  have kE := kP.alloc (.cells #[.slice eo L ecap] 23)
  have bxP := (Box.new W1 (.slice (A 0) n (C 0)) 23).alloc (.cells #[.slice eo L ecap] 23)
  have bxE := Box.new (W1.alloc (.cells #[.slice (A 0) n (C 0)] 23)) (.slice eo L ecap) 23
  have hs3 : ((W1.alloc (.cells #[.slice (A 0) n (C 0)] 23)).alloc (.cells #[.slice eo L ecap] 23)).heap.size = W1.heap.size + 2 := by simp
  rw [World.size_alloc] at bxE
  have d3 := d1.grew kE
  have hrow := (JRow.out _ _ _ d3).1
  have hnum0 := (hTab1.2 0 (by omega)).1.grew kE
  obtain ⟨g, hg⟩ : ∃ g : Nat → Nat, ∀ j, winN ys L j = g j := ⟨_, fun _ => rfl⟩
  have HG := toHid hg
  have hbP : W0.heap.size ≤ W1.heap.size := d1.size
  have HD3 := toHid d3
  have HBP := toHid bxP
  have HN0 := toHid hnum0
  clear hWB q0 q1 q2 q3 q4 hTab1 hc0 kP bxP hnum0 d3 d1
  go_wp2_with fail
  generalize (W1.alloc (.cells #[.slice (A 0) n (C 0)] 23)).alloc (.cells #[.slice eo L ecap] 23) = W3 at *
  refine (wpIn_wide (n := 9)).1 ?_
  refine wpIn_rangeFunc_ownG (F := Fence.wide) (n := 9) rfl (by omega) (gf := 76) (lb := #[.pointer (some ⟨W1.heap.size + 1, 0, none⟩)]) rfl trivial (enters_of Tryz.func76 (by kernel_rfl) rfl)
    (winStops 8 (by omega) (W1.heap.size + 1) L (16 * L) g (.slice eo L ecap) ys hde HLen.out.out rfl (by omega) hg (fun k => k = W1.heap.size + 1 ∨ ((Value.slice eo L ecap).ownBlock = some k ∧ 0 < L)) (.inl rfl) (fun b hb hp => .inr ⟨hb, hp⟩) _ ?hsw bxE.cell hrow) KeepB.trans (KeepB.put ?hsw2) (Below.refl _ _) (fun _ => rfl)
    (Btw W0 o W1.heap.size n V X L (.slice eo L ecap) g) (fun _ _ _ => False)
    (ownFrom_turn (fun s A B hs t => hs.turn t (by rw [hs3]; omega))) (fun _ _ _ _ _ hs _ _ => hs)
    ⟨o1, A 0, C 0, HBP.out, by have := HN0.out; exact this, by unfold rndEv8; exact HD3.out, bxE⟩
    ?act ?assign ?body ?done ?stop
  case hsw =>
    rintro k (rfl | ⟨hk, hp⟩)
    · omega
    · have := HOwn.out k hk hp
      have := HK0.out.size
      omega
  case hsw2 =>
    rintro k (rfl | ⟨hk, hp⟩)
    · omega
    · have := HOwn.out k hk hp
      have := HK0.out.size
      omega
  case assign =>
    intro l x W K hK
    gi_wp2
    exact hK
  case body =>
    rintro l pre x W ⟨oc, qo, qc, hbx, hnum, hd, hbe⟩ hlt
    have hroom : TrRoom W oc 20000 := hd.room (HTR.out.less (by have := rndEv8_len HF1.out L pre.length; omega))
    have R0 : Hid (RSt W0 W W o oc oc W1.heap.size n V (X ^ (wndF g pre * 2 ^ 0)) (.slice qo n qc) (rndEv8 n L pre.length ++ (List.replicate 0 (mulEv8 n)).flatten)) := by
      rw [Nat.pow_zero, Nat.mul_one, List.replicate_zero, List.flatten_nil, List.append_nil]
      exact ⟨hbx, hnum, hd, Kept.refl _ _, fun _ _ f => f⟩
    have HRoom := toHid hroom
    have HD := toHid hd
    have HX : Hid (g x.val < 16) := by rw [← HG.out]; exact win_lt _ _ _
    have HBX := toHid hbx
    have HBE := toHid hbe
    clear hroom hbx hnum hd hbe
    gi_wp2_with fail
    gi_loopw [21] (fun q wr => ∃ (r : Nat) (od : Tr) (ro : Option Addr) (rc : Nat), r ≤ 4 ∧ q = .int .i64 (r : Int) ∧ Hid (RSt W0 W wr o oc od W1.heap.size n V (X ^ (wndF g pre * 2 ^ r)) (.slice ro n rc) (rndEv8 n L pre.length ++ (List.replicate r (mulEv8 n)).flatten))) (fun q _ => 4 - (intOf q).toNat)
    case atStart => exact ⟨0, oc, qo, qc, by omega, rfl, R0.out⟩
    case round =>
      obtain ⟨r, od, ro, rc, hr, rfl, R⟩ := hrel
      have hroom : TrRoom wr od 6000 := R.out.did.room (HTR.out.less (by
        have h1 := rndEv8_len HF1.out L pre.length
        have h2 := flat_len (ev8_len HF1.out).1 r
        rw [List.length_append]
        omega))
      obtain ⟨q0, q1, q2, q3, q4⟩ := JC.out _ _ _ R.out.did
      have qP := R.out.box.cell
      have fP := R.out.box.free
      have HRm := toHid hroom
      by_cases hr4 : r < 4
      · have gr : (r : Int) < 4 := by omega
        have hMul := JMul.out wr _ od ro rc ro rc _ _ R.out.did (hroom.less (by omega)) R.out.num R.out.num
        clear hroom
        gi_wp2_with fail
        refine ⟨trivial, ?_⟩
        refine (CallsIn.inRound l (callsIn_wide.2 hMul)).mono ?_
        rintro e w7 ⟨so, sc, rfl, hA7, hF7, o7, d7⟩
        have R7 := toHid (R.out.step HRm.out.1 d7)
        have hti7 : TrIn w7 o7 := (d7.room (k := 0) (HRm.out.less (by have := (ev8_len HF1.out).1; omega))).1
        have R8 := toHid (R7.out.put hti7 hA7 hbP)
        have qP7 := R7.out.box.cell
        have fP7 := R7.out.box.free
        have hSt := wStep so n sc w7
        clear hMul hA7 hF7 d7 hti7 q0 q1 q2 q3 q4 qP fP
        gi_wp2_with fail
        refine ⟨trivial, ?_⟩
        refine (CallsIn.inRound l (callsIn_wide.2 hSt)).mono ?_
        rintro e w8 ⟨rfl, rfl⟩
        clear hSt
        gi_wp2_with fail
        go_roundw
        case rel =>
          refine ⟨r + 1, o7, so, sc, by omega, by go_num, ?_⟩
          have := R8.out
          rw [← Nat.pow_add, show wndF g pre * 2 ^ r + wndF g pre * 2 ^ r = wndF g pre * 2 ^ (r + 1) by rw [Nat.pow_succ, ← Nat.mul_assoc, Nat.mul_two], List.append_assoc, show (List.replicate r (mulEv8 n)).flatten ++ mulEv8 n = (List.replicate (r + 1) (mulEv8 n)).flatten by rw [List.replicate_succ', List.flatten_append]; simp] at this
          exact this
        case measure => simp [intOf]; omega
      · obtain rfl : r = 4 := by omega
        gi_wp2_with fail
        -- REGION 9 BEGINS
        have R9 := R.out.drew
        have HRm9 : Hid (TrRoom wr.drew od 6000) := HRm.out.grew (Kept.refl Nought wr).drew
        have hS9 := JC.out _ _ _ R9.did
        have hPick := JPick.out wr.drew _ od (g x.val) R9.did (HRm9.out.less (by omega)) HX.out
        have cP9 := R9.box.cell
        have HEnd : Hid (∀ (wE : World) (oE : Tr) (to : Option Addr) (tc : Nat), RSt W0 W wE o oc oE W1.heap.size n V (X ^ (wndF g pre * 2 ^ 4) * X ^ g x.val) (.slice to n tc) (rndEv8 n L pre.length ++ (List.replicate 4 (mulEv8 n)).flatten ++ pickEv8 n ++ mulEv8 n) → KeepsFrom W3.heap.size W wE ∧ KeepB (fun k => k = W1.heap.size + 1 ∨ ((Value.slice eo L ecap).ownBlock = some k ∧ 0 < L)) W wE ∧ Btw W0 o W1.heap.size n V X L (.slice eo L ecap) g (pre ++ [x]) wE) := fun wE oE to tc RE => by
          have kE2 : Box wE (W1.heap.size + 1) (.slice eo L ecap) 23 := HBE.out.kept RE.kept (by
            rintro (h | h)
            · omega
            · exact HBE.out.apart HRoom.out.1 (by decide) (by decide) h)
          refine ⟨keepsFrom_kept RE.kept (fun b hb _ => ?_), ?_, oE, to, tc, RE.box, ?_, ?_, kE2⟩
          · rcases hb with rfl | hb
            · exact ⟨_, _, _, HBX.out⟩
            · exact foot_cells HRoom.out.1 hb
          · rintro k (rfl | ⟨hk, hp⟩)
            · exact (show wE.heap[_]? = _ from kE2).trans (show W.heap[_]? = _ from HBE.out).symm
            · have h1 := HOwn.out k hk hp
              have h2 := HK0.out.size
              have h3 := HD.out.size
              have h4 := (JRow.out _ _ _ HD.out).2 (by intro e; have := HLen.out.out; rw [e] at this; simp at this; omega) k hk
              refine RE.kept.block k (by omega) ?_
              rintro (h | h)
              · omega
              · exact h4 h
          · have := RE.num
            rw [← Nat.pow_add, show wndF g pre * 2 ^ 4 + g x.val = wndF g (pre ++ [x]) by rw [wndF_snoc]; omega] at this
            exact this
          · have := RE.did
            rw [List.append_assoc, List.append_assoc, show (List.replicate 4 (mulEv8 n)).flatten ++ (pickEv8 n ++ mulEv8 n) = winEv8 n from rfl, ← rndEv8_succ] at this
            rw [List.length_append]
            exact this
        clear hroom q0 q1 q2 q3 q4 qP fP
        refine region_round (S := Held9 w.heap.size po ao bo n l0 K mcap rcap gT cT) (by kernel_rfl) (by kernel_rfl) (by rintro ⟨a, w, h⟩; exact h) ?_
        refine wpAnyH_take (i := 0) (v := .pointer po) rfl (by kernel_rfl) (by kernel_rfl) (by kernel_rfl) (fun _ _ _ h => h) (Or.inl ⟨by rfl, fun w9 hw9 => ?_⟩) hS9 ?_
        · obtain ⟨s0, s1, s2, s3, s4⟩ := hw9
          go_simp
        simp only [Act.put, List.getElem_toArray, List.getElem_cons_zero, List.setIfInBounds_toArray, List.set_cons_zero, List.set_cons_succ]
        refine wpAnyH_take (i := 1) (v := .agg #[.slice ao n mcap, .int .u64 (K : Nat), .slice bo l0 rcap]) rfl (by kernel_rfl) (by kernel_rfl) (by kernel_rfl) (fun _ _ _ h => h) (Or.inl ⟨by rfl, fun w9 hw9 => ?_⟩) hS9 ?_
        · obtain ⟨s0, s1, s2, s3, s4⟩ := hw9
          go_simp
        simp only [Act.put, List.getElem_toArray, List.getElem_cons_succ, List.getElem_cons_zero, List.setIfInBounds_toArray, List.set_cons_zero, List.set_cons_succ]
        refine wpAnyH_take (i := 3) (v := .pointer po) rfl (by kernel_rfl) (by kernel_rfl) (by kernel_rfl) (fun _ _ _ h => h) (Or.inl ⟨by rfl, fun w9 hw9 => ?_⟩) hS9 ?_
        · obtain ⟨s0, s1, s2, s3, s4⟩ := hw9
          go_simp
        simp only [Act.put, List.getElem_toArray, List.getElem_cons_succ, List.getElem_cons_zero, List.setIfInBounds_toArray, List.set_cons_zero, List.set_cons_succ]
        refine wpAnyH_take (i := 4) (v := .slice (some ⟨gT, 0, none⟩) 16 cT) rfl (by kernel_rfl) (by kernel_rfl) (by kernel_rfl) (fun _ _ _ h => h) (Or.inl ⟨by rfl, fun w9 hw9 => ?_⟩) hS9 ?_
        · obtain ⟨s0, s1, s2, s3, s4⟩ := hw9
          go_simp
        simp only [Act.put, List.getElem_toArray, List.getElem_cons_succ, List.getElem_cons_zero, List.setIfInBounds_toArray, List.set_cons_zero, List.set_cons_succ]
        refine wpAnyH_take (i := 5) (v := .int .u64 (g x.val : Nat)) rfl (by kernel_rfl) (by kernel_rfl) (by kernel_rfl) (fun _ _ _ h => h) (Or.inl ⟨by rfl, fun w9 hw9 => ?_⟩) hS9 ?_
        · go_simp
        simp only [Act.put, List.getElem_toArray, List.getElem_cons_succ, List.getElem_cons_zero, List.setIfInBounds_toArray, List.set_cons_zero, List.set_cons_succ]
        refine wpAnyH_ready (rs := [2, 6]) (by kernel_rfl) (by simp) ?_
        refine AllReadyH.cons rfl (fun K hK => ?_) (AllReadyH.cons rfl (fun K hK => ?_) AllReadyH.nil)
        · go_simp
          refine hK.out _ _ hS9 (fun _ => ?_)
          refine wpAnyH_ready (rs := [6]) (by kernel_rfl) (by simp) ?_
          refine AllReadyH.cons rfl (fun K hK => ?_) AllReadyH.nil
          refine step_call 58 _ _ _ (by rfl) (by rfl) (by rfl) he58 hPick ?_
          rintro e w7 ⟨so, sc, rfl, hA7, hF7, o7, d7⟩
          have R7 := R9.step HRm9.out.1 d7
          have hRm7 : TrRoom w7 o7 4000 := d7.room (HRm9.out.less (by unfold pickEv8; simp))
          have hS7 := JC.out _ _ _ R7.did
          have cP7 := R7.box.cell
          have hMul7 := JMul.out w7 _ o7 ro rc so sc _ _ R7.did (hRm7.less (by omega)) R7.num hA7
          refine ⟨_, rfl, ?_⟩
          refine hK.out _ _ hS7 (fun _ => ?_)
          simp only [Act.put, List.getElem_toArray, List.getElem_cons_succ, List.getElem_cons_zero, List.setIfInBounds_toArray, List.set_cons_zero, List.set_cons_succ]
          refine wpAnyH_ready (rs := [7]) (by kernel_rfl) (by simp) ?_
          refine AllReadyH.cons rfl (fun K hK => ?_) AllReadyH.nil
          refine step_call 57 _ _ _ (by rfl) (by rfl) (by rfl) he57 hMul7 ?_
          rintro e w8 ⟨to, tc, rfl, hA8, hF8, o8, d8⟩
          have R8 := R7.step hRm7.1 d8
          have hti8 : TrIn w8 o8 := (d8.room (k := 0) (hRm7.less (by have := (ev8_len HF1.out).1; omega))).1
          have hS8 := JC.out _ _ _ R8.did
          have cP8 := R8.box.cell
          have fP8 := R8.box.free
          refine ⟨_, rfl, ?_⟩
          refine hK.out _ _ hS8 (fun _ => ?_)
          simp only [Act.put, List.getElem_toArray, List.getElem_cons_succ, List.getElem_cons_zero, List.setIfInBounds_toArray, List.set_cons_zero, List.set_cons_succ]
          refine wpAnyH_take (i := 8) (v := .slice to n tc) rfl (by kernel_rfl) (by kernel_rfl) (by kernel_rfl) (fun _ _ _ h => h) (Or.inl ⟨by rfl, fun w9 hw9 => ?_⟩) hS8 ?_
          · go_simp
          simp only [Act.put, List.getElem_toArray, List.getElem_cons_succ, List.getElem_cons_zero, List.setIfInBounds_toArray, List.set_cons_zero, List.set_cons_succ]
          refine wpAnyH_take (i := 9) (v := .int .i64 0) rfl (by kernel_rfl) (by kernel_rfl) (by kernel_rfl) (fun _ _ _ h => h) (Or.inl ⟨by rfl, fun w9 hw9 => ?_⟩) hS8 ?_
          · go_simp
          simp only [Act.put, List.getElem_toArray, List.getElem_cons_succ, List.getElem_cons_zero, List.setIfInBounds_toArray, List.set_cons_zero, List.set_cons_succ]
          refine wpAnyH_ready (rs := [10]) (by kernel_rfl) (by simp) ?_
          refine AllReadyH.cons rfl (fun K hK => ?_) AllReadyH.nil
          refine step_call 56 _ _ _ (by rfl) (by rfl) (by rfl) he56 (wStep to n tc w8) ?_
          rintro e w10 ⟨rfl, rfl⟩
          refine ⟨_, rfl, ?_⟩
          refine hK.out _ _ hS8 (fun _ => ?_)
          simp only [Act.put, List.getElem_toArray, List.getElem_cons_succ, List.getElem_cons_zero, List.setIfInBounds_toArray, List.set_cons_zero, List.set_cons_succ]
          refine wpAnyH_ready (rs := [11]) (by kernel_rfl) (by simp) ?_
          refine AllReadyH.cons rfl (fun K hK => ?_) AllReadyH.nil
          go_simp
          have RE := R8.put hti8 hA8 hbP
          refine hK.out _ _ (JC.out _ _ _ RE.did) (fun _ => ?_)
          refine wpAnyH_done (by kernel_rfl) ?_ _
          exact HEnd.out _ _ _ _ RE
        · refine step_call 58 _ _ _ (by rfl) (by rfl) (by rfl) he58 hPick ?_
          rintro e w7 ⟨so, sc, rfl, hA7, hF7, o7, d7⟩
          have R7 := R9.step HRm9.out.1 d7
          have hRm7 : TrRoom w7 o7 4000 := d7.room (HRm9.out.less (by unfold pickEv8; simp))
          have hS7 := JC.out _ _ _ R7.did
          have cP7 := R7.box.cell
          have hMul7 := JMul.out w7 _ o7 ro rc so sc _ _ R7.did (hRm7.less (by omega)) R7.num hA7
          refine ⟨_, rfl, ?_⟩
          refine hK.out _ _ hS7 (fun _ => ?_)
          simp only [Act.put, List.getElem_toArray, List.getElem_cons_succ, List.getElem_cons_zero, List.setIfInBounds_toArray, List.set_cons_zero, List.set_cons_succ]
          refine wpAnyH_ready (rs := [2]) (by kernel_rfl) (by simp) ?_
          refine AllReadyH.cons rfl (fun K hK => ?_) AllReadyH.nil
          go_simp
          refine hK.out _ _ hS7 (fun _ => ?_)
          refine wpAnyH_ready (rs := [7]) (by kernel_rfl) (by simp) ?_
          refine AllReadyH.cons rfl (fun K hK => ?_) AllReadyH.nil
          refine step_call 57 _ _ _ (by rfl) (by rfl) (by rfl) he57 hMul7 ?_
          rintro e w8 ⟨to, tc, rfl, hA8, hF8, o8, d8⟩
          have R8 := R7.step hRm7.1 d8
          have hti8 : TrIn w8 o8 := (d8.room (k := 0) (hRm7.less (by have := (ev8_len HF1.out).1; omega))).1
          have hS8 := JC.out _ _ _ R8.did
          have cP8 := R8.box.cell
          have fP8 := R8.box.free
          refine ⟨_, rfl, ?_⟩
          refine hK.out _ _ hS8 (fun _ => ?_)
          simp only [Act.put, List.getElem_toArray, List.getElem_cons_succ, List.getElem_cons_zero, List.setIfInBounds_toArray, List.set_cons_zero, List.set_cons_succ]
          refine wpAnyH_take (i := 8) (v := .slice to n tc) rfl (by kernel_rfl) (by kernel_rfl) (by kernel_rfl) (fun _ _ _ h => h) (Or.inl ⟨by rfl, fun w9 hw9 => ?_⟩) hS8 ?_
          · go_simp
          simp only [Act.put, List.getElem_toArray, List.getElem_cons_succ, List.getElem_cons_zero, List.setIfInBounds_toArray, List.set_cons_zero, List.set_cons_succ]
          refine wpAnyH_take (i := 9) (v := .int .i64 0) rfl (by kernel_rfl) (by kernel_rfl) (by kernel_rfl) (fun _ _ _ h => h) (Or.inl ⟨by rfl, fun w9 hw9 => ?_⟩) hS8 ?_
          · go_simp
          simp only [Act.put, List.getElem_toArray, List.getElem_cons_succ, List.getElem_cons_zero, List.setIfInBounds_toArray, List.set_cons_zero, List.set_cons_succ]
          refine wpAnyH_ready (rs := [10]) (by kernel_rfl) (by simp) ?_
          refine AllReadyH.cons rfl (fun K hK => ?_) AllReadyH.nil
          refine step_call 56 _ _ _ (by rfl) (by rfl) (by rfl) he56 (wStep to n tc w8) ?_
          rintro e w10 ⟨rfl, rfl⟩
          refine ⟨_, rfl, ?_⟩
          refine hK.out _ _ hS8 (fun _ => ?_)
          simp only [Act.put, List.getElem_toArray, List.getElem_cons_succ, List.getElem_cons_zero, List.setIfInBounds_toArray, List.set_cons_zero, List.set_cons_succ]
          refine wpAnyH_ready (rs := [11]) (by kernel_rfl) (by simp) ?_
          refine AllReadyH.cons rfl (fun K hK => ?_) AllReadyH.nil
          go_simp
          have RE := R8.put hti8 hA8 hbP
          refine hK.out _ _ (JC.out _ _ _ RE.did) (fun _ => ?_)
          refine wpAnyH_done (by kernel_rfl) ?_ _
          exact HEnd.out _ _ _ _ RE
        -- REGION 9 ENDS
  case done =>
    rintro D zs W hD hzs ⟨oc, qo, qc, hbx, hnum, hd, _⟩ hK
    obtain ⟨q0, q1, q2, q3, q4⟩ := JC.out _ _ _ hd
    have hroom : TrRoom W oc 3000 := hd.room (HTR.out.less (by
      have h1 := rndEv8_len HF1.out L zs.length
      have h2 := congrArg List.length hzs
      rw [List.length_map, List.length_range] at h2
      omega))
    have qP := hbx.cell
    have hLea := JLea.out W _ oc qo qc _ hd (hroom.less (by omega)) hnum
    have hE : wndF g zs = val 18446744073709551616 ys := by
      rw [wndF_all hzs, ← wnd_all hde HLen.out.out]
      congr 1
      exact List.map_congr_left (fun j _ => (HG.out j).symm)
    have hlen2 : zs.length = 16 * L := by
      have h2 := congrArg List.length hzs
      rwa [List.length_map, List.length_range] at h2
    rw [hE] at hLea
    rw [hlen2] at hd
    have HD := toHid hd
    have HRm := toHid hroom
    clear hE hlen2 hzs hd hroom hnum hbx hg
    go_wp2_with fail
    refine hLea.mono ?_
    rintro e W4 ⟨zo, zc, rfl, hRow, hF, o4, d4⟩
    have hSt := wStep zo n zc W4
    have HR4 := toHid hRow
    have HF4 := toHid hF
    have HK4 : Hid (W4.heap[D]? = some (.deferred (some []))) := (d4.kept.block D (Array.getElem?_eq_some_iff.1 hK).1 (fun f => by
      obtain ⟨c, ty, fr, h⟩ := foot_cells HRm.out.1 f
      rw [hK] at h
      cases h)).trans hK
    have HD4 := toHid (HD.out.trans d4)
    clear hLea hRow hF d4 hK q0 q1 q2 q3 q4 qP
    go_wp2_with fail
    refine hSt.mono ?_
    rintro e W5 ⟨rfl, rfl⟩
    clear hSt
    go_wp2_with fail
    refine ⟨by simp, .inl ⟨_, _, rfl, run_takeDeferred HK4.out, ?_⟩⟩
    have tt := turn_put (B := W3.heap.size) hD HK4.out rfl (.deferred none)
    exact ⟨_, results_tmp rfl _ _ _, zo, zc, rfl, ⟨tt.row HR4.out.1, tt.u64s HR4.out.2⟩, fun b hb => by have h1 := HF4.out b hb; have h2 := HD.out.size; have h3 := HK0.out.size; omega, o4, tt.did (Did.after HK0.out HD4.out) (by have h2 := kE.size; have h3 := HK0.out.size; omega)⟩
  case stop =>
    rintro D c pre W _ _ h _
    exact h.elim

end Go.Proofs.YtoieghgaahfciaaGreat
