/- Put together of: Tra2 Duo0 RowB0. -/
import Derived.Test.YtnhkfdbeacmepaaDoorPk27
import Derived.Deep.QuietTactic
import Derived.BigQuiet
import Derived.Laws.StructEq

/- Melted of: CopyWide TEvents LSame TSame. -/

/- Copying a row of events that is known into a row of the call's own, as long as it. -/
namespace Go.Proofs.YtnhkfdbeacmepaaDoor
open Go.RowKit

theorem run_copy_wide {P : Program} (w : World) (dT sT ty elem : TypeId) (sz g n cap m : Nat) (a : Addr) (cur : Array Value) (t : TypeId) (cs : List Value)
    (hu : P.underlying dT = some (.slice elem)) (hs : (P.info? elem).map (·.size) = some sz) (hg : w.heap[g]? = some (.cells cur t (0, 0))) (hcs : cs.length = n * sz)
    (hsrc : ∀ j v, cs[j]? = some v → w.cell? (a.add j) = some v) (hfit : cs.length = cur.size) (h1 : ∀ v ∈ cs, v.oneCell' = true) :
    (Builtin.copy_ #[dT, sT] ty #[.slice (some ⟨g, 0, none⟩) n m, .slice (some a) n cap]).run P w = .ok (goInt n) (w.setRow g cs.toArray) := by
  have hl := run_loadCells_list (P := P) w a cs hsrc
  have hst := run_storeCells_at P g 0 t cs 0 cur w hg (by simp; omega) h1
  cases hq : P.info? elem with
  | none => simp [hq] at hs
  | some i =>
    have hi : i.size = sz := by simpa [hq] using hs
    have hd : cur.toList.drop (0 + 0 + cs.length) = [] := List.drop_eq_nil_of_le (by simp; omega)
    simp only [hd] at hst
    simp [Builtin.copy_, run_underlying hu, Builtin.lenOf, Builtin.firstCells, sizeOf, typeInfo, hq, hi, ← hcs, hl, hst]

theorem run_copy_empty {P : Program} (w : World) (dT sT ty elem : TypeId) (sz : Nat) (da sa : Option Addr) (dm sm : Nat)
    (hu : P.underlying dT = some (.slice elem)) (hs : (P.info? elem).map (·.size) = some sz) :
    (Builtin.copy_ #[dT, sT] ty #[.slice da 0 dm, .slice sa 0 sm]).run P w = .ok (goInt 0) w := by
  cases hq : P.info? elem with
  | none => simp [hq] at hs
  | some i => cases da <;> cases sa <;> simp [Builtin.copy_, run_underlying hu, Builtin.lenOf, Builtin.firstCells, sizeOf, typeInfo, hq, storeCells, loadCells, loadCellsFrom]

/-- A row of events over a row of the call's own, as long as it. -/
theorem run_copy_own {P : Program} {w : World} (dT sT ty elem : TypeId) (sz g n : Nat) (v : Value) (xs ys : List Value) (hu : P.underlying dT = some (.slice elem)) (hsz : (P.info? elem).map (·.size) = some sz)
    (hg : w.ownsRow g elem sz (.slice (some ⟨g, 0, none⟩) n n) n ys) (hv : w.ownsRow 0 elem sz v n xs) (h1 : ∀ v ∈ xs, v.oneCell' = true) :
    ∃ w', (Builtin.copy_ #[dT, sT] ty #[.slice (some ⟨g, 0, none⟩) n n, v]).run P w = .ok (goInt n) w' ∧ w'.ownsRow g elem sz (.slice (some ⟨g, 0, none⟩) n n) n xs ∧ Kept (fun b => b = g) w w' := by
  rcases hg.2 with ⟨h', _⟩ | ⟨g', cap', cur, h', _, hgg, _, hcm, hcs, _⟩
  · simp at h'
  · simp only [Value.slice.injEq, Option.some.injEq, Addr.mk.injEq, and_true, true_and] at h'
    obtain ⟨rfl, rfl⟩ := h'
    rcases hv.2 with ⟨rfl, rfl⟩ | ⟨g2, cap2, cur2, rfl, _, hg2, hnc, _, hcs2, htake⟩
    · have hx : xs = [] := List.eq_nil_of_length_eq_zero (by simpa using hv.1)
      subst hx
      have hy : ys = [] := List.eq_nil_of_length_eq_zero (by simpa using hg.1)
      subst hy
      exact ⟨w, run_copy_empty (P := P) w dT sT ty elem sz (some ⟨g, 0, none⟩) none 0 0 hu hsz, hg, Kept.refl _ _⟩
    · have hcells := World.ownsRow.cells hv (g := g2) rfl
      refine ⟨_, run_copy_wide (P := P) w dT sT ty elem sz g n cap2 n ⟨g2, 0, none⟩ cur elem xs hu hsz hgg hv.1 hcells (by rw [hv.1, hcs]) h1, ?_, ?_⟩
      · refine ⟨hv.1, .inr ⟨g, n, xs.toArray, rfl, Nat.le_refl _, setRow_heap w g cur _ elem _ hgg, Nat.le_refl _, hcm, by simpa using hv.1, ?_⟩⟩
        simpa using List.take_of_length_le (by rw [hv.1]; exact Nat.le_refl _)
      · exact ⟨rfl, rfl, rfl, by simp, fun k _ hk => setRow_other w g k _ hk⟩

end Go.Proofs.YtnhkfdbeacmepaaDoor

/- What a trace's Events answers: its first events, in new memory. -/
namespace Go.Proofs.YtnhkfdbeacmepaaDoor
open Go.RowKit

theorem Tryd.size96 : (Tryd.prog.info? 96).map (·.size) = some 3 := by kernel_rfl

set_option maxRecDepth 20000 in
set_option maxHeartbeats 400000 in
theorem tEvents (o : Tr) (w : World) (h : TrIn w o) : Calls Tryd.prog 42 #[trPtr o] w fun r w' =>
    ∃ v, r = .returned v ∧ EvRow w' v ((trEvs o).take 1000) ∧ (∀ k, v.ownBlock = some k → w.heap.size ≤ k) ∧ Kept Nought w w' := by
  cases o with
  | none =>
    unfold trPtr trEvs
    go_enter Tryd.func42, Tryd.ntmps42
    go_wp2
    go_ret
    exact ⟨_, rfl, by simpa using EvRow.nil w, fun k e => (by cases e), Kept.refl _ _⟩
  | some q =>
    obtain ⟨p, g, l⟩ := q
    obtain ⟨⟨v, s, hp, _, hr, _⟩, _⟩ := h
    unfold trPtr trEvs
    dsimp only
    obtain ⟨i0, hi0, hz0, hz1, hz2⟩ := info_parts Tryd.info96
    have hn : (l.take 1000).length ≤ 1000 := by rw [List.length_take]; omega
    unfold EvRow at hr ⊢
    have h1 := evsCells_one (l.take 1000)
    generalize l.take 1000 = m at *
    generalize m.length = n at *
    generalize evsCells m = xs at *
    obtain ⟨ao, cap, rfl⟩ := own_slice hr
    have c0 : w.cell? ⟨p, 0, none⟩ = some (.slice ao n cap) := (cell_of_row w p 0 _ _ _ hp).trans rfl
    have hlt := lt_of_block hp
    go_enter Tryd.func42, Tryd.ntmps42
    go_wp2_with (at_make; refine wpList_make_full _ rfl _ _ 72 rfl w.heap.size 96 i0 _ 3 Tryd.underlying72 hi0 hz0 hz1 _ _ _ _ n rfl rfl rfl rfl (by rw [hz2]; omega) (by unfold maxLen; omega) (Nat.le_refl _) ?_; intro w1 ho1 hg1; have c1 : w1.cell? ⟨p, 0, none⟩ = some (.slice ao n cap) := hg1.cell c0 (by simp))
    obtain ⟨w2, hrun, ho2, hk2⟩ := run_copy_own (P := Tryd.prog) 72 72 3 96 3 w.heap.size n (.slice ao n cap) xs _ Tryd.underlying72 Tryd.size96 ho1 ((grown_kept hg1).own hr (fun _ _ f => f)) h1
    rw [hrun]
    clear hrun
    go_wp2
    go_ret
    exact ⟨_, rfl, own_base ho2 (fun k _ => Nat.zero_le k), fun k e => (by simp [Value.ownBlock] at e; omega), (grown_kept hg1).next hk2 (fun k hk e => by omega)⟩

end Go.Proofs.YtnhkfdbeacmepaaDoor

/- What the statements' own same and trace's alike answer: whether two rows hold the same events. -/
namespace Go.Proofs.YtnhkfdbeacmepaaDoor
open Go.RowKit

/-- The cells of event number k of the row at g, which is the number k of l. -/
def EvAt (w : World) (g k : Nat) (l : List Ev) (x y z : Int) : Prop := w.cell? ⟨g, k * 3, none⟩ = some (.int .i64 x) ∧ w.cell? ⟨g, k * 3 + 1, none⟩ = some (.int .i64 y) ∧ w.cell? ⟨g, k * 3 + 2, none⟩ = some (.int .i64 z) ∧ Hid (l[k]? = some (x, y, z))

theorem EvRow.view {w : World} {v : Value} {l : List Ev} (h : EvRow w v l) :
    ∃ ao cap, v = .slice ao l.length cap ∧ (∀ k, k < l.length → ∃ g x y z, ao = some ⟨g, 0, none⟩ ∧ EvAt w g k l x y z) := by
  rcases h.2 with ⟨rfl, h0⟩ | ⟨g, cap, cur, rfl, _, hg, _, _, hcs, htake⟩
  · exact ⟨none, 0, by rw [h0], fun k hk => by omega⟩
  · refine ⟨_, _, rfl, fun k hk => ⟨g, l[k].1, l[k].2.1, l[k].2.2, rfl, ?_⟩⟩
    have hc : ∀ j, j < 3 → w.cell? ⟨g, k * 3 + j, none⟩ = (evCells l[k])[j]? := fun j hj => by
      rw [World.ownsRow.cellAt h (k * 3 + j) (by omega), evsCells_at l k j hk hj]
    exact ⟨hc 0 (by omega), hc 1 (by omega), hc 2 (by omega), List.getElem?_eq_getElem hk⟩

theorem take_eq_succ {a b : List Ev} {k : Nat} {x : Ev} (h : a.take k = b.take k) (ha : a[k]? = some x) (hb : b[k]? = some x) : a.take (k + 1) = b.take (k + 1) := by
  rw [List.take_add_one, List.take_add_one, h, ha, hb]

theorem take_all_eq {a b : List Ev} {n : Nat} (hl : a.length = n) (hb : b.length = n) (h : a.take n = b.take n) : decide (a = b) = true := by
  rw [List.take_of_length_le (by omega), List.take_of_length_le (by omega)] at h
  simpa using h

theorem ne_at {a b : List Ev} {k : Nat} {x y : Ev} (ha : a[k]? = some x) (hb : b[k]? = some y) (he : x ≠ y) : decide (a = b) = false := by
  simp only [decide_eq_false_iff_not]
  intro e
  subst e
  rw [ha] at hb
  exact he (Option.some.inj hb)

theorem Tryd.noGuard96 : Tryd.prog.eqGuardType Tryd.prog.depth 96 = false := by kernel_rfl

theorem Tryd.noHeld96 : Tryd.prog.stoodInHeld 96 = false := by kernel_rfl

theorem Tryd.struct96 : Tryd.prog.underlying 96 = some (.struct (Tryd.prog.fieldsOf 96)) := by kernel_rfl

theorem three_of_map {α β : Type} (q : α → β) {l : List α} {a b c : β} (h : l.map q = [a, b, c]) : ∃ x y z, l = [x, y, z] ∧ q x = a ∧ q y = b ∧ q z = c := by
  cases l with
  | nil => simp at h
  | cons x l =>
    cases l with
    | nil => simp at h
    | cons y l =>
      cases l with
      | nil => simp at h
      | cons z l =>
        simp only [List.map_cons, List.cons.injEq, List.map_eq_nil_iff] at h
        obtain ⟨rfl, rfl, rfl, rfl⟩ := h
        exact ⟨x, y, z, rfl, rfl, rfl, rfl⟩

/-- Whether two events are alike, as the program asks it. -/
theorem ev_alike (w : World) (x y z x' y' z' : Int) : (Op.equalIn 10000 96 (.agg #[.int .i64 x, .int .i64 y, .int .i64 z]) (.agg #[.int .i64 x', .int .i64 y', .int .i64 z'])).run Tryd.prog w = .ok (decide ((x, y, z) = (x', y', z'))) w := by
  rw [run_equalIn_struct w 9999 _ _ _ Tryd.struct96 Tryd.noHeld96]
  have hi : ∀ (d : Nat) (a b : Int) (w : World), (Op.equalIn (d + 1) 3 (.int .i64 a) (.int .i64 b)).run Tryd.prog w = .ok (a == b) w := fun d a b w => run_equalIn_int w d 3 .i64 .i64 a b Tryd.underlying3
  have hf : (Tryd.prog.fieldsOf 96).toList.map (fun f => (f.name, f.type, f.offset)) = [("Kind", 3, 0), ("A", 3, 1), ("B", 3, 2)] := by kernel_rfl
  generalize (Tryd.prog.fieldsOf 96).toList = fs at hf
  obtain ⟨f, g, h, rfl, hf1, hf2, hf3⟩ := three_of_map _ hf
  simp only [Prod.mk.injEq] at hf1 hf2 hf3
  obtain ⟨f1, f2, f3⟩ := hf1
  obtain ⟨g1, g2, g3⟩ := hf2
  obtain ⟨h1, h2, h3⟩ := hf3
  have hq : ∀ (xs : Array Value) (j : Nat) (w : World), j < xs.size → (part 3 xs j).run Tryd.prog w = .ok (xs.getD j undef) w := fun xs j w hj => by
    simp [part, go_sem, hj]
  simp only [Op.eqFields, f1, f2, f3, g1, g2, g3, h1, h2, h3]
  by_cases e1 : x = x' <;> by_cases e2 : y = y' <;> by_cases e3 : z = z' <;> simp [hi 9998, hq, e1, e2, e3]

theorem EvAt.kept {w w' : World} {g k : Nat} {l : List Ev} {x y z : Int} (h : EvAt w g k l x y z) (hk : Kept Nought w w') : EvAt w' g k l x y z := by
  have hg : g < w.heap.size := World.block_lt_of_cell? w ⟨g, k * 3, none⟩ h.1
  have hb := hk.block g hg (fun f => f)
  have hc : ∀ j, w'.cell? ⟨g, j, none⟩ = w.cell? ⟨g, j, none⟩ := fun j => World.cell?_of_block (a := ⟨g, j, none⟩) hb
  exact ⟨(hc _).trans h.1, (hc _).trans h.2.1, (hc _).trans h.2.2.1, h.2.2.2⟩

set_option maxHeartbeats 400000 in
theorem tAlike (u v : Value) (a b : List Ev) (w : World) (hu : EvRow w u a) (hv : EvRow w v b) (ba : a.length < 1000000000000) :
    Calls Tryd.prog 41 #[u, v] w fun r w' => r = .returned (.bool (decide (a = b))) ∧ Kept Nought w w' := by
  obtain ⟨ao, ac, rfl, hA⟩ := hu.view
  obtain ⟨bo, bc, rfl, hB⟩ := hv.view
  clear hu hv
  by_cases hl : a.length = b.length
  · rw [← hl] at hB ⊢
    obtain ⟨n, hn⟩ : ∃ n, n = a.length := ⟨_, rfl⟩
    rw [← hn] at hA hB ba ⊢
    have hN : Hid (a.length = n) := hn.symm
    have hM : Hid (b.length = n) := (hn.trans hl).symm
    clear hl hn
    go_enter Tryd.func41, Tryd.ntmps41
    go_wp2_with fail
    go_loopw [5, 6, 14] (fun _ _ i wr => ∃ k : Nat, k ≤ n ∧ i = .int .i64 k ∧ a.take k = b.take k ∧ Kept Nought w wr) (fun _ _ i _ => n - (intOf i).toNat)
    case atStart => exact ⟨0, Nat.zero_le _, rfl, rfl, Kept.refl _ _⟩
    case round =>
      obtain ⟨k, hk, rfl, ht, hkp⟩ := hrel
      by_cases hlt : k < n
      · obtain ⟨ga, ax, ay, az, rfl, hA'⟩ := hA k hlt
        obtain ⟨gb, bx, bY, bz, rfl, hB'⟩ := hB k hlt
        obtain ⟨a0, a1, a2, a3⟩ := hA'.kept hkp
        obtain ⟨b0, b1, b2, b3⟩ := hB'.kept hkp
        clear hA hB hA' hB'
        have ht' : Hid (a.take k = b.take k) := ht
        clear ht
        have hk0 : (0 : Int) ≤ (k : Int) := Int.natCast_nonneg _
        have hk1 : (k : Int) < (n : Int) := by omega
        have hgd := Tryd.noGuard96
        have hgb : gb < wr.heap.size := World.block_lt_of_cell? wr _ b0
        by_cases he : (ax, ay, az) = (bx, bY, bz)
        · have hq := fun w => ev_alike w ax ay az bx bY bz
          rw [decide_eq_true he] at hq
          have hE : Hid ((ax, ay, az) = (bx, bY, bz)) := he
          clear he
          go_wp2_with fail
          go_quiet (fail)
          go_wp2
          go_roundw
          case rel => exact ⟨k + 1, by omega, by go_num, take_eq_succ ht'.out a3.out (by rw [hE.out]; exact b3.out), (hkp.alloc _).drewN _⟩
          case measure => simp [intOf]; omega
        · have hq := fun w => ev_alike w ax ay az bx bY bz
          rw [decide_eq_false he] at hq
          have hE : Hid ((ax, ay, az) ≠ (bx, bY, bz)) := he
          clear he
          go_wp2_with fail
          go_quiet (fail)
          go_wp2
          go_ret
          rw [ne_at a3.out b3.out hE.out]
          exact ⟨rfl, (hkp.alloc _).drewN _⟩
      · have ht' : Hid (decide (a = b) = true) := take_all_eq hN.out hM.out (by rw [show n = k from by omega]; exact ht)
        clear hA hB ht
        have hk1 : ¬ (k : Int) < (n : Int) := by omega
        go_wp2
        go_ret
        rw [ht'.out]
        exact ⟨rfl, hkp⟩
  · have hd : decide (a = b) = false := by
      simp only [decide_eq_false_iff_not]
      intro e; subst e; exact hl rfl
    have hl2 : ¬ ((a.length : Int) = (b.length : Int)) := by omega
    rw [hd]
    clear hA hB hd hl
    generalize a.length = n at *
    generalize b.length = n' at *
    go_enter Tryd.func41, Tryd.ntmps41
    go_wp2
    go_ret
    exact ⟨rfl, Kept.refl _ _⟩

end Go.Proofs.YtnhkfdbeacmepaaDoor

/- What trace.Same answers, for any two traces, nil ones too. -/
namespace Go.Proofs.YtnhkfdbeacmepaaDoor
open Go.RowKit

/-- Whether two lists of events are alike as traces. -/
def sameB (a b : List Ev) : Bool := decide (a.length = b.length) && (decide (evSum a = evSum b) && decide (a.take 1000 = b.take 1000))

theorem take_len (a : List Ev) : (a.take 1000).length < 1000000000000 := by rw [List.length_take]; omega

set_option maxHeartbeats 400000 in
theorem tSame (p q : Tr) (w : World) (hp : TrIn w p) (hq : TrIn w q) :
    Calls Tryd.prog 21 #[trPtr p, trPtr q] w fun r w' => r = .returned (.bool (sameB (trEvs p) (trEvs q))) ∧ Kept Nought w w' := by
  have m1 := tMany p w hp
  have m2 := tMany q w hq
  have s1 := tSum p w hp
  have s2 := tSum q w hq
  have e1 := tEvents p w hp
  have e2 := fun w' (hk : Kept Nought w w') => tEvents q w' (hq.grew hk)
  clear hp hq
  generalize trPtr p = P at *
  generalize trPtr q = Q at *
  generalize trEvs p = a at *
  generalize trEvs q = b at *
  clear p q
  by_cases h1 : a.length = b.length
  · have d1 : ((a.length : Int) == (b.length : Int)) = true := by simp [h1]
    by_cases h2 : evSum a = evSum b
    · have HR : Hid (sameB a b = decide (a.take 1000 = b.take 1000)) := by unfold Hid sameB; rw [decide_eq_true h1, decide_eq_true h2]; rfl
      have d2 : (evSum a == evSum b) = true := by simp [h2]
      clear h1 h2
      generalize evSum a = sa at *
      generalize evSum b = sb at *
      generalize a.length = na at *
      generalize b.length = nb at *
      go_enter Tryd.func21, Tryd.ntmps21
      go_wp2_with fail
      refine m1.mono ?_
      rintro e w' ⟨rfl, rfl⟩
      go_wp2_with fail
      refine m2.mono ?_
      rintro e w' ⟨rfl, rfl⟩
      go_wp2_with fail
      refine s1.mono ?_
      rintro e w' ⟨rfl, rfl⟩
      go_wp2_with fail
      refine s2.mono ?_
      rintro e w' ⟨rfl, rfl⟩
      go_wp2_with fail
      refine e1.mono ?_
      rintro e w1 ⟨v1, rfl, r1, _, k1⟩
      go_wp2_with fail
      refine (e2 _ k1).mono ?_
      rintro e w2 ⟨v2, rfl, r2, _, k2⟩
      go_wp2_with fail
      refine (tAlike v1 v2 _ _ w2 (r1.grew k2) r2 (take_len a)).mono ?_
      rintro e w3 ⟨rfl, k3⟩
      go_wp2
      go_ret
      rw [HR.out]
      exact ⟨rfl, (k1.trans k2).trans k3⟩
    · have HR : Hid (sameB a b = false) := by unfold Hid sameB; rw [decide_eq_true h1, decide_eq_false h2]; rfl
      have d2 : (evSum a == evSum b) = false := by simpa using h2
      clear h1 h2
      generalize evSum a = sa at *
      generalize evSum b = sb at *
      generalize a.length = na at *
      generalize b.length = nb at *
      go_enter Tryd.func21, Tryd.ntmps21
      go_wp2_with fail
      refine m1.mono ?_
      rintro e w' ⟨rfl, rfl⟩
      go_wp2_with fail
      refine m2.mono ?_
      rintro e w' ⟨rfl, rfl⟩
      go_wp2_with fail
      refine s1.mono ?_
      rintro e w' ⟨rfl, rfl⟩
      go_wp2_with fail
      refine s2.mono ?_
      rintro e w' ⟨rfl, rfl⟩
      go_wp2
      go_ret
      rw [HR.out]
      exact ⟨rfl, Kept.refl _ _⟩
  · have HR : Hid (sameB a b = false) := by unfold Hid sameB; rw [decide_eq_false h1]; rfl
    have d1 : ((a.length : Int) == (b.length : Int)) = false := by
      simp only [beq_eq_false_iff_ne]; omega
    clear h1
    generalize a.length = na at *
    generalize b.length = nb at *
    go_enter Tryd.func21, Tryd.ntmps21
    go_wp2_with fail
    refine m1.mono ?_
    rintro e w' ⟨rfl, rfl⟩
    go_wp2_with fail
    refine m2.mono ?_
    rintro e w' ⟨rfl, rfl⟩
    go_wp2
    go_ret
    rw [HR.out]
    exact ⟨rfl, Kept.refl _ _⟩

end Go.Proofs.YtnhkfdbeacmepaaDoor


/- Two traces of a law's own, side by side, behind a world W0 of which nothing is changed. (out of L6D and Duo2 in round 21: what speaks of no number) -/
namespace Go.Proofs.YtnhkfdbeacmepaaDoor
open Go.RowKit

/-- One trace at p with the events es, behind W0. -/
def Solo (W0 W : World) (p : Nat) (es : List Ev) (o : Tr) : Prop := TrIn W o ∧ o ≠ none ∧ trPtr o = .pointer (some ⟨p, 0, none⟩) ∧ trEvs o = es ∧ ∀ b, trFoot o b → W0.heap.size ≤ b

def Duo (W0 W : World) (p q : Nat) (es et : List Ev) : Prop :=
  Kept Nought W0 W ∧ ∃ o r : Tr, Solo W0 W p es o ∧ Solo W0 W q et r ∧ ∀ b, trFoot o b → ¬ trFoot r b

theorem TrIn.apart2 {w w' : World} {o q : Tr} {m : List Ev} {o' : Tr} (h : TrIn w q) (d : Did w o m w' o') (hd : ∀ b, trFoot q b → ¬ trFoot o b) : TrIn w' q := by
  cases q with
  | none => trivial
  | some x =>
    obtain ⟨p, g, l⟩ := x
    exact ⟨h.1.kept d.kept (hd p (.inl rfl)) (fun x hx => hd x (.inr hx)), h.2⟩

theorem Duo.swap {W0 W : World} {p q : Nat} {es et : List Ev} (h : Duo W0 W p q es et) : Duo W0 W q p et es := by
  obtain ⟨k, o, r, h1, h2, h3⟩ := h
  exact ⟨k, r, o, h2, h1, fun b f g => h3 b g f⟩

theorem Duo.grew {W0 W W' : World} {p q : Nat} {es et : List Ev} (h : Duo W0 W p q es et) (k : Kept Nought W W') : Duo W0 W' p q es et := by
  obtain ⟨k0, o, r, h1, h2, h3⟩ := h
  exact ⟨k0.trans k, o, r, ⟨h1.1.grew k, h1.2⟩, ⟨h2.1.grew k, h2.2⟩, h3⟩

/-- A call that writes the first one. -/
theorem Duo.call {W0 W : World} {p q f : Nat} {es et m : List Ev} {args : Value → Array Value} (h : Duo W0 W p q es et) (hlen : es.length + 2000 < 1000000000000) (hm : m.length ≤ 2000)
    (hc : ∀ o, TrRoom W o 2000 → (∀ v zs, Row .u64 W0 v zs → RowT W o v zs) → Calls Tryd.prog f (args (trPtr o)) W fun e w' => ∃ x, e = .returned x ∧ ∃ o', Did W o m w' o') :
    Calls Tryd.prog f (args (.pointer (some ⟨p, 0, none⟩))) W fun e w' => ∃ x, e = .returned x ∧ Duo W0 w' p q (es ++ m) et := by
  obtain ⟨k, o, r, ⟨h1, h0, h2, h3, h4⟩, ⟨g1, g0, g2, g3, g4⟩, ha⟩ := h
  rw [← h2]
  have hroom : TrRoom W o 2000 := ⟨h1, by rw [h3]; exact hlen⟩
  refine (hc o hroom (fun v zs hr => ⟨hr.grew k, fun hn b hb f => ?_⟩)).mono ?_
  · have := hr.lt hn b hb
    have := h4 b f
    omega
  · rintro e w' ⟨x, rfl, o', d⟩
    refine ⟨x, rfl, ?_, o', r, ⟨(d.room (k := 0) (hroom.less (by omega))).1, ?_, by rw [d.ptr, h2], by rw [d.evs h0, h3], fun b f => ?_⟩, ⟨g1.apart2 d (fun b f g => ha b g f), g0, g2, g3, g4⟩, fun b f g => ?_⟩
    · exact k.next d.kept (fun x hx f => absurd (h4 x f) (by omega))
    · intro e
      have := d.ptr
      rw [e, h2] at this
      exact absurd this (by simp [trPtr])
    · by_cases hb : b < W.heap.size
      · exact h4 b (d.foot hb f)
      · have := k.size
        omega
    · have hb := g1.foot b g
      exact ha b (d.foot hb f) g

/-- Two new ones. -/
theorem Duo.new (W : World) : Duo W ((W.alloc newTr).alloc newTr) W.heap.size (W.heap.size + 1) [] [] := by
  have t0 : IsTr ((W.alloc newTr).alloc newTr) W.heap.size none [] := (newTr_is W).grew ((Kept.refl _ _).alloc _)
  have t1 : IsTr ((W.alloc newTr).alloc newTr) (W.heap.size + 1) none [] := by
    have := newTr_is (W.alloc newTr)
    simpa using this
  have hft : ∀ q b, trFoot (some (q, none, [])) b → b = q := fun q b f => by
    rcases f with f | f
    · exact f
    · cases f
  refine ⟨((Kept.refl _ _).alloc _).alloc _, some (W.heap.size, none, []), some (W.heap.size + 1, none, []), ⟨⟨t0, by simp⟩, by simp, rfl, rfl, fun b f => by rw [hft _ b f]; exact Nat.le_refl _⟩, ⟨⟨t1, by simp⟩, by simp, rfl, rfl, fun b f => by rw [hft _ b f]; omega⟩, fun b f g => ?_⟩
  have e1 := hft _ b f
  have e2 := hft _ b g
  omega

theorem Duo.same {W0 W : World} {p q : Nat} {es : List Ev} (h : Duo W0 W p q es es) :
    Calls Tryd.prog 21 #[.pointer (some ⟨p, 0, none⟩), .pointer (some ⟨q, 0, none⟩)] W fun e w' => e = .returned (.bool true) ∧ Duo W0 w' p q es es := by
  have h' := h
  obtain ⟨k, o, r, ⟨h1, h0, h2, h3, h4⟩, ⟨g1, g0, g2, g3, g4⟩, ha⟩ := h
  have hS := tSame o r W h1 g1
  rw [h2, g2, h3, g3, show sameB es es = true by simp [sameB]] at hS
  refine hS.mono ?_
  rintro e w' ⟨rfl, k⟩
  exact ⟨rfl, h'.grew k⟩

theorem Duo.many {W0 W : World} {p q : Nat} {es et : List Ev} (h : Duo W0 W p q es et) :
    Calls Tryd.prog 39 #[.pointer (some ⟨p, 0, none⟩)] W fun e w' => e = .returned (.int .i64 (es.length : Nat)) ∧ w' = W := by
  obtain ⟨k, o, r, ⟨h1, h0, h2, h3, h4⟩, ⟨g1, g0, g2, g3, g4⟩, ha⟩ := h
  have := tMany o W h1
  rw [h2, h3] at this
  exact this

theorem bool_of9 (P : Prop) : ∃ R : Bool, R = true ↔ P := by
  by_cases h : P
  · exact ⟨true, by simp [h]⟩
  · exact ⟨false, by simp [h]⟩

end Go.Proofs.YtnhkfdbeacmepaaDoor


/- Bytes that lie apart from a trace; two traces of a law's own, by such bytes. (out of Pad3 and LPadSeen in round 23) -/
namespace Go.Proofs.YtnhkfdbeacmepaaDoor
open Go.RowKit

/-- Bytes that lie apart from a trace. -/
def RowB (w : World) (o : Tr) (v : Value) (xs : List Nat) : Prop := Row .u8 w v xs ∧ (xs ≠ [] → ∀ b, v.ownBlock = some b → ¬ trFoot o b)

theorem RowB.none {w : World} {v : Value} {xs : List Nat} (h : Row .u8 w v xs) : RowB w none v xs := ⟨h, fun _ _ _ f => f⟩

theorem RowB.did {w w' : World} {o o' : Tr} {m : List Ev} {v : Value} {xs : List Nat} (h : RowB w o v xs) (d : Did w o m w' o') : Row .u8 w' v xs := h.1.kept' d.kept (fun hne x hx => h.2 hne x hx)

/-- A call that writes the first trace, of up to b events; what lies in W0 lies apart from it. -/
theorem Duo.callA {W0 W : World} {p q f : Nat} {es et m : List Ev} {args : Value → Array Value} (b : Nat) (h : Duo W0 W p q es et) (hlen : es.length + b < 1000000000000) (hm : m.length ≤ b)
    (hc : ∀ o, TrRoom W o b → (∀ x, x < W0.heap.size → ¬ trFoot o x) → Calls Tryd.prog f (args (trPtr o)) W fun e w' => ∃ x, e = .returned x ∧ ∃ o', Did W o m w' o') :
    Calls Tryd.prog f (args (.pointer (some ⟨p, 0, none⟩))) W fun e w' => ∃ x, e = .returned x ∧ Duo W0 w' p q (es ++ m) et := by
  obtain ⟨k, o, r, ⟨h1, h0, h2, h3, h4⟩, ⟨g1, g0, g2, g3, g4⟩, ha⟩ := h
  rw [← h2]
  have hroom : TrRoom W o b := ⟨h1, by rw [h3]; exact hlen⟩
  refine (hc o hroom (fun x hx f => by have := h4 x f; omega)).mono ?_
  rintro e w' ⟨x, rfl, o', d⟩
  refine ⟨x, rfl, ?_, o', r, ⟨(d.room (k := 0) (hroom.less (by omega))).1, ?_, by rw [d.ptr, h2], by rw [d.evs h0, h3], fun b f => ?_⟩, ⟨g1.apart2 d (fun b f g => ha b g f), g0, g2, g3, g4⟩, fun b f g => ?_⟩
  · exact k.next d.kept (fun x hx f => absurd (h4 x f) (by omega))
  · intro e
    have := d.ptr
    rw [e, h2] at this
    exact absurd this (by simp [trPtr])
  · by_cases hb : b < W.heap.size
    · exact h4 b (d.foot hb f)
    · have := k.size
      omega
  · have hb := g1.foot b g
    exact ha b (d.foot hb f) g

end Go.Proofs.YtnhkfdbeacmepaaDoor

