/- What the statements' own same and trace's alike answer: whether two rows hold the same events. -/
import Derived.Test.YtpgccioblgcjaaaTEvents
import Derived.Deep.QuietTactic
import Derived.BigQuiet
import Derived.Laws.StructEq
namespace Go.Proofs.Ytpgccioblgcjaaa
open Go.RowKit

/-- The cells of event number k of the row at g, which is the number k of l. -/
def EvAt (w : World) (g k : Nat) (l : List Ev) (x y z : Int) : Prop := w.cell? ⟨g, k * 3, none⟩ = some (.int .i64 x) ∧ w.cell? ⟨g, k * 3 + 1, none⟩ = some (.int .i64 y) ∧ w.cell? ⟨g, k * 3 + 2, none⟩ = some (.int .i64 z) ∧ Hid (l[k]? = some (x, y, z))

theorem EvRow.view {w : World} {v : Value} {l : List Ev} (h : EvRow w v l) :
    ∃ ao cap, v = .slice ao l.length cap ∧ (∀ k, k < l.length → ∃ g x y z, ao = some ⟨g, 0, none⟩ ∧ EvAt w g k l x y z) := by
  rcases h.2 with ⟨rfl, h0⟩ | ⟨g, cap, cur, rfl, _, hg, _, _, hcs, htake⟩
  · exact ⟨none, 0, by rw [h0], fun k hk => by omega⟩
  · refine ⟨_, _, rfl, fun k hk => ⟨g, l[k].1, l[k].2.1, l[k].2.2, rfl, ?_⟩⟩
    have hc : ∀ j, j < 3 → w.cell? ⟨g, k * 3 + j, none⟩ = (evCells l[k])[j]? := fun j hj => by
      rw [World.ownsRow.cellAt h (k * 3 + j) (by omega), evsCells_at l k j hk hj]
    exact ⟨hc 0 (by omega), hc 1 (by omega), hc 2 (by omega), List.getElem?_eq_getElem hk⟩

theorem take_eq_succ {a b : List Ev} {k : Nat} {x : Ev} (h : a.take k = b.take k) (ha : a[k]? = some x) (hb : b[k]? = some x) : a.take (k + 1) = b.take (k + 1) := by
  rw [List.take_add_one, List.take_add_one, h, ha, hb]

theorem take_all_eq {a b : List Ev} {n : Nat} (hl : a.length = n) (hb : b.length = n) (h : a.take n = b.take n) : decide (a = b) = true := by
  rw [List.take_of_length_le (by omega), List.take_of_length_le (by omega)] at h
  simpa using h

theorem ne_at {a b : List Ev} {k : Nat} {x y : Ev} (ha : a[k]? = some x) (hb : b[k]? = some y) (he : x ≠ y) : decide (a = b) = false := by
  simp only [decide_eq_false_iff_not]
  intro e
  subst e
  rw [ha] at hb
  exact he (Option.some.inj hb)

theorem Try.noGuard103 : Try.prog.eqGuardType Try.prog.depth 103 = false := by kernel_rfl

theorem Try.noHeld103 : Try.prog.stoodInHeld 103 = false := by kernel_rfl

theorem Try.struct103 : Try.prog.underlying 103 = some (.struct (Try.prog.fieldsOf 103)) := by kernel_rfl

theorem three_of_map {α β : Type} (q : α → β) {l : List α} {a b c : β} (h : l.map q = [a, b, c]) : ∃ x y z, l = [x, y, z] ∧ q x = a ∧ q y = b ∧ q z = c := by
  cases l with
  | nil => simp at h
  | cons x l =>
    cases l with
    | nil => simp at h
    | cons y l =>
      cases l with
      | nil => simp at h
      | cons z l =>
        simp only [List.map_cons, List.cons.injEq, List.map_eq_nil_iff] at h
        obtain ⟨rfl, rfl, rfl, rfl⟩ := h
        exact ⟨x, y, z, rfl, rfl, rfl, rfl⟩

/-- Whether two events are alike, as the program asks it. -/
theorem ev_alike (w : World) (x y z x' y' z' : Int) : (Op.equalIn 10000 103 (.agg #[.int .i64 x, .int .i64 y, .int .i64 z]) (.agg #[.int .i64 x', .int .i64 y', .int .i64 z'])).run Try.prog w = .ok (decide ((x, y, z) = (x', y', z'))) w := by
  rw [run_equalIn_struct w 9999 _ _ _ Try.struct103 Try.noHeld103]
  have hi : ∀ (d : Nat) (a b : Int) (w : World), (Op.equalIn (d + 1) 3 (.int .i64 a) (.int .i64 b)).run Try.prog w = .ok (a == b) w := fun d a b w => run_equalIn_int w d 3 .i64 .i64 a b Try.underlying3
  have hf : (Try.prog.fieldsOf 103).toList.map (fun f => (f.name, f.type, f.offset)) = [("Kind", 3, 0), ("A", 3, 1), ("B", 3, 2)] := by kernel_rfl
  generalize (Try.prog.fieldsOf 103).toList = fs at hf
  obtain ⟨f, g, h, rfl, hf1, hf2, hf3⟩ := three_of_map _ hf
  simp only [Prod.mk.injEq] at hf1 hf2 hf3
  obtain ⟨f1, f2, f3⟩ := hf1
  obtain ⟨g1, g2, g3⟩ := hf2
  obtain ⟨h1, h2, h3⟩ := hf3
  have hq : ∀ (xs : Array Value) (j : Nat) (w : World), j < xs.size → (part 3 xs j).run Try.prog w = .ok (xs.getD j undef) w := fun xs j w hj => by
    simp [part, go_sem, hj]
  simp only [Op.eqFields, f1, f2, f3, g1, g2, g3, h1, h2, h3]
  by_cases e1 : x = x' <;> by_cases e2 : y = y' <;> by_cases e3 : z = z' <;> simp [hi 9998, hq, e1, e2, e3]

theorem EvAt.kept {w w' : World} {g k : Nat} {l : List Ev} {x y z : Int} (h : EvAt w g k l x y z) (hk : Kept Nought w w') : EvAt w' g k l x y z := by
  have hg : g < w.heap.size := World.block_lt_of_cell? w ⟨g, k * 3, none⟩ h.1
  have hb := hk.block g hg (fun f => f)
  have hc : ∀ j, w'.cell? ⟨g, j, none⟩ = w.cell? ⟨g, j, none⟩ := fun j => World.cell?_of_block (a := ⟨g, j, none⟩) hb
  exact ⟨(hc _).trans h.1, (hc _).trans h.2.1, (hc _).trans h.2.2.1, h.2.2.2⟩

set_option maxHeartbeats 400000 in
theorem tAlike (u v : Value) (a b : List Ev) (w : World) (hu : EvRow w u a) (hv : EvRow w v b) (ba : a.length < 1000000000000) :
    Calls Try.prog 60 #[u, v] w fun r w' => r = .returned (.bool (decide (a = b))) ∧ Kept Nought w w' := by
  obtain ⟨ao, ac, rfl, hA⟩ := hu.view
  obtain ⟨bo, bc, rfl, hB⟩ := hv.view
  clear hu hv
  by_cases hl : a.length = b.length
  · rw [← hl] at hB ⊢
    obtain ⟨n, hn⟩ : ∃ n, n = a.length := ⟨_, rfl⟩
    rw [← hn] at hA hB ba ⊢
    have hN : Hid (a.length = n) := hn.symm
    have hM : Hid (b.length = n) := (hn.trans hl).symm
    clear hl hn
    go_enter Try.func60, Try.ntmps60
    go_wp2_with fail
    go_loopw [5, 6, 14] (fun _ _ i wr => ∃ k : Nat, k ≤ n ∧ i = .int .i64 k ∧ a.take k = b.take k ∧ Kept Nought w wr) (fun _ _ i _ => n - (intOf i).toNat)
    case atStart => exact ⟨0, Nat.zero_le _, rfl, rfl, Kept.refl _ _⟩
    case round =>
      obtain ⟨k, hk, rfl, ht, hkp⟩ := hrel
      by_cases hlt : k < n
      · obtain ⟨ga, ax, ay, az, rfl, hA'⟩ := hA k hlt
        obtain ⟨gb, bx, bY, bz, rfl, hB'⟩ := hB k hlt
        obtain ⟨a0, a1, a2, a3⟩ := hA'.kept hkp
        obtain ⟨b0, b1, b2, b3⟩ := hB'.kept hkp
        clear hA hB hA' hB'
        have ht' : Hid (a.take k = b.take k) := ht
        clear ht
        have hk0 : (0 : Int) ≤ (k : Int) := Int.natCast_nonneg _
        have hk1 : (k : Int) < (n : Int) := by omega
        have hgd := Try.noGuard103
        have hgb : gb < wr.heap.size := World.block_lt_of_cell? wr _ b0
        by_cases he : (ax, ay, az) = (bx, bY, bz)
        · have hq := fun w => ev_alike w ax ay az bx bY bz
          rw [decide_eq_true he] at hq
          have hE : Hid ((ax, ay, az) = (bx, bY, bz)) := he
          clear he
          go_wp2_with fail
          go_quiet (fail)
          go_wp2
          go_roundw
          case rel => exact ⟨k + 1, by omega, by go_num, take_eq_succ ht'.out a3.out (by rw [hE.out]; exact b3.out), (hkp.alloc _).drewN _⟩
          case measure => simp [intOf]; omega
        · have hq := fun w => ev_alike w ax ay az bx bY bz
          rw [decide_eq_false he] at hq
          have hE : Hid ((ax, ay, az) ≠ (bx, bY, bz)) := he
          clear he
          go_wp2_with fail
          go_quiet (fail)
          go_wp2
          go_ret
          rw [ne_at a3.out b3.out hE.out]
          exact ⟨rfl, (hkp.alloc _).drewN _⟩
      · have ht' : Hid (decide (a = b) = true) := take_all_eq hN.out hM.out (by rw [show n = k from by omega]; exact ht)
        clear hA hB ht
        have hk1 : ¬ (k : Int) < (n : Int) := by omega
        go_wp2
        go_ret
        rw [ht'.out]
        exact ⟨rfl, hkp⟩
  · have hd : decide (a = b) = false := by
      simp only [decide_eq_false_iff_not]
      intro e; subst e; exact hl rfl
    have hl2 : ¬ ((a.length : Int) = (b.length : Int)) := by omega
    rw [hd]
    clear hA hB hd hl
    generalize a.length = n at *
    generalize b.length = n' at *
    go_enter Try.func60, Try.ntmps60
    go_wp2
    go_ret
    exact ⟨rfl, Kept.refl _ _⟩

end Go.Proofs.Ytpgccioblgcjaaa
