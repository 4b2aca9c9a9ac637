/- What trace's write leaves of a trace that has room for the event. -/
import Derived.Test.YtnjmckfkfkalgabTWrite
import Derived.Deep.RegionLaw
namespace Go.Proofs.Ytnjmckfkfkalgab
open Go.RowKit

attribute [local go_sem ↓] Go.wp_at_zero Go.wp_at_succ

theorem row_ne {w : World} {base size n : Nat} {e t : TypeId} {v : Value} {xs : List Value} {p : Nat} {cs : Array Value} {fr : Nat × Nat} (h : w.ownsRow base e size v n xs) (hp : w.heap[p]? = some (.cells cs t fr)) (ht : t ≠ e) : some p ≠ v.ownBlock := by
  intro he
  rcases h.2 with ⟨rfl, _⟩ | ⟨g', cap, cur, rfl, _, hgg, _⟩
  · cases he
  · have : p = g' := by simpa [Value.ownBlock] using he
    subst this
    rw [hp] at hgg
    simp only [Option.some.injEq, Obj.cells.injEq] at hgg
    exact ht hgg.2.1

theorem keep_cell {W : World} {bx j p i : Nat} {u : Value} (h : W.cell? ⟨bx, j, none⟩ = some u) (hne : bx ≠ p) (z : Value) (B : Obj) : ((W.setCell ⟨p, i, none⟩ z).alloc B).drew.cell? ⟨bx, j, none⟩ = some u := by
  have hlt : bx < W.heap.size := World.block_lt_of_cell? W _ h
  have e : ((W.setCell ⟨p, i, none⟩ z).alloc B).drew.heap[bx]? = W.heap[bx]? := (Below.heap_alloc _ _ _ (by simpa using hlt)).trans (Below.heap_setCell W _ z bx hne)
  exact (World.cell?_of_block (a := ⟨bx, j, none⟩) e).trans h

theorem room_after {w w1 : World} {p m : Nat} {v u c s : Value} {A B : Array Value} {xs : List Value} {t : TypeId} (hp : w.heap[p]? = some (.cells #[v, c, s] t (0, 0)))
    (hgrow : ((w.alloc (.cells A 58)).alloc (.cells B 58)).drew.grownBy w1 v.ownBlock) (hpw : w1.heap[p]? = some (.cells #[v, c, s] t (0, 0)))
    (ho : w1.ownsRow 0 58 3 u m xs) (hvlt : ∀ b, v.ownBlock = some b → b < w.heap.size) (ht : t ≠ 58 := by decide) :
    (w1.setCell ⟨p, 0, none⟩ u).heap[p]? = some (.cells #[u, c, s] t (0, 0)) ∧ (w1.setCell ⟨p, 0, none⟩ u).heap[w.heap.size]? = some (.cells A 58 (0, 0)) ∧
      (w1.setCell ⟨p, 0, none⟩ u).ownsRow 0 58 3 u m xs ∧ Kept (fun b => b = p ∨ v.ownBlock = some b) w (w1.setCell ⟨p, 0, none⟩ u) ∧ w.heap.size < (w1.setCell ⟨p, 0, none⟩ u).heap.size := by
  have hlt := lt_of_block hp
  have hs := hgrow.size
  have hs' : w.heap.size + 2 ≤ w1.heap.size := by simpa using hs
  have hne : some w.heap.size ≠ v.ownBlock := fun e => by have := hvlt _ e.symm; omega
  refine ⟨?_, ?_, ownsRow_setCell_other ho (fun e => row_ne ho hpw ht e.symm) _, ?_, by simp; omega⟩
  · simpa using heap_setCell_same w1 p 0 _ _ u hpw
  · refine heapAt_set ?_ (by simp; omega) _
    rw [hgrow.block w.heap.size (by simp; omega) hne]
    exact heapAt_drew (heap_alloc2_old w _ _)
  · exact (((((Kept.refl (fun b => b = p ∨ v.ownBlock = some b) w).alloc _).alloc _).drew).grown hgrow (fun k hk _ => .inr hk)).setCell ⟨p, 0, none⟩ (fun _ => .inl rfl) _

theorem room_own {W : World} {p m : Nat} {v : Value} {cs : Array Value} {xs : List Value} {t : TypeId} (hp : W.heap[p]? = some (.cells cs t (0, 0))) (ho : W.ownsRow 0 58 3 v m xs) (u1 u2 : Value) (B : Obj) (ht : t ≠ 58 := by decide) :
    (((W.setCell ⟨p, 2, none⟩ u2).setCell ⟨p, 1, none⟩ u1).alloc B).drew.ownsRow 0 58 3 v m xs :=
  ((ownsRow_setCell_other (ownsRow_setCell_other ho (a := ⟨p, 2, none⟩) (fun e => row_ne ho hp ht e.symm) u2) (a := ⟨p, 1, none⟩) (fun e => row_ne ho hp ht e.symm) u1).alloc B).drew

set_option maxRecDepth 100000 in
set_option maxHeartbeats 800000 in
theorem tWriteRoom (p : Nat) (v : Value) (ao : Option Addr) (cap n : Nat) (xs : List Value) (s r k x y : Int) (w : World) (hn : n < 1000) (hv : v = .slice ao n cap)
    (hp : w.heap[p]? = some (.cells #[v, .int .i64 n, .int .u64 s] 51 (0, 0))) (hown : w.ownsRow 0 58 3 v n xs) (hr : (n = 0 ∧ r = 14695981039346656037) ∨ (n ≠ 0 ∧ r = s)) :
    Calls Try.prog 31 #[.pointer (some ⟨p, 0, none⟩), .agg #[.int .i64 k, .int .i64 x, .int .i64 y]] w fun e w' => e = .returned (.tuple #[]) ∧
      ∃ g c', w'.heap[p]? = some (.cells #[.slice (some ⟨g, 0, none⟩) (n + 1) c', .int .i64 (n + 1 : Nat), .int .u64 (mixE r (k, x, y))] 51 (0, 0)) ∧
        w'.ownsRow 0 58 3 (.slice (some ⟨g, 0, none⟩) (n + 1) c') (n + 1) (xs ++ evCells (k, x, y)) ∧ (v.ownBlock = some g ∨ w.heap.size ≤ g) ∧ Kept (fun b => b = p ∨ v.ownBlock = some b) w w' := by
  subst hv
  obtain ⟨i0, hi0, hz0, hz1, hz2⟩ := info_parts Try.info58
  have hlt := lt_of_block hp
  have hvlt : ∀ b, (Value.slice ao n cap).ownBlock = some b → b < w.heap.size := fun b hb => (hown.lt b hb).2
  have hne : (Value.slice ao n cap).ownBlock ≠ some w.heap.size := fun e => by have := hvlt _ e; omega
  have c0 : w.cell? ⟨p, 0, none⟩ = some (.slice ao n cap) := by rw [cell_of_row w p 0 _ _ _ hp]; rfl
  have ne2 := World.new_ne w _ c0
  have f : ∀ j, w.frozen? ⟨p, j, none⟩ = false := fun j => frozen_of_row w p j _ _ hp
  have hnp : some p ≠ (Value.slice ao n cap).ownBlock := row_ne hown hp (by decide)
  have hn' : (n : Int) < 1000 := by omega
  go_enter Try.func31, Try.ntmps31
  go_wp2_with fail
  go_region_law ((refine step_append_lies _ (by rfl) _ _ _ (by rfl) 0 58 i0 _ 3 24 Try.underlying49 hi0 hz0 hz1 hz2 rfl (by omega) (.slice ao n cap) n xs (by rfl) (((hown.alloc _).alloc _).drew) ⟨w.heap.size + 1, 0, none⟩ 1 1 [.int .i64 k, .int .i64 x, .int .i64 y] (by rfl) (by rfl) (World.news_of_block (cs := #[.int .i64 k, .int .i64 x, .int .i64 y]) (t := 58) (fr := (0, 0)) (heap_alloc2_new w _ _)) (by simp [Value.oneCell']) (by omega) (by unfold maxLen; omega) (by omega) (by simp) (w.heap.size + 2) (by simp) ?_; intro gg c' w1 hown1 hgrow hat hgl; have hpw := (hgrow.block p (by simp; omega) hnp).trans (heapAt_drew (heapAt_alloc (heapAt_alloc hp))); have cp := (cell_of_row w1 p 0 _ _ _ hpw).trans rfl; have fp := frozen_of_row w1 p 0 _ _ hpw))
  all_goals
    go_wp2_with fail
    obtain ⟨hpW, hbW, hoW, hkW, hsW⟩ := room_after (u := .slice (some ⟨gg, 0, none⟩) (n + 1) c') hp hgrow hpw hown1 hvlt
    have hat' : (Value.slice ao n cap).ownBlock = some gg ∨ w.heap.size ≤ gg := hat.imp id (fun e => by omega)
    clear hown1 hgrow hpw cp fp hown hp c0 f hat hgl hnp hvlt hne hi0 hz0 hz1 hz2
    generalize w1.setCell ⟨p, 0, none⟩ (.slice (some ⟨gg, 0, none⟩) (n + 1) c') = W at *
    clear w1
    have b0 : W.cell? ⟨w.heap.size, 0, none⟩ = some (.int .i64 k) := (cell_of_row W _ 0 _ _ _ hbW).trans rfl
    have b1 : W.cell? ⟨w.heap.size, 1, none⟩ = some (.int .i64 x) := (cell_of_row W _ 1 _ _ _ hbW).trans rfl
    have b2 : W.cell? ⟨w.heap.size, 2, none⟩ = some (.int .i64 y) := (cell_of_row W _ 2 _ _ _ hbW).trans rfl
    have c1 : W.cell? ⟨p, 1, none⟩ = some (.int .i64 n) := by rw [cell_of_row W p 1 _ _ _ hpW]; rfl
    have c2 : W.cell? ⟨p, 2, none⟩ = some (.int .u64 s) := by rw [cell_of_row W p 2 _ _ _ hpW]; rfl
    have f : ∀ j, W.frozen? ⟨p, j, none⟩ = false := fun j => frozen_of_row W p j _ _ hpW
    have hltW := lt_of_block hpW
    generalize hbx : w.heap.size = bx at *
    have HB : Hid (w.heap.size = bx) := hbx
    clear hbx
    go_region_held3 (fun w' => w'.cell? ⟨bx, 0, none⟩ = some (.int .i64 k) ∧ w'.cell? ⟨bx, 1, none⟩ = some (.int .i64 x) ∧ w'.cell? ⟨bx, 2, none⟩ = some (.int .i64 y))
      (((try dsimp only); (repeat' apply And.intro) <;> first | (go_keep; done) | exact keep_cell b0 ne2 _ _ | exact keep_cell b1 ne2 _ _ | exact keep_cell b2 ne2 _ _))
      (first
        | (go_at_call 39; refine (tMix r (k, x, y) _ _ ?_).mono ?_; (first | exact heapAt_drew (Go.heap_alloc_new _ _) | exact Go.heap_alloc_new _ _ ); rintro e w' ⟨rfl, rfl⟩)
        | (go_at_call 33; refine (tSumAt p (.slice (some ⟨gg, 0, none⟩) (n + 1) c') n s r _ ?_ hr).mono ?_; (first | exact heapAt_drew hpW | exact heapAt_drew (heapAt_alloc hpW) | exact heapAt_alloc (heapAt_drew hpW)); rintro e w' ⟨rfl, rfl⟩))
    all_goals
      go_wp2
      go_end0
      refine ⟨rfl, gg, c', ?_, ?_, by rw [HB.out]; exact hat', ?_⟩
      · rw [Int.natCast_add]
        exact heapAt_drew (heapAt_alloc (set21 hpW _ _))
      · exact room_own hpW hoW _ _ _
      · exact hkW.trans (((((Kept.refl (fun b => b = p ∨ (Value.slice ao n cap).ownBlock = some b) W).setCell ⟨p, 2, none⟩ (fun _ => .inl rfl) _).setCell ⟨p, 1, none⟩ (fun _ => .inl rfl) _).alloc _).drew)

end Go.Proofs.Ytnjmckfkfkalgab
