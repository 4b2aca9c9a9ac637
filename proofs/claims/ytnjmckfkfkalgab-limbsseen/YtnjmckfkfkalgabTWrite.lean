/- What trace's write leaves, for any trace and any event. -/
import Derived.Test.YtnjmckfkfkalgabTrs
import Derived.Deep.RegionHeld3
import Derived.Deep.DrawnRows
namespace Go.Proofs.Ytnjmckfkfkalgab
open Go.RowKit

theorem Try.info58 : (Try.prog.info? 58).map (fun i => (i.zero, i.size, i.bytes)) = some (some (.agg #[.int .i64 0, .int .i64 0, .int .i64 0]), 3, 24) := by kernel_rfl

theorem box_cell (w W : World) (A : Array Value) (t : TypeId) (j : Nat) (hs : W.heap.size = w.heap.size) (B : Obj) : ((W.alloc (.cells A t)).alloc B).drew.cell? ⟨w.heap.size, j, none⟩ = A[j]? := by
  rw [← hs]
  exact cell_of_row _ _ _ A t (0, 0) (heapAt_drew (heap_alloc2_old W _ _))

theorem set21 {w : World} {p : Nat} {v n s : Value} {t : TypeId} (hp : w.heap[p]? = some (.cells #[v, n, s] t (0, 0))) (u1 u2 : Value) : ((w.setCell ⟨p, 2, none⟩ u2).setCell ⟨p, 1, none⟩ u1).heap[p]? = some (.cells #[v, u1, u2] t (0, 0)) := by
  have h1 := heap_setCell_same w p 2 _ _ u2 hp
  have h2 := heap_setCell_same _ p 1 _ _ u1 h1
  simpa using h2

attribute [local go_sem ↓] Go.wp_at_zero Go.wp_at_succ

set_option maxHeartbeats 400000 in
theorem tWriteNil (k x y : Int) (w : World) :
    Calls Try.prog 31 #[.pointer none, .agg #[.int .i64 k, .int .i64 x, .int .i64 y]] w fun r w' => r = .returned (.tuple #[]) ∧ w' = w.alloc (.cells #[.int .i64 k, .int .i64 x, .int .i64 y] 58) := by
  go_enter Try.func31, Try.ntmps31
  go_wp2
  exact bodyPost_ret (v := .tuple #[]) (by simp [results, Try.results31, go_sem]) rfl ⟨rfl, rfl⟩

set_option maxRecDepth 100000 in
set_option maxHeartbeats 200000 in
theorem tWriteFull (p : Nat) (ao : Option Addr) (cap n : Nat) (s r k x y : Int) (w : World) (hn : n < 1000000000000)
    (hp : w.heap[p]? = some (.cells #[.slice ao 1000 cap, .int .i64 n, .int .u64 s] 51 (0, 0))) (hr : (n = 0 ∧ r = 14695981039346656037) ∨ (n ≠ 0 ∧ r = s)) :
    Calls Try.prog 31 #[.pointer (some ⟨p, 0, none⟩), .agg #[.int .i64 k, .int .i64 x, .int .i64 y]] w fun e w' => e = .returned (.tuple #[]) ∧
      w'.heap[p]? = some (.cells #[.slice ao 1000 cap, .int .i64 (n + 1 : Nat), .int .u64 (mixE r (k, x, y))] 51 (0, 0)) ∧ Kept (fun b => b = p) w w' := by
  have hlt := lt_of_block hp
  have c0 : w.cell? ⟨p, 0, none⟩ = some (.slice ao 1000 cap) := by rw [cell_of_row w p 0 _ _ _ hp]; rfl
  have c1 : w.cell? ⟨p, 1, none⟩ = some (.int .i64 n) := by rw [cell_of_row w p 1 _ _ _ hp]; rfl
  have c2 : w.cell? ⟨p, 2, none⟩ = some (.int .u64 s) := by rw [cell_of_row w p 2 _ _ _ hp]; rfl
  have ne2 := World.new_ne w _ c2
  have f : ∀ j, w.frozen? ⟨p, j, none⟩ = false := fun j => frozen_of_row w p j _ _ hp
  go_enter Try.func31, Try.ntmps31
  go_wp2_with fail
  go_region_held3 (fun w' => w'.cell? ⟨w.heap.size, 0, none⟩ = some (.int .i64 k) ∧ w'.cell? ⟨w.heap.size, 1, none⟩ = some (.int .i64 x) ∧ w'.cell? ⟨w.heap.size, 2, none⟩ = some (.int .i64 y))
    (((try dsimp only); (repeat' apply And.intro) <;> first | (go_keep; done) | exact (box_cell w _ _ _ _ (by simp) _).trans rfl))
    (first
      | (go_at_call 39; refine (tMix r (k, x, y) _ _ ?_).mono ?_; (first | exact heapAt_drew (heap_alloc2_new _ _ _) | exact heap_alloc2_new _ _ _ | exact Go.heap_alloc_new _ _ | (simp; done)); rintro e w' ⟨rfl, rfl⟩)
      | (go_at_call 33; refine (tSumAt p (.slice ao 1000 cap) n s r _ ?_ hr).mono ?_; (first | exact heapAt_drew (heapAt_alloc hp) | exact heapAt_drew (heapAt_alloc (heapAt_alloc hp)) | exact heapAt_alloc (heapAt_drew (heapAt_alloc hp))); rintro e w' ⟨rfl, rfl⟩))
  all_goals
    go_wp2
    go_end0
    refine ⟨rfl, ?_, ?_⟩
    · rw [Int.natCast_add]
      exact heapAt_drew (heapAt_alloc (heapAt_alloc (set21 hp _ _)))
    · exact (((((Kept.refl (fun b => b = p) w).setCell ⟨p, 2, none⟩ (fun _ => rfl) _).setCell ⟨p, 1, none⟩ (fun _ => rfl) _).alloc _).alloc _).drew

end Go.Proofs.Ytnjmckfkfkalgab
