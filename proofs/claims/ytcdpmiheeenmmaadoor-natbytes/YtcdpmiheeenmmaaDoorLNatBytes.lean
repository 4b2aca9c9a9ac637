/- The law NatBytes, walked: whatever the number and the size. -/
import Derived.Test.YtcdpmiheeenmmaaDoorNatP
import Derived.Laws.BytesArg
namespace Go.Proofs.YtcdpmiheeenmmaaDoor
open Go.RowKit Go.Shelf

/-- The text of a row of bytes. -/
def strN (bs : List Nat) : ByteArray := if bs = [] then ByteArray.empty else strOfNums (bs.map fun b : Nat => (b : Int))

/-- string(b) of a row of bytes. -/
theorem row_string {w : World} {ao : Option Addr} {n cap : Nat} {bs : List Nat} (h : Row .u8 w (.slice ao n cap) bs) :
    ∀ dst, Tryd.prog.underlying dst = some .string → (convert 22 dst (.slice ao n cap)).run Tryd.prog w = .ok (.string (strN bs)) w := by
  obtain ⟨ao', cap', e, c1, c2, c3, h4⟩ := h
  cases e
  cases bs with
  | nil =>
    intro dst hd
    rw [run_convert_bytes_string w 22 dst 5 _ _ cap Tryd.underlying22 Tryd.underlying5 hd]
    cases ao <;> simp [Conv.bytesToString, loadCells, strN]
    all_goals rfl
  | cons x t =>
    obtain ⟨b, off, rfl, _⟩ := h4 0 (by simp)
    have := run_convert_bytes_arg (P := Tryd.prog) w 22 5 Tryd.underlying22 Tryd.underlying5 b off (x :: t).length cap ((x :: t).map fun b : Nat => (b : Int)) (by simp) (fun i hi => by
      obtain ⟨b', off', e, hc⟩ := h4 i hi
      cases e
      rw [hc, List.getD_eq_getElem?_getD, List.getD_eq_getElem?_getD, List.getElem?_map, List.getElem?_eq_getElem hi]
      rfl)
    intro dst hd
    rw [this dst hd]
    simp [strN]

set_option maxRecDepth 20000 in
set_option maxHeartbeats 1000000 in
theorem walkNatBytes (v : Value) (xs : List Nat) (n : Int) (w : World) (h : Row .u64 w v xs) (hd : Digs 18446744073709551616 xs) (hT : Tab w) :
    Calls Tryd.prog 4 #[v, .int .i64 n] w fun e w' => e = .returned (.bool true) ∧ Below w.heap.size w w' := by
  have hA := nAwake w hT
  obtain ⟨ao, L, cap, rfl, hL, _, _, _, _⟩ := h.open
  have hF := fun (W : World) (R : Bool) (hR : R = decide (L ≤ 400)) => nFew W.heap.size 1 (fun _ => ao) (fun _ => L) (fun _ => cap) (W.alloc (.cells #[.slice ao L cap] 25)) (by omega) R (by rw [hR]; exact decide_eq_decide.2 ⟨fun h _ _ => h, fun h => h 0 (by omega)⟩) (fun i hi => by
    obtain rfl : i = 0 := by omega
    exact (Boxed.new W 25 (.slice ao L cap)).cell)
  by_cases h4 : L ≤ 400
  · have hF := fun W => hF W true (decide_eq_true h4).symm
    have hO := fun W (k : Kept Nought w W) => nBytes _ xs n W (h.grew k) hd (by have := hL.out; omega)
    have hP := fun W (k : Kept Nought w W) => rBytes _ xs n W (h.grew k) hd (by have := hL.out; omega)
    clear h
    generalize bytCode (val 18446744073709551616 xs) xs.length n = RC at *
    generalize bytList (val 18446744073709551616 xs) xs.length n = RL at *
    go_enter Tryd.func4, Tryd.ntmps4
    go_wp2_with fail
    refine hA.mono ?_
    rintro e w1 ⟨rfl, k1⟩
    go_wp2_with fail
    refine (hF w1).mono ?_
    rintro e w1' ⟨rfl, rfl⟩
    have k1' := k1.alloc (.cells #[.slice ao L cap] 25)
    generalize w1.alloc (.cells #[.slice ao L cap] 25) = w2 at *
    clear hA hF k1
    go_wp2_with fail
    refine (hO w2 k1').mono ?_
    rintro e w3 ⟨v3, rfl, hr3, k3⟩
    go_wp2_with fail
    refine (hP w3 (k1'.trans k3)).mono ?_
    rintro e w4 ⟨v4, rfl, hr4, k4⟩
    have hr3' := hr3.grew k4
    obtain ⟨a3, n3, c3, rfl, _, _, _, _, _⟩ := hr3'.open
    obtain ⟨a4, n4, c4, rfl, _, _, _, _, _⟩ := hr4.open
    have s3 := row_string hr3' 9 Tryd.underlying9
    have s4 := row_string hr4 9 Tryd.underlying9
    clear hO hP hr3 hr3' hr4
    go_wp2_with fail
    go_ret
    exact ⟨by simp, below_kept ((k1'.trans k3).trans k4) (Nat.le_refl _)⟩
  · have hF := fun W => hF W false (decide_eq_false h4).symm
    clear h
    go_enter Tryd.func4, Tryd.ntmps4
    go_wp2_with fail
    refine hA.mono ?_
    rintro e w1 ⟨rfl, k1⟩
    go_wp2_with fail
    refine (hF w1).mono ?_
    rintro e w1' ⟨rfl, rfl⟩
    go_wp2_with fail
    go_ret
    exact ⟨rfl, below_kept (k1.alloc _) (Nat.le_refl _)⟩

end Go.Proofs.YtcdpmiheeenmmaaDoor
