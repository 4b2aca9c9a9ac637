/- Package power: a number to a power, by windows (raised): what is asked of a round. -/
import Derived.Test.YtoieghgaahfciaaGreatPowB
import Derived.Test.YtoieghgaahfciaaGreatWin1
import Derived.Test.YtoieghgaahfciaaGreatLimP
namespace Go.Proofs.YtoieghgaahfciaaGreat
open Go.RowKit Go.Shelf

theorem foot_cells {w : World} {o : Tr} (ht : TrIn w o) {b : Nat} (hb : trFoot o b) : ∃ c ty f, w.heap[b]? = some (.cells c ty f) := by
  cases o with
  | none => exact hb.elim
  | some x =>
    obtain ⟨p, g, l⟩ := x
    obtain ⟨⟨u, s, hp, hg, hr, _⟩, _⟩ := ht
    rcases hb with rfl | hb
    · exact ⟨_, _, _, hp⟩
    · rcases hr.2 with ⟨rfl, _⟩ | ⟨g2, cap2, cur2, rfl, _, hgg2, _⟩
      · rw [← hg] at hb
        cases hb
      · rw [← hg] at hb
        have e : g2 = b := by simpa [Value.ownBlock] using hb
        subst e
        exact ⟨_, _, _, hgg2⟩

/-- What stands in a round that began in W with the trace o1: the variable at bP holds qv, which is P in Montgomery's form; the events since W0 are m. -/
structure RSt (W0 W w : World) (o o1 oc : Tr) (bP n V P : Nat) (qv : Value) (m : List Ev) : Prop where
  box : Box w bP qv 23
  num : MonAt w qv n V P
  did : Did W0 o m w oc
  kept : Kept (fun b => b = bP ∨ trFoot o1 b) W w
  foot : ∀ b, b < W.heap.size → trFoot oc b → trFoot o1 b

theorem RSt.step {W0 W w w' : World} {o o1 oc od : Tr} {bP n V P : Nat} {qv : Value} {m mm : List Ev} (h : RSt W0 W w o o1 oc bP n V P qv m) (ht : TrIn w oc) (d : Did w oc mm w' od) : RSt W0 W w' o o1 od bP n V P qv (m ++ mm) :=
  ⟨h.box.did d ht (by decide) (by decide), h.num.did d ht, h.did.trans d, h.kept.next d.kept (fun x hx f => .inr (h.foot x hx f)), fun b hb f => h.foot b hb (d.foot (Nat.lt_of_lt_of_le hb h.kept.size) f)⟩

theorem RSt.put {W0 W w : World} {o o1 oc : Tr} {bP n V P Q : Nat} {qv zv : Value} {m : List Ev} (h : RSt W0 W w o o1 oc bP n V P qv m) (ht : TrIn w oc) (hz : MonAt w zv n V Q) (hb : W0.heap.size ≤ bP) : RSt W0 W (w.setCell ⟨bP, 0, none⟩ zv) o o1 oc bP n V Q zv m := by
  have kb := kept_box w bP zv
  have hne : ∀ b, zv.ownBlock = some b → ¬ b = bP := fun b e f => by
    subst f
    obtain ⟨cs, fr, hg⟩ := hz.2 b e
    have hbx : w.heap[b]? = _ := h.box
    rw [hbx] at hg
    simp only [Option.some.injEq, Obj.cells.injEq] at hg
    exact absurd hg.2.1 (by decide)
  exact ⟨h.box.set zv, hz.kept kb hne, h.did.wroteNew kb hb (h.box.apart ht (by decide) (by decide)), h.kept.next kb (fun x _ e => .inl e), h.foot⟩

theorem RSt.drew {W0 W w : World} {o o1 oc : Tr} {bP n V P : Nat} {qv : Value} {m : List Ev} (h : RSt W0 W w o o1 oc bP n V P qv m) : RSt W0 W w.drew o o1 oc bP n V P qv m :=
  ⟨h.box, h.num.grew (Kept.refl Nought w).drew, h.did.grew (Kept.refl Nought w).drew, h.kept.drew, h.foot⟩

/-- What a pick out of a table, a window write down. -/
def pickEv8 (n : Nat) : List Ev := List.replicate 16 (1, (n : Int), 0)

def winEv8 (n : Nat) : List Ev := (List.replicate 4 (mulEv8 n)).flatten ++ (pickEv8 n ++ mulEv8 n)

theorem winEv8_len {n : Nat} (h : n ≤ 130) : (winEv8 n).length ≤ 11000 := by
  obtain ⟨h1, _, _⟩ := ev8_len h
  have h2 := flat_len h1 4
  unfold winEv8 pickEv8
  rw [List.length_append, List.length_append, List.length_replicate]
  omega

theorem maxOf_const (n : Nat) : ∀ k, maxOf (fun _ => n) (k + 1) = n
  | 0 => by simp [maxOf]
  | k + 1 => by
    have := maxOf_const n k
    rw [maxOf, this]
    simp

/-- A power is picked out of the table. -/
theorem pick8 (o : Tr) (g c n V X i : Nat) (A : Nat → Option Addr) (C : Nat → Nat) (w0 w : World) (xv : Value) (ht : TrRoom w o 2000) (hV : 0 < V) (hVn : V < 18446744073709551616 ^ n) (hn : n ≤ 130) (hT : Tab8 w0 w xv (.slice (some ⟨g, 0, none⟩) 16 c) n 16 A C V X) (hi : i < 16) :
    Calls Tryz.prog 58 #[trPtr o, .slice (some ⟨g, 0, none⟩) 16 c, .int .u64 (i : Nat)] w fun e w' => ∃ zo zc, e = .returned (.slice zo n zc) ∧ MonAt w' (.slice zo n zc) n V (X ^ i) ∧ Fresh w (.slice zo n zc) ∧ ∃ o', Did w o (pickEv8 n) w' o' := by
  have hmx : maxOf (fun _ => n) 16 = n := maxOf_const n 15
  refine (lPick o (some ⟨g, 0, none⟩) 16 c A (fun _ => n) C (fun j => digs 18446744073709551616 (mon n V (X ^ j)) n) i (by omega) w (ht.less (by omega)) (fun j hj => ⟨g, 0, rfl, by rw [Nat.zero_add]; exact hT.at hj⟩) (fun _ a e => by cases e; exact ownN_apart hT.1 ht.1 g rfl) (fun p hp => (hT.2 p hp).1.2.rowT (hT.2 p hp).1.1 ht.1) (fun p hp => digs_digs (by omega) _ _) (fun _ _ => by omega) (by omega)).mono ?_
  rintro e w' ⟨v', rfl, ho, o', d⟩
  rw [hmx] at ho d
  have hp : pickN (fun p => val 18446744073709551616 (digs 18446744073709551616 (mon n V (X ^ p)) n)) i 16 = mon n V (X ^ i) := by
    unfold pickN
    rw [if_pos hi]
    exact mon_val hV hVn
  rw [hp] at ho
  have hA : MonAt w' v' n V (X ^ i) := ⟨own_row' ho (digs_length _ _ _), U64s.own ho⟩
  obtain ⟨zo, zc, rfl⟩ := hA.shape
  exact ⟨zo, zc, rfl, hA, Fresh.own ho (Nat.le_refl _), o', d⟩

end Go.Proofs.YtoieghgaahfciaaGreat
