/- Package mont: asked. -/
import Derived.Test.YtpgccioblgcjaaaMonN
namespace Go.Proofs.Ytpgccioblgcjaaa
open Go.RowKit

/-- What asked answers beside the error. -/
def Answered (w : World) (o : Tr) (n E cnt : Nat) (dE : List Ev) (G : Nat → Prop) (w' : World) (v' : Value) : Prop :=
  (∃ Y, Row .u64 w' v' (if E = 0 then digs 18446744073709551616 Y n else []) ∧ (E = 0 → G Y)) ∧ Fresh w v' ∧ ∃ o', Did w o (if n ≤ 130 then List.replicate cnt (1, (n : Int), 0) ++ dE else []) w' o'

set_option maxRecDepth 20000 in
set_option maxHeartbeats 4000000 in
/-- asked. -/
theorem mAsked (o : Tr) (ao bo lo : Option Addr) (n l K mcap rcap cnt ccap f : Nat) (fcap : Array Value) (A : Nat → Option Addr) (N C : Nat → Nat) (xss : Nat → List Nat) (ms rs : List Nat) (E rm : Nat) (dE : List Ev) (G : Nat → Prop) (w : World) (hrm : dE.length ≤ rm)
    (ht : TrRoom w o (cnt + rm)) (hm : RowT w o (.slice ao n mcap) ms) (hr : RowT w o (.slice bo l rcap) rs) (hmd : Digs 18446744073709551616 ms) (hrd : Digs 18446744073709551616 rs) (hK : K < 18446744073709551616) (hnb : n ≤ 1000000) (hcnt : cnt ≤ 1000)
    (hs : ∀ W m o', Did w o m W o' → Slots W lo cnt A N C) (hrow : ∀ i, i < cnt → RowT w o (.slice (A i) (N i) (C i)) (xss i)) (hdig : ∀ i, i < cnt → Digs 18446744073709551616 (xss i))
    (hf : ∀ args w, (callFunc f args).run Try.prog w = .ok (.enter f args) w)
    (hdo : n ≤ 130 → ∀ W m o', Did w o m W o' → TrRoom W o' rm → Calls Try.prog f (#[.int .i64 (n : Int)] ++ fcap) W fun e w' => ∃ v', e = .returned v' ∧ Done W o' dE n (fun Y => okMod ms K rs → AllIn cnt n (val 18446744073709551616 ms) N xss → G Y) w' v')
    (hE : E = 0 ↔ okMod ms K rs ∧ AllIn cnt n (val 18446744073709551616 ms) N xss) (hE1 : E ≤ 1) :
    Calls Try.prog 48 #[trPtr o, .agg #[.slice ao n mcap, .int .u64 (K : Nat), .slice bo l rcap], .func (.func f) #[] fcap, .slice lo cnt ccap] w fun e w' => ∃ v', e = .returned (.tuple #[v', .int .i64 (E : Int)]) ∧ Answered w o n E cnt dE G w' v' := by
  have hmf : ∀ (fn : Fn) (first cap : Array Value) (w : World), (Instr.makeFunc fn first cap).run Try.prog w = .ok (.func fn first cap) w := fun _ _ _ _ => rfl
  have he : ∀ args w, (callFunc 74 args).run Try.prog w = .ok (.enter 74 args) w := fun _ _ => by simp [go_sem]
  obtain ⟨po, hpo⟩ := trPtr_shape o
  obtain ⟨W, hW⟩ : ∃ W, W = ((((w.alloc (.cells #[.pointer po] 54)).alloc (.cells #[.slice ao n mcap, .int .u64 (K : Nat), .slice bo l rcap] 28)).alloc (.cells #[.func (.func f) #[] fcap] 77)).alloc (.cells #[.slice lo cnt ccap] 59)).alloc (.cells #[.slice none 0 0] 23) := ⟨_, rfl⟩
  have k0 : Kept Nought w W := by rw [hW]; exact (((((Kept.refl Nought w).alloc _).alloc _).alloc _).alloc _).alloc _
  have hsz : W.heap.size = w.heap.size + 1 + 1 + 1 + 1 + 1 := by rw [hW]; simp
  have hT0 : Box W w.heap.size (.pointer po) 54 := by rw [hW]; exact ((((Box.new w _ _).alloc _).alloc _).alloc _).alloc _
  have hM0 : W.heap[w.heap.size + 1]? = some (.cells #[.slice ao n mcap, .int .u64 (K : Nat), .slice bo l rcap] 28 (0, 0)) := by
    rw [hW]
    refine heapAt_alloc (heapAt_alloc (heapAt_alloc ?_))
    have := heap_alloc_new (w.alloc (.cells #[.pointer po] 54)) (.cells #[.slice ao n mcap, .int .u64 (K : Nat), .slice bo l rcap] 28)
    rwa [show (w.alloc (.cells #[.pointer po] 54)).heap.size = w.heap.size + 1 by simp] at this
  have hF0 : Box W (w.heap.size + 1 + 1) (.func (.func f) #[] fcap) 77 := by
    rw [hW]
    refine Box.alloc (Box.alloc ?_ _) _
    have := Box.new ((w.alloc (.cells #[.pointer po] 54)).alloc (.cells #[.slice ao n mcap, .int .u64 (K : Nat), .slice bo l rcap] 28)) (.func (.func f) #[] fcap) 77
    rwa [show ((w.alloc (.cells #[.pointer po] 54)).alloc (.cells #[.slice ao n mcap, .int .u64 (K : Nat), .slice bo l rcap] 28)).heap.size = w.heap.size + 1 + 1 by simp] at this
  have hL0 : Box W (w.heap.size + 1 + 1 + 1) (.slice lo cnt ccap) 59 := by
    rw [hW]
    refine Box.alloc ?_ _
    have := Box.new (((w.alloc (.cells #[.pointer po] 54)).alloc (.cells #[.slice ao n mcap, .int .u64 (K : Nat), .slice bo l rcap] 28)).alloc (.cells #[.func (.func f) #[] fcap] 77)) (.slice lo cnt ccap) 59
    rwa [show (((w.alloc (.cells #[.pointer po] 54)).alloc (.cells #[.slice ao n mcap, .int .u64 (K : Nat), .slice bo l rcap] 28)).alloc (.cells #[.func (.func f) #[] fcap] 77)).heap.size = w.heap.size + 1 + 1 + 1 by simp] at this
  have hO0 : Box W (w.heap.size + 1 + 1 + 1 + 1) (.slice none 0 0) 23 := by
    rw [hW]
    have := Box.new ((((w.alloc (.cells #[.pointer po] 54)).alloc (.cells #[.slice ao n mcap, .int .u64 (K : Nat), .slice bo l rcap] 28)).alloc (.cells #[.func (.func f) #[] fcap] 77)).alloc (.cells #[.slice lo cnt ccap] 59)) (.slice none 0 0) 23
    rwa [show ((((w.alloc (.cells #[.pointer po] 54)).alloc (.cells #[.slice ao n mcap, .int .u64 (K : Nat), .slice bo l rcap] 28)).alloc (.cells #[.func (.func f) #[] fcap] 77)).alloc (.cells #[.slice lo cnt ccap] 59)).heap.size = w.heap.size + 1 + 1 + 1 + 1 by simp] at this
  have k1 := k0.alloc (.cells #[.int .i64 0] 29)
  have xe := Box.new W (.int .i64 0) 29
  have h1 := mAsked1 o ao bo lo n l K mcap rcap cnt ccap f fcap A N C xss ms rs (w.heap.size + 1) (w.heap.size + 1 + 1 + 1) w.heap.size (w.heap.size + 1 + 1) (w.heap.size + 1 + 1 + 1 + 1) E rm dE G _ (ht.grew k1) (hm.grew k1) (hr.grew k1) hmd hrd hK hnb hcnt (fun W' m o' d => hs W' m o' (Did.after k1 d)) (fun i hi => (hrow i hi).grew k1) hdig (heapAt_alloc hM0) (hL0.alloc _) (by rw [hpo]; exact hT0.alloc _) (hF0.alloc _) (hO0.alloc (.cells #[.int .i64 0] 29)) hf (fun hn W' m o' d => hdo hn W' m o' (Did.after k1 d)) hE
  have hszE : (W.alloc (.cells #[.int .i64 0] 29)).heap.size = W.heap.size + 1 := by simp
  have hAt := mAttempt 74 #[.pointer (some ⟨w.heap.size + 1, 0, none⟩), .pointer (some ⟨w.heap.size + 1 + 1 + 1, 0, none⟩), .pointer (some ⟨w.heap.size, 0, none⟩), .pointer (some ⟨w.heap.size + 1 + 1, 0, none⟩), .pointer (some ⟨w.heap.size + 1 + 1 + 1 + 1, 0, none⟩)] W
    (fun c W' => c = (E : Int) ∧ ∃ (Y : Nat) (v' : Value) (o1 : Tr), Row .u64 W' v' (if E = 0 then digs 18446744073709551616 Y n else []) ∧ (E = 0 → G Y) ∧ (∀ x, v'.ownBlock = some x → W.heap.size + 1 ≤ x) ∧ Did w o (if n ≤ 130 then List.replicate cnt (1, (n : Int), 0) ++ dE else []) W' o1 ∧ TrIn W' o1 ∧ Box W' (w.heap.size + 1 + 1 + 1 + 1) v' 23) he (h1.mono (by
    have htE : TrIn (W.alloc (.cells #[.int .i64 0] 29)) o := (ht.grew k1).1
    rintro e w' (⟨hn, Y, v', w1, o1, hR, hF, hG, d, hcase⟩ | ⟨hn, h2, rfl, rfl⟩)
    · have hxE := xe.did d htE (by decide) (by decide)
      have hxO := (hO0.alloc (.cells #[.int .i64 0] 29)).did d htE (by decide) (by decide)
      have ti1 : TrIn w1 o1 := (d.room (k := 0) ((ht.grew k1).less (by rw [List.length_append, List.length_replicate]; omega))).1
      have hF' : ∀ x, v'.ownBlock = some x → W.heap.size + 1 ≤ x := fun x hx => by have := hF x hx; omega
      rcases hcase with ⟨h2, rfl, rfl⟩ | ⟨h2, rfl, rfl⟩
      · have kb := kept_box w1 (w.heap.size + 1 + 1 + 1 + 1) v'
        have hap := hxO.apart ti1 (by decide) (by decide)
        have d2 := (Did.after k1 d).wroteNew kb (by omega) hap
        refine ⟨hxE.kept kb (by omega), .inl ⟨rfl, by rw [h2]; rfl, Y, v', o1, ?_, hG, hF', ?_, ?_, hxO.set v'⟩⟩
        · rw [if_pos h2]
          exact hR.kept kb (fun x hx e => by have := hF' x hx; omega)
        · rw [if_pos hn]
          exact d2
        · exact (d2.room (k := 0) (ht.less (by rw [List.length_append, List.length_replicate]; omega))).1
      · refine ⟨hxE, .inr ⟨1, rfl, by omega, Y, .slice none 0 0, o1, ?_, hG, (fun x hx => by cases hx), ?_, ti1, hxO⟩⟩
        · rw [if_neg h2]
          exact Row.nil _ _
        · rw [if_pos hn]
          exact Did.after k1 d
    · refine ⟨xe, .inr ⟨1, rfl, by omega, 0, .slice none 0 0, o, ?_, (fun h => absurd h h2), (fun x hx => by cases hx), ?_, htE, hO0.alloc _⟩⟩
      · rw [if_neg h2]
        exact Row.nil _ _
      · rw [if_neg (by omega)]
        exact Did.of_kept k1 ht.1))
  have HW := toHid hW
  have HSZ := toHid hsz
  have HT := toHid ht
  rw [hpo]
  clear h1 hm hr hmd hrd hK hnb hcnt hs hrow hdig hdo hE hE1 hW k0 k1 hM0 hO0 hL0 hF0 hT0 xe he hsz hszE ht hpo hf
  go_enter Try.func48, Try.ntmps48
  go_wp2_with (rw [← HW.out])
  refine hAt.mono ?_
  rintro e w' ⟨c, w1, rfl, ⟨⟨rfl, Y, v', o1, hR, hG, hF, d, ti, hO⟩, hbe⟩, rfl⟩
  obtain ⟨xo, xn, xc, rfl, _, _, _, _, _⟩ := hR.open
  have hbe' : Box w1 W.heap.size (.int .i64 0) 29 := hbe
  have k3 := kept_box w1 W.heap.size (.int .i64 (E : Int))
  have hne : w.heap.size + 1 + 1 + 1 + 1 ≠ W.heap.size := by have := HSZ.out; omega
  have hO3 := hO.other ⟨W.heap.size, 0, none⟩ hne (.int .i64 (E : Int))
  have d3 := d.wroteNew k3 (by have := HSZ.out; omega) (hbe'.apart ti (by decide) (by decide))
  have ti3 : TrIn (w1.setCell ⟨W.heap.size, 0, none⟩ (.int .i64 (E : Int))) o1 := (d3.room (k := 0) (HT.out.less (by split <;> simp <;> omega))).1
  have hR3 := hR.kept k3 (fun x hx e => by have := hF x hx; omega)
  generalize w1.setCell ⟨W.heap.size, 0, none⟩ (.int .i64 (E : Int)) = w2 at *
  have c0 := hO3.cell
  have f0 := hO3.free
  have c1 := (hO3.set (.slice xo xn xc)).cell
  have k4 := kept_box w2 (w.heap.size + 1 + 1 + 1 + 1) (.slice xo xn xc)
  have HR := toHid (hR3.kept k4 (fun x hx e => by have := hF x hx; have := HSZ.out; omega))
  have HD := toHid (d3.wroteNew k4 (by omega) (hO3.apart ti3 (by decide) (by decide)))
  have HF : Hid (Fresh w (.slice xo xn xc)) := fun x hx => by have := hF x hx; have := HSZ.out; omega
  have HG := toHid hG
  clear hAt hR hR3 hG hF d d3 ti ti3 hO hO3 hbe hbe' k3 k4
  go_wp2_with fail
  exact bodyPost_ret (v := .tuple #[.slice xo xn xc, .int .i64 (E : Int)]) (by simp [results, Try.results48, go_sem, c1]) rfl ⟨_, rfl, ⟨Y, HR.out, HG.out⟩, HF.out, o1, HD.out⟩

end Go.Proofs.Ytpgccioblgcjaaa
