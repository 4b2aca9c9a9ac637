/- Package power: asked, whole. -/
import Derived.Test.YtoieghgaahfciaaGreatPowH
namespace Go.Proofs.YtoieghgaahfciaaGreat
open Go.RowKit

set_option maxRecDepth 40000 in
set_option maxHeartbeats 4000000 in
/-- asked, where the answer is a number. -/
theorem wAskedN (o : Tr) (ao bo xo eo : Option Addr) (n l K mcap rcap N1 xc L ecap f : Nat) (fcap : Array Value) (ms rs xs : List Nat) (E rm : Nat) (dE : List Ev) (G : Nat → Nat → Nat → World → Value → Prop) (w : World) (hrm : dE.length ≤ rm)
    (ht : TrRoom w o (4000 + rm)) (hm : RowT w o (.slice ao n mcap) ms) (hr : RowT w o (.slice bo l rcap) rs) (hx : RowT w o (.slice xo N1 xc) xs) (hmd : Digs 18446744073709551616 ms) (hrd : Digs 18446744073709551616 rs) (hdx : Digs 18446744073709551616 xs) (hK : K < 18446744073709551616) (hnb : n ≤ 300)
    (hf : ∀ args w, (callFunc f args).run Tryz.prog w = .ok (.enter f args) w)
    (hdo : ∀ wc, Kept Nought w wc → ∀ W m o' ao' bo' yo' l' K' mc' rc' yc' ms' rs' X, Did w o m W o' → TrRoom W o' rm → Mod8 W o' ao' bo' n l' K' mc' rc' ms' rs' → MonAt W (.slice yo' n yc') n (val 18446744073709551616 ms') X → Fresh wc (.slice yo' n yc') → wc.heap.size ≤ W.heap.size → L ≤ 300 → Calls Tryz.prog f (#[.agg #[.slice ao' n mc', .int .u64 (K' : Nat), .slice bo' l' rc'], .slice yo' n yc'] ++ fcap) W fun e w' => ∃ zo zn zc, e = .returned (.slice zo zn zc) ∧ G wc.heap.size (val 18446744073709551616 ms') X w' (.slice zo zn zc) ∧ ∃ o2, Did W o' dE w' o2)
    (hG : ∀ b0 V X W W' v, G b0 V X W v → Kept (fun b => b < b0) W W' → G b0 V X W' v)
    (hE : E = 0 ↔ okMod ms K rs ∧ (N1 = n ∧ val 18446744073709551616 xs < val 18446744073709551616 ms)) (hE1 : E ≤ 1) :
    Calls Tryz.prog 24 #[trPtr o, .agg #[.slice ao n mcap, .int .u64 (K : Nat), .slice bo l rcap], .slice xo N1 xc, .slice eo L ecap, .func (.func f) #[] fcap] w fun e w' => ∃ (zo : Option Addr) (zn zc c : Nat), e = .returned (.tuple #[.slice zo zn zc, .int .i64 (c : Int)]) ∧
      ((E = 0 ∧ L ≤ 300 ∧ c = 0 ∧ (∃ b0, w.heap.size ≤ b0 ∧ G b0 (val 18446744073709551616 ms) (val 18446744073709551616 xs) w' (.slice zo zn zc)) ∧ ∃ o', Did w o (entEv8 n ++ dE) w' o') ∨
      (((E = 1 ∧ c = 1) ∨ (E = 0 ∧ 300 < L ∧ c = 2)) ∧ Value.slice zo zn zc = .slice none 0 0 ∧ ∃ m o', Did w o m w' o')) := by
  have hmf : ∀ (fn : Fn) (first cap : Array Value) (w : World), (Instr.makeFunc fn first cap).run Tryz.prog w = .ok (.func fn first cap) w := fun _ _ _ _ => rfl
  have he : ∀ args w, (callFunc 49 args).run Tryz.prog w = .ok (.enter 49 args) w := fun _ _ => by simp [go_sem]
  obtain ⟨po, hpo⟩ := trPtr_shape o
  obtain ⟨W, hW⟩ : ∃ W, W = (((((w.alloc (.cells #[.pointer po] 48)).alloc (.cells #[.slice ao n mcap, .int .u64 (K : Nat), .slice bo l rcap] 26)).alloc (.cells #[.slice xo N1 xc] 23)).alloc (.cells #[.slice eo L ecap] 23)).alloc (.cells #[.func (.func f) #[] fcap] 58)).alloc (.cells #[.slice none 0 0] 23) := ⟨_, rfl⟩
  have k0 : Kept Nought w W := by rw [hW]; exact ((((((Kept.refl Nought w).alloc _).alloc _).alloc _).alloc _).alloc _).alloc _
  have hsz : W.heap.size = w.heap.size + 1 + 1 + 1 + 1 + 1 + 1 := by rw [hW]; simp
  have hT0 : Box W w.heap.size (.pointer po) 48 := by rw [hW]; exact (((((Box.new w _ _).alloc _).alloc _).alloc _).alloc _).alloc _
  have hM0 : W.heap[w.heap.size + 1]? = some (.cells #[.slice ao n mcap, .int .u64 (K : Nat), .slice bo l rcap] 26 (0, 0)) := by
    rw [hW]
    refine heapAt_alloc (heapAt_alloc (heapAt_alloc (heapAt_alloc ?_)))
    have := heap_alloc_new (w.alloc (.cells #[.pointer po] 48)) (.cells #[.slice ao n mcap, .int .u64 (K : Nat), .slice bo l rcap] 26)
    rwa [show (w.alloc (.cells #[.pointer po] 48)).heap.size = w.heap.size + 1 by simp] at this
  have hA0 : Box W (w.heap.size + 1 + 1) (.slice xo N1 xc) 23 := by
    rw [hW]
    refine Box.alloc (Box.alloc (Box.alloc ?_ _) _) _
    have := Box.new ((w.alloc (.cells #[.pointer po] 48)).alloc (.cells #[.slice ao n mcap, .int .u64 (K : Nat), .slice bo l rcap] 26)) (.slice xo N1 xc) 23
    rwa [show ((w.alloc (.cells #[.pointer po] 48)).alloc (.cells #[.slice ao n mcap, .int .u64 (K : Nat), .slice bo l rcap] 26)).heap.size = w.heap.size + 1 + 1 by simp] at this
  have hB0 : Box W (w.heap.size + 1 + 1 + 1) (.slice eo L ecap) 23 := by
    rw [hW]
    refine Box.alloc (Box.alloc ?_ _) _
    have := Box.new (((w.alloc (.cells #[.pointer po] 48)).alloc (.cells #[.slice ao n mcap, .int .u64 (K : Nat), .slice bo l rcap] 26)).alloc (.cells #[.slice xo N1 xc] 23)) (.slice eo L ecap) 23
    rwa [show (((w.alloc (.cells #[.pointer po] 48)).alloc (.cells #[.slice ao n mcap, .int .u64 (K : Nat), .slice bo l rcap] 26)).alloc (.cells #[.slice xo N1 xc] 23)).heap.size = w.heap.size + 1 + 1 + 1 by simp] at this
  have hF0 : Box W (w.heap.size + 1 + 1 + 1 + 1) (.func (.func f) #[] fcap) 58 := by
    rw [hW]
    refine Box.alloc ?_ _
    have := Box.new ((((w.alloc (.cells #[.pointer po] 48)).alloc (.cells #[.slice ao n mcap, .int .u64 (K : Nat), .slice bo l rcap] 26)).alloc (.cells #[.slice xo N1 xc] 23)).alloc (.cells #[.slice eo L ecap] 23)) (.func (.func f) #[] fcap) 58
    rwa [show ((((w.alloc (.cells #[.pointer po] 48)).alloc (.cells #[.slice ao n mcap, .int .u64 (K : Nat), .slice bo l rcap] 26)).alloc (.cells #[.slice xo N1 xc] 23)).alloc (.cells #[.slice eo L ecap] 23)).heap.size = w.heap.size + 1 + 1 + 1 + 1 by simp] at this
  have hO0 : Box W (w.heap.size + 1 + 1 + 1 + 1 + 1) (.slice none 0 0) 23 := by
    rw [hW]
    refine ?_
    have := Box.new (((((w.alloc (.cells #[.pointer po] 48)).alloc (.cells #[.slice ao n mcap, .int .u64 (K : Nat), .slice bo l rcap] 26)).alloc (.cells #[.slice xo N1 xc] 23)).alloc (.cells #[.slice eo L ecap] 23)).alloc (.cells #[.func (.func f) #[] fcap] 58)) (.slice none 0 0) 23
    rwa [show (((((w.alloc (.cells #[.pointer po] 48)).alloc (.cells #[.slice ao n mcap, .int .u64 (K : Nat), .slice bo l rcap] 26)).alloc (.cells #[.slice xo N1 xc] 23)).alloc (.cells #[.slice eo L ecap] 23)).alloc (.cells #[.func (.func f) #[] fcap] 58)).heap.size = w.heap.size + 1 + 1 + 1 + 1 + 1 by simp] at this
  have k1 := k0.alloc (.cells #[.int .i64 0] 29)
  have xe := Box.new W (.int .i64 0) 29
  have hszE : (W.alloc (.cells #[.int .i64 0] 29)).heap.size = W.heap.size + 1 := by simp
  have h1 := wAsked1N o ao bo xo eo n l K mcap rcap N1 xc L ecap f fcap ms rs xs w.heap.size (w.heap.size + 1) (w.heap.size + 1 + 1) (w.heap.size + 1 + 1 + 1) (w.heap.size + 1 + 1 + 1 + 1) (w.heap.size + 1 + 1 + 1 + 1 + 1) W.heap.size E rm dE (G (W.heap.size + 1)) w _ hrm ht k1 hm hr hx hmd hrd hdx hK hnb ⟨by omega, by omega⟩ ⟨by omega, by omega, by omega⟩ (by rw [hpo]; exact hT0.alloc _) (heapAt_alloc hM0) (hA0.alloc _) (hB0.alloc _) (hF0.alloc _) (hO0.alloc _) xe hf
    (fun W' m o' ao' bo' yo' l' K' mc' rc' yc' ms' rs' X d r M A F k hL => by
      have := hdo _ k1 W' m o' ao' bo' yo' l' K' mc' rc' yc' ms' rs' X d r M A F k.size hL
      rwa [hszE] at this)
    (fun V X W1 W2 v g k => hG _ V X W1 W2 v g (by rwa [hszE] at k)) hE hE1
  have hAt := wAttempt 49 #[.pointer (some ⟨w.heap.size, 0, none⟩), .pointer (some ⟨w.heap.size + 1, 0, none⟩), .pointer (some ⟨w.heap.size + 1 + 1, 0, none⟩), .pointer (some ⟨w.heap.size + 1 + 1 + 1, 0, none⟩), .pointer (some ⟨w.heap.size + 1 + 1 + 1 + 1, 0, none⟩), .pointer (some ⟨w.heap.size + 1 + 1 + 1 + 1 + 1, 0, none⟩)] W
    (fun c W' => ∃ (zo : Option Addr) (zn zc k : Nat) (m : List Ev) (o' : Tr), c = (k : Int) ∧ Left8 w (W.alloc (.cells #[.int .i64 0] 29)) W' o o' W.heap.size (w.heap.size + 1 + 1 + 1 + 1 + 1) rm (.slice zo zn zc) 23 m ∧ ((E = 0 ∧ L ≤ 300 ∧ k = 0 ∧ m = entEv8 n ++ dE ∧ G (W.heap.size + 1) (val 18446744073709551616 ms) (val 18446744073709551616 xs) W' (.slice zo zn zc)) ∨ (((E = 1 ∧ k = 1) ∨ (E = 0 ∧ 300 < L ∧ k = 2)) ∧ Value.slice zo zn zc = .slice none 0 0))) he (h1.mono (by
    rintro e w' (⟨e0, hL, rfl, zo, zn, zc, o', hl, hg⟩ | ⟨c, hc, rfl, m, o', hl⟩)
    · exact ⟨hl.err, .inl ⟨rfl, zo, zn, zc, 0, _, o', rfl, hl, .inl ⟨e0, hL, rfl, rfl, hg⟩⟩⟩
    · exact ⟨hl.err, .inr ⟨_, rfl, none, 0, 0, c, m, o', rfl, hl, .inr ⟨hc, rfl⟩⟩⟩))
  have HW := toHid hW
  have HSZ := toHid hsz
  have HT := toHid ht
  have HGK := toHid hG
  rw [hpo]
  clear h1 hm hr hx hmd hrd hdx hK hnb hdo hE hE1 hW k0 k1 hM0 hO0 hA0 hB0 hF0 hT0 xe he hsz hszE ht hpo hf hG
  go_enter Tryz.func24, Tryz.ntmps24
  go_wp2_with (rw [← HW.out])
  refine hAt.mono ?_
  rintro e w' ⟨c, w1, rfl, ⟨⟨zo, zn, zc, k, m, o1, rfl, hl, hcase⟩, hbe⟩, rfl⟩
  have hbe' : Box w1 W.heap.size (.int .i64 0) 29 := hbe
  have k3 := kept_box w1 W.heap.size (.int .i64 (k : Int))
  have hne : w.heap.size + 1 + 1 + 1 + 1 + 1 ≠ W.heap.size := by have := HSZ.out; omega
  have ti1 : TrIn w1 o1 := (hl.did.room (k := 0) (HT.out.less (by have := hl.len; omega))).1
  have hO3 := hl.out.other ⟨W.heap.size, 0, none⟩ hne (.int .i64 (k : Int))
  have d3 := hl.did.wroteNew k3 (by have := HSZ.out; omega) (hbe'.apart ti1 (by decide) (by decide))
  have ti3 : TrIn (w1.setCell ⟨W.heap.size, 0, none⟩ (.int .i64 (k : Int))) o1 := (d3.room (k := 0) (HT.out.less (by have := hl.len; omega))).1
  have hcase3 := hcase.imp (fun h => (⟨h.1, h.2.1, h.2.2.1, h.2.2.2.1, HGK.out _ _ _ _ _ _ h.2.2.2.2 (k3.mono (fun b _ e => by omega))⟩ : E = 0 ∧ L ≤ 300 ∧ k = 0 ∧ m = entEv8 n ++ dE ∧ G (W.heap.size + 1) (val 18446744073709551616 ms) (val 18446744073709551616 xs) (w1.setCell ⟨W.heap.size, 0, none⟩ (.int .i64 (k : Int))) (.slice zo zn zc))) id
  generalize w1.setCell ⟨W.heap.size, 0, none⟩ (.int .i64 (k : Int)) = w2 at *
  have c0 := hO3.cell
  have f0 := hO3.free
  have c1 := (hO3.set (.slice zo zn zc)).cell
  have k4 := kept_box w2 (w.heap.size + 1 + 1 + 1 + 1 + 1) (.slice zo zn zc)
  have HD := toHid (d3.wroteNew k4 (by omega) (hO3.apart ti3 (by decide) (by decide)))
  have HC := toHid (hcase3.imp (fun h => (⟨h.1, h.2.1, h.2.2.1, h.2.2.2.1, HGK.out _ _ _ _ _ _ h.2.2.2.2 (k4.mono (fun b _ e => by have := HSZ.out; omega))⟩ : E = 0 ∧ L ≤ 300 ∧ k = 0 ∧ m = entEv8 n ++ dE ∧ G (W.heap.size + 1) (val 18446744073709551616 ms) (val 18446744073709551616 xs) (w2.setCell ⟨w.heap.size + 1 + 1 + 1 + 1 + 1, 0, none⟩ (.slice zo zn zc)) (.slice zo zn zc))) id)
  clear hAt hl hcase hcase3 hbe hbe' k3 d3 ti1 ti3 hO3 k4
  go_wp2_with fail
  refine bodyPost_ret (v := .tuple #[.slice zo zn zc, .int .i64 (k : Int)]) (by simp [results, Tryz.results24, go_sem, c1]) rfl ⟨zo, zn, zc, k, rfl, ?_⟩
  rcases HC.out with ⟨h1, h2, h3, h4, h5⟩ | ⟨h1, h2⟩
  · refine .inl ⟨h1, h2, h3, ⟨_, ?_, h5⟩, o1, ?_⟩
    · have := HSZ.out
      omega
    · rw [← h4]
      exact HD.out
  · exact .inr ⟨h1, h2, m, o1, HD.out⟩

set_option maxRecDepth 40000 in
set_option maxHeartbeats 4000000 in
/-- asked, where the answer is numbers. -/
theorem wAskedL (o : Tr) (ao bo xo eo : Option Addr) (n l K mcap rcap N1 xc L ecap f : Nat) (fcap : Array Value) (ms rs xs : List Nat) (E rm : Nat) (dE : List Ev) (G : Nat → Nat → Nat → World → Value → Prop) (w : World) (hrm : dE.length ≤ rm)
    (ht : TrRoom w o (4000 + rm)) (hm : RowT w o (.slice ao n mcap) ms) (hr : RowT w o (.slice bo l rcap) rs) (hx : RowT w o (.slice xo N1 xc) xs) (hmd : Digs 18446744073709551616 ms) (hrd : Digs 18446744073709551616 rs) (hdx : Digs 18446744073709551616 xs) (hK : K < 18446744073709551616) (hnb : n ≤ 300)
    (hf : ∀ args w, (callFunc f args).run Tryz.prog w = .ok (.enter f args) w)
    (hdo : ∀ wc, Kept Nought w wc → ∀ W m o' ao' bo' yo' l' K' mc' rc' yc' ms' rs' X, Did w o m W o' → TrRoom W o' rm → Mod8 W o' ao' bo' n l' K' mc' rc' ms' rs' → MonAt W (.slice yo' n yc') n (val 18446744073709551616 ms') X → Fresh wc (.slice yo' n yc') → wc.heap.size ≤ W.heap.size → L ≤ 300 → Calls Tryz.prog f (#[.agg #[.slice ao' n mc', .int .u64 (K' : Nat), .slice bo' l' rc'], .slice yo' n yc'] ++ fcap) W fun e w' => ∃ zo zn zc, e = .returned (.slice zo zn zc) ∧ G wc.heap.size (val 18446744073709551616 ms') X w' (.slice zo zn zc) ∧ ∃ o2, Did W o' dE w' o2)
    (hG : ∀ b0 V X W W' v, G b0 V X W v → Kept (fun b => b < b0) W W' → G b0 V X W' v)
    (hE : E = 0 ↔ okMod ms K rs ∧ (N1 = n ∧ val 18446744073709551616 xs < val 18446744073709551616 ms)) (hE1 : E ≤ 1) :
    Calls Tryz.prog 30 #[trPtr o, .agg #[.slice ao n mcap, .int .u64 (K : Nat), .slice bo l rcap], .slice xo N1 xc, .slice eo L ecap, .func (.func f) #[] fcap] w fun e w' => ∃ (zo : Option Addr) (zn zc c : Nat), e = .returned (.tuple #[.slice zo zn zc, .int .i64 (c : Int)]) ∧
      ((E = 0 ∧ L ≤ 300 ∧ c = 0 ∧ (∃ b0, w.heap.size ≤ b0 ∧ G b0 (val 18446744073709551616 ms) (val 18446744073709551616 xs) w' (.slice zo zn zc)) ∧ ∃ o', Did w o (entEv8 n ++ dE) w' o') ∨
      (((E = 1 ∧ c = 1) ∨ (E = 0 ∧ 300 < L ∧ c = 2)) ∧ Value.slice zo zn zc = .slice none 0 0 ∧ ∃ m o', Did w o m w' o')) := by
  have hmf : ∀ (fn : Fn) (first cap : Array Value) (w : World), (Instr.makeFunc fn first cap).run Tryz.prog w = .ok (.func fn first cap) w := fun _ _ _ _ => rfl
  have he : ∀ args w, (callFunc 62 args).run Tryz.prog w = .ok (.enter 62 args) w := fun _ _ => by simp [go_sem]
  obtain ⟨po, hpo⟩ := trPtr_shape o
  obtain ⟨W, hW⟩ : ∃ W, W = (((((w.alloc (.cells #[.pointer po] 48)).alloc (.cells #[.slice ao n mcap, .int .u64 (K : Nat), .slice bo l rcap] 26)).alloc (.cells #[.slice xo N1 xc] 23)).alloc (.cells #[.slice eo L ecap] 23)).alloc (.cells #[.func (.func f) #[] fcap] 62)).alloc (.cells #[.slice none 0 0] 35) := ⟨_, rfl⟩
  have k0 : Kept Nought w W := by rw [hW]; exact ((((((Kept.refl Nought w).alloc _).alloc _).alloc _).alloc _).alloc _).alloc _
  have hsz : W.heap.size = w.heap.size + 1 + 1 + 1 + 1 + 1 + 1 := by rw [hW]; simp
  have hT0 : Box W w.heap.size (.pointer po) 48 := by rw [hW]; exact (((((Box.new w _ _).alloc _).alloc _).alloc _).alloc _).alloc _
  have hM0 : W.heap[w.heap.size + 1]? = some (.cells #[.slice ao n mcap, .int .u64 (K : Nat), .slice bo l rcap] 26 (0, 0)) := by
    rw [hW]
    refine heapAt_alloc (heapAt_alloc (heapAt_alloc (heapAt_alloc ?_)))
    have := heap_alloc_new (w.alloc (.cells #[.pointer po] 48)) (.cells #[.slice ao n mcap, .int .u64 (K : Nat), .slice bo l rcap] 26)
    rwa [show (w.alloc (.cells #[.pointer po] 48)).heap.size = w.heap.size + 1 by simp] at this
  have hA0 : Box W (w.heap.size + 1 + 1) (.slice xo N1 xc) 23 := by
    rw [hW]
    refine Box.alloc (Box.alloc (Box.alloc ?_ _) _) _
    have := Box.new ((w.alloc (.cells #[.pointer po] 48)).alloc (.cells #[.slice ao n mcap, .int .u64 (K : Nat), .slice bo l rcap] 26)) (.slice xo N1 xc) 23
    rwa [show ((w.alloc (.cells #[.pointer po] 48)).alloc (.cells #[.slice ao n mcap, .int .u64 (K : Nat), .slice bo l rcap] 26)).heap.size = w.heap.size + 1 + 1 by simp] at this
  have hB0 : Box W (w.heap.size + 1 + 1 + 1) (.slice eo L ecap) 23 := by
    rw [hW]
    refine Box.alloc (Box.alloc ?_ _) _
    have := Box.new (((w.alloc (.cells #[.pointer po] 48)).alloc (.cells #[.slice ao n mcap, .int .u64 (K : Nat), .slice bo l rcap] 26)).alloc (.cells #[.slice xo N1 xc] 23)) (.slice eo L ecap) 23
    rwa [show (((w.alloc (.cells #[.pointer po] 48)).alloc (.cells #[.slice ao n mcap, .int .u64 (K : Nat), .slice bo l rcap] 26)).alloc (.cells #[.slice xo N1 xc] 23)).heap.size = w.heap.size + 1 + 1 + 1 by simp] at this
  have hF0 : Box W (w.heap.size + 1 + 1 + 1 + 1) (.func (.func f) #[] fcap) 62 := by
    rw [hW]
    refine Box.alloc ?_ _
    have := Box.new ((((w.alloc (.cells #[.pointer po] 48)).alloc (.cells #[.slice ao n mcap, .int .u64 (K : Nat), .slice bo l rcap] 26)).alloc (.cells #[.slice xo N1 xc] 23)).alloc (.cells #[.slice eo L ecap] 23)) (.func (.func f) #[] fcap) 62
    rwa [show ((((w.alloc (.cells #[.pointer po] 48)).alloc (.cells #[.slice ao n mcap, .int .u64 (K : Nat), .slice bo l rcap] 26)).alloc (.cells #[.slice xo N1 xc] 23)).alloc (.cells #[.slice eo L ecap] 23)).heap.size = w.heap.size + 1 + 1 + 1 + 1 by simp] at this
  have hO0 : Box W (w.heap.size + 1 + 1 + 1 + 1 + 1) (.slice none 0 0) 35 := by
    rw [hW]
    refine ?_
    have := Box.new (((((w.alloc (.cells #[.pointer po] 48)).alloc (.cells #[.slice ao n mcap, .int .u64 (K : Nat), .slice bo l rcap] 26)).alloc (.cells #[.slice xo N1 xc] 23)).alloc (.cells #[.slice eo L ecap] 23)).alloc (.cells #[.func (.func f) #[] fcap] 62)) (.slice none 0 0) 35
    rwa [show (((((w.alloc (.cells #[.pointer po] 48)).alloc (.cells #[.slice ao n mcap, .int .u64 (K : Nat), .slice bo l rcap] 26)).alloc (.cells #[.slice xo N1 xc] 23)).alloc (.cells #[.slice eo L ecap] 23)).alloc (.cells #[.func (.func f) #[] fcap] 62)).heap.size = w.heap.size + 1 + 1 + 1 + 1 + 1 by simp] at this
  have k1 := k0.alloc (.cells #[.int .i64 0] 29)
  have xe := Box.new W (.int .i64 0) 29
  have hszE : (W.alloc (.cells #[.int .i64 0] 29)).heap.size = W.heap.size + 1 := by simp
  have h1 := wAsked1L o ao bo xo eo n l K mcap rcap N1 xc L ecap f fcap ms rs xs w.heap.size (w.heap.size + 1) (w.heap.size + 1 + 1) (w.heap.size + 1 + 1 + 1) (w.heap.size + 1 + 1 + 1 + 1) (w.heap.size + 1 + 1 + 1 + 1 + 1) W.heap.size E rm dE (G (W.heap.size + 1)) w _ hrm ht k1 hm hr hx hmd hrd hdx hK hnb ⟨by omega, by omega⟩ ⟨by omega, by omega, by omega⟩ (by rw [hpo]; exact hT0.alloc _) (heapAt_alloc hM0) (hA0.alloc _) (hB0.alloc _) (hF0.alloc _) (hO0.alloc _) xe hf
    (fun W' m o' ao' bo' yo' l' K' mc' rc' yc' ms' rs' X d r M A F k hL => by
      have := hdo _ k1 W' m o' ao' bo' yo' l' K' mc' rc' yc' ms' rs' X d r M A F k.size hL
      rwa [hszE] at this)
    (fun V X W1 W2 v g k => hG _ V X W1 W2 v g (by rwa [hszE] at k)) hE hE1
  have hAt := wAttempt 62 #[.pointer (some ⟨w.heap.size, 0, none⟩), .pointer (some ⟨w.heap.size + 1, 0, none⟩), .pointer (some ⟨w.heap.size + 1 + 1, 0, none⟩), .pointer (some ⟨w.heap.size + 1 + 1 + 1, 0, none⟩), .pointer (some ⟨w.heap.size + 1 + 1 + 1 + 1, 0, none⟩), .pointer (some ⟨w.heap.size + 1 + 1 + 1 + 1 + 1, 0, none⟩)] W
    (fun c W' => ∃ (zo : Option Addr) (zn zc k : Nat) (m : List Ev) (o' : Tr), c = (k : Int) ∧ Left8 w (W.alloc (.cells #[.int .i64 0] 29)) W' o o' W.heap.size (w.heap.size + 1 + 1 + 1 + 1 + 1) rm (.slice zo zn zc) 35 m ∧ ((E = 0 ∧ L ≤ 300 ∧ k = 0 ∧ m = entEv8 n ++ dE ∧ G (W.heap.size + 1) (val 18446744073709551616 ms) (val 18446744073709551616 xs) W' (.slice zo zn zc)) ∨ (((E = 1 ∧ k = 1) ∨ (E = 0 ∧ 300 < L ∧ k = 2)) ∧ Value.slice zo zn zc = .slice none 0 0))) he (h1.mono (by
    rintro e w' (⟨e0, hL, rfl, zo, zn, zc, o', hl, hg⟩ | ⟨c, hc, rfl, m, o', hl⟩)
    · exact ⟨hl.err, .inl ⟨rfl, zo, zn, zc, 0, _, o', rfl, hl, .inl ⟨e0, hL, rfl, rfl, hg⟩⟩⟩
    · exact ⟨hl.err, .inr ⟨_, rfl, none, 0, 0, c, m, o', rfl, hl, .inr ⟨hc, rfl⟩⟩⟩))
  have HW := toHid hW
  have HSZ := toHid hsz
  have HT := toHid ht
  have HGK := toHid hG
  rw [hpo]
  clear h1 hm hr hx hmd hrd hdx hK hnb hdo hE hE1 hW k0 k1 hM0 hO0 hA0 hB0 hF0 hT0 xe he hsz hszE ht hpo hf hG
  go_enter Tryz.func30, Tryz.ntmps30
  go_wp2_with (rw [← HW.out])
  refine hAt.mono ?_
  rintro e w' ⟨c, w1, rfl, ⟨⟨zo, zn, zc, k, m, o1, rfl, hl, hcase⟩, hbe⟩, rfl⟩
  have hbe' : Box w1 W.heap.size (.int .i64 0) 29 := hbe
  have k3 := kept_box w1 W.heap.size (.int .i64 (k : Int))
  have hne : w.heap.size + 1 + 1 + 1 + 1 + 1 ≠ W.heap.size := by have := HSZ.out; omega
  have ti1 : TrIn w1 o1 := (hl.did.room (k := 0) (HT.out.less (by have := hl.len; omega))).1
  have hO3 := hl.out.other ⟨W.heap.size, 0, none⟩ hne (.int .i64 (k : Int))
  have d3 := hl.did.wroteNew k3 (by have := HSZ.out; omega) (hbe'.apart ti1 (by decide) (by decide))
  have ti3 : TrIn (w1.setCell ⟨W.heap.size, 0, none⟩ (.int .i64 (k : Int))) o1 := (d3.room (k := 0) (HT.out.less (by have := hl.len; omega))).1
  have hcase3 := hcase.imp (fun h => (⟨h.1, h.2.1, h.2.2.1, h.2.2.2.1, HGK.out _ _ _ _ _ _ h.2.2.2.2 (k3.mono (fun b _ e => by omega))⟩ : E = 0 ∧ L ≤ 300 ∧ k = 0 ∧ m = entEv8 n ++ dE ∧ G (W.heap.size + 1) (val 18446744073709551616 ms) (val 18446744073709551616 xs) (w1.setCell ⟨W.heap.size, 0, none⟩ (.int .i64 (k : Int))) (.slice zo zn zc))) id
  generalize w1.setCell ⟨W.heap.size, 0, none⟩ (.int .i64 (k : Int)) = w2 at *
  have c0 := hO3.cell
  have f0 := hO3.free
  have c1 := (hO3.set (.slice zo zn zc)).cell
  have k4 := kept_box w2 (w.heap.size + 1 + 1 + 1 + 1 + 1) (.slice zo zn zc)
  have HD := toHid (d3.wroteNew k4 (by omega) (hO3.apart ti3 (by decide) (by decide)))
  have HC := toHid (hcase3.imp (fun h => (⟨h.1, h.2.1, h.2.2.1, h.2.2.2.1, HGK.out _ _ _ _ _ _ h.2.2.2.2 (k4.mono (fun b _ e => by have := HSZ.out; omega))⟩ : E = 0 ∧ L ≤ 300 ∧ k = 0 ∧ m = entEv8 n ++ dE ∧ G (W.heap.size + 1) (val 18446744073709551616 ms) (val 18446744073709551616 xs) (w2.setCell ⟨w.heap.size + 1 + 1 + 1 + 1 + 1, 0, none⟩ (.slice zo zn zc)) (.slice zo zn zc))) id)
  clear hAt hl hcase hcase3 hbe hbe' k3 d3 ti1 ti3 hO3 k4
  go_wp2_with fail
  refine bodyPost_ret (v := .tuple #[.slice zo zn zc, .int .i64 (k : Int)]) (by simp [results, Tryz.results30, go_sem, c1]) rfl ⟨zo, zn, zc, k, rfl, ?_⟩
  rcases HC.out with ⟨h1, h2, h3, h4, h5⟩ | ⟨h1, h2⟩
  · refine .inl ⟨h1, h2, h3, ⟨_, ?_, h5⟩, o1, ?_⟩
    · have := HSZ.out
      omega
    · rw [← h4]
      exact HD.out
  · exact .inr ⟨h1, h2, m, o1, HD.out⟩

end Go.Proofs.YtoieghgaahfciaaGreat
