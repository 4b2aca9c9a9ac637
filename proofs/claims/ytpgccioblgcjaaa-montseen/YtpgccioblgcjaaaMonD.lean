/- Package mont: reduced, times. -/
import Derived.Test.YtpgccioblgcjaaaMonB
import Derived.Test.YtpgccioblgcjaaaMonC
namespace Go.Proofs.Ytpgccioblgcjaaa
open Go.RowKit

theorem own_tail {w : World} {base g N cap n L c : Nat} {zs : List Nat} (h : OwnN .u64 26 w base (.slice (some ⟨g, 0, none⟩) N cap) N zs) (hzl : zs.length = N) (hn : n + L = N) (hc : L ≤ c) (hm : c ≤ maxLen) : Row .u64 w (.slice (some ⟨g, n, none⟩) L c) (zs.drop n) := by
  have hsl : (zs.drop n).length = L := by rw [List.length_drop]; omega
  refine ⟨some ⟨g, n, none⟩, c, by rw [hsl], by omega, hm, (fun e => by cases e), fun i hi => ⟨g, n, rfl, ?_⟩⟩
  rw [hsl] at hi
  rw [World.ownsRow.cellAt h (n + i) (by omega), List.getElem?_map, List.getD_eq_getElem?_getD, List.getElem?_drop, List.getElem?_eq_getElem (by omega)]
  rfl

/-- What reduced and times leave. -/
def Reduced (a : World) (o0 : Tr) (m0 : List Ev) (n K X V : Nat) (w' : World) (v' : Value) : Prop :=
  ∃ (Y : Nat) (o' : Tr), OwnN .u64 26 w' a.heap.size v' n (digs 18446744073709551616 Y n) ∧ ((V * K + 1) % 18446744073709551616 = 0 → 0 < n → X < V * 18446744073709551616 ^ n → Y < V ∧ 18446744073709551616 ^ n * Y % V = X % V) ∧ Did a o0 (m0 ++ List.replicate (n + 2) (1, (n : Int), 0)) w' o'

/-- The numbers behind it. -/
theorem reduced_num {n K X V Q c : Nat} {zs : List Nat} (hzd : Digs 18446744073709551616 zs) (hzl : zs.length = n + n) (hc : c ≤ 1) (hV : V < 18446744073709551616 ^ n) (he : val 18446744073709551616 zs + 18446744073709551616 ^ (n + n) * c = X + V * Q) (hQ : Q < 18446744073709551616 ^ n) (hlow : (V * K + 1) % 18446744073709551616 = 0 → 0 < n → val 18446744073709551616 zs % 18446744073709551616 ^ n = 0) (hg : (V * K + 1) % 18446744073709551616 = 0) (hn : 0 < n) (hX : X < V * 18446744073709551616 ^ n) :
    lesY (val 18446744073709551616 (zs.drop n)) V c n < V ∧ 18446744073709551616 ^ n * lesY (val 18446744073709551616 (zs.drop n)) V c n % V = X % V := by
  have hV0 : 0 < V := by
    rcases Nat.eq_zero_or_pos V with h | h
    · rw [h] at hX; omega
    · exact h
  have hd := val_dropB (by omega) hzd n
  have hA : val 18446744073709551616 zs = 18446744073709551616 ^ n * val 18446744073709551616 (zs.drop n) := by
    have e := Nat.mod_add_div (val 18446744073709551616 zs) (18446744073709551616 ^ n)
    rw [hlow hg hn, Nat.zero_add, ← hd] at e
    exact e.symm
  have hT : val 18446744073709551616 (zs.drop n) < 18446744073709551616 ^ n := by
    have := val_lt (by omega) (hzd.drop n)
    rwa [List.length_drop, hzl, Nat.add_sub_cancel] at this
  rw [Nat.pow_add] at he
  obtain ⟨h1, h2⟩ := red_end hA he hQ hX
  rw [les_ok hT hV hc h1]
  refine ⟨Nat.mod_lt _ hV0, ?_⟩
  rw [← h2]
  generalize val 18446744073709551616 (zs.drop n) + 18446744073709551616 ^ n * c = Z
  rw [Nat.mul_mod, Nat.mod_mod, ← Nat.mul_mod]

set_option maxRecDepth 20000 in
set_option maxHeartbeats 2000000 in
/-- reduced. -/
theorem mReduced (a : World) (o0 o : Tr) (m0 : List Ev) (g base N cap n K mcap rl rcap : Nat) (ao bo : Option Addr) (zs ms : List Nat) (w : World) (hD : Did a o0 m0 w o) (ht : TrRoom a o0 (m0.length + (n + 2))) (hg : a.heap.size ≤ g)
    (ho : OwnN .u64 26 w base (.slice (some ⟨g, 0, none⟩) N cap) N zs) (hzl : zs.length = N) (hzd : Digs 18446744073709551616 zs) (hN : N = n + n) (hNb : N ≤ 100000) (hm : RowT a o0 (.slice ao n mcap) ms) (hmd : Digs 18446744073709551616 ms) :
    Calls Try.prog 56 #[trPtr o, .agg #[.slice ao n mcap, .int .u64 (K : Nat), .slice bo rl rcap], .slice (some ⟨g, 0, none⟩) N cap] w fun e w' =>
      ∃ v', e = .returned v' ∧ Reduced a o0 m0 n K (val 18446744073709551616 zs) (val 18446744073709551616 ms) w' v' := by
  obtain ⟨_, _, _, e1, hLx, _, _, _, _⟩ := hm.1.open
  cases e1
  have eM := hLx.out
  have hV : val 18446744073709551616 ms < 18446744073709551616 ^ n := by rw [← eM]; exact val_lt (by omega) hmd
  obtain ⟨_, _, _, e1, _, hNc, hCm, _, _⟩ := (Row.of_own (base := base) (e := 26) (by rw [hzl]; exact ho) : Row .u64 w (.slice (some ⟨g, 0, none⟩) N cap) zs).open
  cases e1
  have k0 : Kept Nought w (w.alloc (.cells #[.slice ao n mcap, .int .u64 (K : Nat), .slice bo rl rcap] 28)) := (Kept.refl Nought w).alloc _
  have hx0 : (w.alloc (.cells #[.slice ao n mcap, .int .u64 (K : Nat), .slice bo rl rcap] 28)).heap[w.heap.size]? = some (.cells #[.slice ao n mcap, .int .u64 (K : Nat), .slice bo rl rcap] 28 (0, 0)) := heap_alloc_new _ _
  have hAR := mAddRows a o0 o m0 g base N cap n n K mcap rl rcap ao bo zs ms _ (hD.grew k0) (ht.less (by omega)) hg (k0.own ho (fun _ _ f => f)) hzl hzd hN hNb hm hmd w.heap.size _ _ hx0 (by decide) (by decide) (by have := owns_lt ho; omega)
  obtain ⟨tp, htp⟩ : ∃ tp, tp = trPtr o := ⟨_, rfl⟩
  rw [← htp] at hAR ⊢
  have HTP := toHid (htp.trans hD.ptr)
  have HM := toHid hm
  have HMD := toHid hmd
  have HT := toHid ht
  have HG := toHid hg
  have HV := toHid hV
  have HN := toHid hN
  have HE := toHid eM
  obtain ⟨X, hX⟩ : ∃ X, X = val 18446744073709551616 zs := ⟨_, rfl⟩
  obtain ⟨V, hVV⟩ : ∃ V, V = val 18446744073709551616 ms := ⟨_, rfl⟩
  rw [← hX, ← hVV] at hAR
  rw [← hX, ← hVV]
  have HVV := toHid hVV
  have hgz : a.heap.size ≤ w.heap.size := hD.size
  clear hm hmd ht hg hV hN eM hLx hX hVV hzd hzl ho k0 hD htp
  obtain ⟨p0, p1, p2⟩ := cells3 hx0
  clear hx0
  go_enter Try.func56, Try.ntmps56
  go_wp2_with fail
  refine hAR.mono ?_
  rintro e w1 ⟨c, rfl, ⟨hc, zs', Q, o1, ho1, hl1, hd1, he1, hQ1, hlow1, D1⟩, hb1⟩
  obtain ⟨q0, q1, q2⟩ := cells3 hb1
  clear hAR p0 p1 p2
  have gn : (n : Int) ≤ (N : Int) := by have := HN.out; omega
  have gn' : n ≤ N := by omega
  have gc : (if cap = n then some (⟨g, 0, none⟩ : Addr) else some ⟨g, n, none⟩) = some ⟨g, n, none⟩ := by
    split
    · have := HN.out
      obtain rfl : n = 0 := by omega
      rfl
    · rfl
  have gl : N - n = n := by have := HN.out; omega
  have hRow : Row .u64 w1 (.slice (some ⟨g, n, none⟩) n (cap - n)) (zs'.drop n) := own_tail ho1 hl1 (by have := HN.out; omega) (by omega) (by unfold maxLen; omega)
  have hdl : (zs'.drop n).length = n := by rw [List.length_drop]; omega
  have hr1 := D1.room (k := 2) (by rw [List.length_append, List.length_replicate]; exact HT.out.less (by omega))
  have hRT : RowT w1 o1 (.slice (some ⟨g, n, none⟩) n (cap - n)) (zs'.drop n) := ⟨hRow, fun _ b hb => by cases hb; exact own_apart ho1 hr1.1 _ rfl⟩
  have hL := fun W (k : Kept Nought w1 W) => mLess o1 ao bo n mcap rl rcap c K _ _ ms W (hr1.grew k) (hRT.grew k) hdl ((HM.out.did D1).grew k) (hd1.drop n) HMD.out hc (by have := HN.out; omega)
  rw [D1.ptr, ← HTP.out, ← HVV.out] at hL
  have HNum : Hid ((V * K + 1) % 18446744073709551616 = 0 → 0 < n → X < V * 18446744073709551616 ^ n → lesY (val 18446744073709551616 (zs'.drop n)) V c n < V ∧ 18446744073709551616 ^ n * lesY (val 18446744073709551616 (zs'.drop n)) V c n % V = X % V) := fun hg hn hX => reduced_num hd1 (hl1.trans HN.out) hc (by rw [HVV.out]; exact HV.out) (by rw [← HN.out]; exact he1) hQ1 hlow1 hg hn hX
  have HD1 := toHid D1
  have HS := toHid hL
  clear he1 hQ1 hlow1 D1 hd1 ho1 hl1 hRow hRT hdl hr1 hL hb1
  generalize lesY (val 18446744073709551616 (zs'.drop n)) V c n = Y at *
  go_wp2_with fail
  go_region_with (go_at_call 78; refine (HS.out _ ((Kept.refl _ _).drew)).mono ?_; rintro e w2 ⟨v2, rfl, ho2, o2, d2⟩)
  all_goals
    go_wp2_with fail
    go_ret
    have d3 := HD1.out.trans (Did.after ((Kept.refl _ _).drew) d2)
    rw [List.append_assoc, show ([(1, (n : Int), 0), (1, (n : Int), 0)] : List Ev) = List.replicate 2 (1, (n : Int), 0) from rfl, List.replicate_append_replicate] at d3
    refine ⟨_, rfl, Y, o2, own_base ho2 (fun b hb => ?_), HNum.out, d3⟩
    have h1 := (ho2.lt b hb).1
    have h2 := HD1.out.size
    have h3 : w1.drew.heap.size = w1.heap.size := rfl
    omega

set_option maxRecDepth 20000 in
set_option maxHeartbeats 2000000 in
/-- times. -/
theorem mTimes (o : Tr) (n K mcap rl rcap xc yc : Nat) (ao bo xo yo : Option Addr) (xs ys ms : List Nat) (w : World) (ht : TrRoom w o 1000) (hx : RowT w o (.slice xo n xc) xs) (hy : RowT w o (.slice yo n yc) ys) (hm : RowT w o (.slice ao n mcap) ms)
    (hdx : Digs 18446744073709551616 xs) (hdy : Digs 18446744073709551616 ys) (hmd : Digs 18446744073709551616 ms) (hn : n ≤ 130) :
    Calls Try.prog 50 #[trPtr o, .agg #[.slice ao n mcap, .int .u64 (K : Nat), .slice bo rl rcap], .slice xo n xc, .slice yo n yc] w fun e w' =>
      ∃ v', e = .returned v' ∧ Reduced w o (List.replicate n (1, (n : Int), 0)) n K (val 18446744073709551616 xs * val 18446744073709551616 ys) (val 18446744073709551616 ms) w' v' := by
  obtain ⟨_, _, _, e1, hLx, _, _, _, _⟩ := hx.1.open
  cases e1
  obtain ⟨_, _, _, e1, hLy, _, _, _, _⟩ := hy.1.open
  cases e1
  have hxy : val 18446744073709551616 xs * val 18446744073709551616 ys < 18446744073709551616 ^ (n + n) := by
    have h1 := val_lt (by omega) hdx
    have h2 := val_lt (by omega) hdy
    rw [hLx.out] at h1
    rw [hLy.out] at h2
    rw [Nat.pow_add]
    exact Nat.mul_lt_mul_of_lt_of_le h1 (Nat.le_of_lt h2) (Nat.pow_pos (by omega))
  obtain ⟨W0, hW0⟩ : ∃ W0, W0 = w.alloc (.cells #[.slice ao n mcap, .int .u64 (K : Nat), .slice bo rl rcap] 28) := ⟨_, rfl⟩
  have k0 : Kept Nought w W0 := by rw [hW0]; exact (Kept.refl Nought w).alloc _
  have hx0 : W0.heap[w.heap.size]? = some (.cells #[.slice ao n mcap, .int .u64 (K : Nat), .slice bo rl rcap] 28 (0, 0)) := by rw [hW0]; exact heap_alloc_new _ _
  obtain ⟨tp, htp⟩ : ∃ tp, tp = trPtr o := ⟨_, rfl⟩
  have hCl : ∀ W m o1, Did W0 o m W o1 → W.cell? ⟨w.heap.size, 0, none⟩ = some (.slice ao n mcap) ∧ W.cell? ⟨w.heap.size, 1, none⟩ = some (.int .u64 (K : Nat)) ∧ W.cell? ⟨w.heap.size, 2, none⟩ = some (.slice bo rl rcap) := fun W m o1 d => cells3 ((d.kept.block _ (lt_of_block hx0) (cells_apart hx0 (ht.grew k0).1 (by decide) (by decide))).trans hx0)
  have hMul : ∀ W, Kept Nought W0 W → Calls Try.prog 76 #[tp, .slice xo n xc, .slice yo n yc] W fun e w' => ∃ g, e = .returned (.slice (some ⟨g, 0, none⟩) (n + n) (n + n)) ∧ W0.heap.size ≤ g ∧ OwnN .u64 26 w' g (.slice (some ⟨g, 0, none⟩) (n + n) (n + n)) (n + n) (digs 18446744073709551616 (val 18446744073709551616 xs * val 18446744073709551616 ys) (n + n)) ∧ ∃ o1, Did W0 o (List.replicate n (1, (n : Int), 0)) w' o1 := fun W k => by
    rw [htp]
    refine (pMulO o xo yo n n xc yc xs ys W ((ht.less (by omega)).grew (k0.trans k)) (hx.grew (k0.trans k)) (hy.grew (k0.trans k)) hdx hdy).mono ?_
    rintro e w' ⟨v', rfl, _, _, h3, o1, d1⟩
    obtain ⟨g, hg, rfl, ho⟩ := h3 ⟨by omega, by omega⟩
    unfold mulEvs at d1
    rw [if_pos ⟨by omega, by omega⟩] at d1
    exact ⟨g, rfl, Nat.le_trans k.size hg, ho, o1, Did.after k d1⟩
  have hRed : ∀ W g o1, W0.heap.size ≤ g → OwnN .u64 26 W g (.slice (some ⟨g, 0, none⟩) (n + n) (n + n)) (n + n) (digs 18446744073709551616 (val 18446744073709551616 xs * val 18446744073709551616 ys) (n + n)) → Did W0 o (List.replicate n (1, (n : Int), 0)) W o1 →
      Calls Try.prog 56 #[tp, .agg #[.slice ao n mcap, .int .u64 (K : Nat), .slice bo rl rcap], .slice (some ⟨g, 0, none⟩) (n + n) (n + n)] W fun e w' => ∃ v', e = .returned v' ∧ Reduced W0 o (List.replicate n (1, (n : Int), 0)) n K (val 18446744073709551616 xs * val 18446744073709551616 ys) (val 18446744073709551616 ms) w' v' := fun W g o1 hg ho d => by
    have := mReduced W0 o o1 _ g g (n + n) (n + n) n K mcap rl rcap ao bo _ ms W d ((ht.less (by rw [List.length_replicate]; omega)).grew k0) hg ho (digs_length _ _ _) (digs_digs (by omega) _ _) rfl (by omega) (hm.grew k0) hmd
    rw [d.ptr, ← htp, val_digs, Nat.mod_eq_of_lt hxy] at this
    exact this
  rw [← htp]
  have HB : Hid (∀ W' v', Reduced W0 o (List.replicate n (1, (n : Int), 0)) n K (val 18446744073709551616 xs * val 18446744073709551616 ys) (val 18446744073709551616 ms) W' v' → Reduced w o (List.replicate n (1, (n : Int), 0)) n K (val 18446744073709551616 xs * val 18446744073709551616 ys) (val 18446744073709551616 ms) W' v') := fun W' v' h => by
    obtain ⟨Y, o', h1, h2, h3⟩ := h
    exact ⟨Y, o', own_base h1 (fun b hb => Nat.le_trans k0.size (h1.lt b hb).1), h2, Did.after k0 h3⟩
  obtain ⟨p0, p1, p2⟩ := cells3 hx0
  have JM := toHid hMul
  have JR := toHid hRed
  have JC := toHid hCl
  generalize val 18446744073709551616 xs * val 18446744073709551616 ys = XY at *
  generalize val 18446744073709551616 ms = V at *
  have JK : Hid (∀ W' v', Reduced W0 o (List.replicate n (1, (n : Int), 0)) n K XY V W' v' → ∃ m o1, Did W0 o m W' o1) := fun W' v' h => by
    obtain ⟨Y, o', _, _, h3⟩ := h
    exact ⟨_, _, h3⟩
  have HW0 := toHid hW0
  clear hW0 hMul hRed hCl hx hy hm ht hdx hdy hmd hLx hLy hxy htp k0 hx0
  go_enter Try.func50, Try.ntmps50
  go_wp2_with fail
  rw [← HW0.out]
  go_region_held3 (fun w' => w'.cell? ⟨w.heap.size, 0, none⟩ = some (.slice ao n mcap) ∧ w'.cell? ⟨w.heap.size, 1, none⟩ = some (.int .u64 (K : Int)) ∧ w'.cell? ⟨w.heap.size, 2, none⟩ = some (.slice bo rl rcap))
    (((try dsimp only); (repeat' apply And.intro) <;> first | (go_keep; done) | assumption))
    (first
    | (go_at_call 76; refine (JM.out _ ?_).mono ?_; (exact (Kept.refl _ _).drew); rintro e w2 ⟨g, rfl, hg, ho2, o2, d2⟩; obtain ⟨q0, q1, q2⟩ := JC.out _ _ _ d2)
    | (go_at_call 56; refine (JR.out _ _ o2 hg ho2 d2).mono ?_; rintro e w3 ⟨v3, rfl, hr3⟩; obtain ⟨m3, o3, d3⟩ := JK.out _ _ hr3; obtain ⟨r0, r1, r2⟩ := JC.out _ _ _ d3))
  all_goals
    go_wp2_with fail
    go_ret
    exact ⟨_, rfl, HB.out _ _ hr3⟩

end Go.Proofs.Ytpgccioblgcjaaa
