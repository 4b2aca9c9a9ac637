/- Put together of: Mon2 Inv0. -/
import Derived.Test.YtldbfcifoijliaaGreatDoorPk7
import Derived.Test.YtldbfcifoijliaaGreatDoorPk9
import Derived.Test.YtldbfcifoijliaaGreatDoorPk10
import Derived.Test.YtldbfcifoijliaaGreatDoorPk12
import Derived.Laws.BitsAllLaws

/- Melted of: MonC MonD MonM. -/

/- Package mont: fitted, lessened. -/
namespace Go.Proofs.YtldbfcifoijliaaGreatDoor
open Go.RowKit

theorem fit_digs {xs : List Nat} (hd : Digs 18446744073709551616 xs) (n : Nat) : xs.take n ++ List.replicate (n - (xs.take n).length) 0 = digs 18446744073709551616 (val 18446744073709551616 xs) n := by
  have hl : (xs.take n).length ≤ n := by rw [List.length_take]; omega
  refine digs_val (by omega) ((hd.take n).append (fun d h => by rw [(List.mem_replicate.1 h).2]; omega)) (by simp; omega) ?_
  rw [val_append, val_zeros _ (fun d h => (List.mem_replicate.1 h).2), Nat.mul_zero, Nat.add_zero, val_takeB (by omega) hd]

set_option maxRecDepth 20000 in
set_option maxHeartbeats 2000000 in
/-- fitted. -/
theorem mFit (v : Value) (xs : List Nat) (n : Nat) (w : World) (h : Row .u64 w v xs) (hd : Digs 18446744073709551616 xs) (hn : n ≤ 1000000) :
    Calls Tryz.prog 84 #[v, .int .i64 (n : Nat)] w fun e w' => e = .returned (.slice (some ⟨w.heap.size, 0, none⟩) n n) ∧ OwnN .u64 24 w' w.heap.size (.slice (some ⟨w.heap.size, 0, none⟩) n n) n (digs 18446744073709551616 (val 18446744073709551616 xs) n) ∧ Kept Nought w w' := by
  obtain ⟨i0, hi0, hz0, hz1, hz2⟩ := info_parts Tryz.info24
  obtain ⟨ao, q, cap, rfl, hL, _, _, _, _⟩ := h.open
  have HD := toHid (fit_digs hd n)
  have HS : Hid (∀ W, Kept Nought w W → 0 < ((xs.take n).map fun z : Nat => Value.int .u64 (z : Int)).length → ∃ ad, ao = some ad ∧ ∀ j u, ((xs.take n).map fun z : Nat => Value.int .u64 (z : Int))[j]? = some u → W.cell? (ad.add j) = some u) := fun W hk hp => by
    obtain ⟨ad, e, hs⟩ := h.source hk (by rw [List.length_map, List.length_take] at hp; rw [List.length_map]; omega)
    refine ⟨ad, e, fun j u hj => hs j u ?_⟩
    rw [List.map_take, List.getElem?_take] at hj
    split at hj
    · exact hj
    · cases hj
  have HO := toHid (ints_one .u64 (xs.take n))
  have HLC : Hid (((xs.take n).map fun z : Nat => Value.int .u64 (z : Int)).length = Nat.min q n) := by
    unfold Hid
    rw [List.length_map, List.length_take, hL.out]
    exact Nat.min_comm n q
  obtain ⟨CS, hCS⟩ : ∃ CS, CS = (xs.take n).map (fun z : Nat => Value.int .u64 (z : Int)) := ⟨_, rfl⟩
  rw [← hCS] at HS HO HLC
  have HCS : Hid (CS = (xs.take n).map (fun z : Nat => Value.int .u64 (z : Int))) := hCS
  have hqn : Nat.min q n ≤ n := Nat.min_le_right _ _
  clear hCS h hd
  go_enter Tryz.func84, Tryz.ntmps84
  go_wp2_with (at_make; refine wpList_make_full _ rfl _ _ 23 rfl w.heap.size 24 i0 _ 1 Tryz.underlying23 hi0 hz0 hz1 _ _ _ _ n rfl rfl rfl rfl (by rw [hz2]; omega) (by unfold maxLen; omega) (Nat.le_refl _) ?_; intro w1 ho1 hg1; rw [zeros_map] at ho1; have k1 := grown_kept hg1; obtain ⟨w2, hrun, hb2, k2⟩ := run_copy_part (P := Tryz.prog) 23 23 3 24 w.heap.size 0 n n (some ⟨w.heap.size, 0, none⟩) ao q cap _ 24 CS Tryz.underlying23 (by rw [hi0]; simp [hz1]) (own_block ho1) HLC.out (fun hp => ⟨rfl, HS.out _ k1 hp⟩) (by have := HLC.out; simp; omega) HO.out; have HB2 : Hid _ := hb2; clear hb2 ho1 hg1)
  go_ret
  have hfin := HB2.out
  rw [HCS.out, splice_fill] at hfin
  rw [HD.out] at hfin
  have kk := kept_new k1 k2 (Nat.le_refl _)
  exact ⟨rfl, own_of_block hfin (by rw [digs_length]) (by unfold maxLen; omega) (Nat.le_refl _), kk⟩

/-- Whether lessened takes the modulus away. -/
def lesT (X V c : Nat) : Nat := if c = 1 ∨ V ≤ X then 1 else 0

/-- What lessened answers. -/
def lesY (X V c n : Nat) : Nat := selN (lesT X V c) (subN X V n) X

theorem les_bits (X V c : Nat) (hc : c ≤ 1) : bits .or .u64 (c : Int) (bits .xor .u64 ((oneN (decide (X < V)) : Nat) : Int) 1) = ((lesT X V c : Nat) : Int) := by
  unfold lesT oneN
  have h01 : c = 0 ∨ c = 1 := by omega
  by_cases h2 : X < V
  · rcases h01 with h3 | h3
    · rw [h3, decide_eq_true h2, if_pos rfl, if_neg (by omega)]
      decide
    · rw [h3, decide_eq_true h2, if_pos rfl, if_pos (.inl rfl)]
      decide
  · rcases h01 with h3 | h3
    · rw [h3, decide_eq_false h2, if_neg (by decide), if_pos (.inr (by omega))]
      decide
    · rw [h3, decide_eq_false h2, if_neg (by decide), if_pos (.inl rfl)]
      decide

theorem lesT_le (X V c : Nat) : lesT X V c ≤ 1 := by unfold lesT; split <;> omega

/-- What lessened is for. -/
theorem les_ok {X V c n : Nat} (hX : X < 18446744073709551616 ^ n) (hV : V < 18446744073709551616 ^ n) (hc : c ≤ 1) (h : X + 18446744073709551616 ^ n * c < 2 * V) : lesY X V c n = (X + 18446744073709551616 ^ n * c) % V := by
  rw [← les_mod h]
  unfold lesY
  have h01 : c = 0 ∨ c = 1 := by omega
  have s1 : ∀ A B, selN 1 A B = A := fun A B => rfl
  have s0 : ∀ A B, selN 0 A B = B := fun A B => rfl
  rcases h01 with rfl | rfl
  · rw [Nat.mul_zero, Nat.add_zero]
    by_cases h1 : V ≤ X
    · rw [show lesT X V 0 = 1 from if_pos (Or.inr h1), s1, if_pos h1, subN, if_neg (by omega)]
    · rw [show lesT X V 0 = 0 from if_neg (by omega), s0, if_neg h1]
  · rw [Nat.mul_one] at h ⊢
    rw [show lesT X V 1 = 1 from if_pos (Or.inl rfl), s1, subN, if_pos (show X < V by omega), if_pos (by omega), B64]

set_option maxRecDepth 20000 in
set_option maxHeartbeats 2000000 in
/-- lessened. -/
theorem mLess (o : Tr) (ao bo : Option Addr) (n mcap rl rcap c : Nat) (K : Int) (v : Value) (xs ms : List Nat) (w : World) (ht : TrRoom w o 2) (hx : RowT w o v xs) (hxl : xs.length = n) (hm : RowT w o (.slice ao n mcap) ms) (hdx : Digs 18446744073709551616 xs) (hdm : Digs 18446744073709551616 ms) (hc : c ≤ 1) (hn : n ≤ 100000) :
    Calls Tryz.prog 103 #[trPtr o, .agg #[.slice ao n mcap, .int .u64 K, .slice bo rl rcap], v, .int .u64 (c : Nat)] w fun e w' => ∃ v', e = .returned v' ∧
      OwnN .u64 24 w' w.heap.size v' n (digs 18446744073709551616 (lesY (val 18446744073709551616 xs) (val 18446744073709551616 ms) c n) n) ∧ ∃ o', Did w o [(1, (n : Nat), 0), (1, (n : Nat), 0)] w' o' := by
  obtain ⟨_, _, _, e1, hLx, _, _, _, _⟩ := hm.1.open
  cases e1
  have eM := hLx.out
  obtain ⟨xo, xn, xc, rfl, hLv, _, _, _, _⟩ := hx.1.open
  obtain rfl : xn = n := hLv.out.symm.trans hxl
  have hlb := les_bits (val 18446744073709551616 xs) (val 18446744073709551616 ms) c hc
  obtain ⟨T, hT⟩ : ∃ T, T = lesT (val 18446744073709551616 xs) (val 18446744073709551616 ms) c := ⟨_, rfl⟩
  have hTle : T ≤ 1 := by rw [hT]; exact lesT_le _ _ _
  have k0 : Kept Nought w (w.alloc (.cells #[.slice ao xn mcap, .int .u64 K, .slice bo rl rcap] 52)) := (Kept.refl Nought w).alloc _
  have hx0 : (w.alloc (.cells #[.slice ao xn mcap, .int .u64 K, .slice bo rl rcap] 52)).heap[w.heap.size]? = some (.cells #[.slice ao xn mcap, .int .u64 K, .slice bo rl rcap] 52 (0, 0)) := heap_alloc_new _ _
  have hLs := lLess o _ _ xs ms _ ((ht.less (by omega)).grew k0) (hx.grew k0) (hm.grew k0) hdx hdm (by rw [hxl]; omega) (by rw [eM]; omega)
  rw [hxl, eM, Nat.max_self] at hLs
  have hSb := fun (W : World) (o1 : Tr) (m1 : List Ev) (d : Did w o m1 W o1) (hm1 : m1.length = 1) => lSubIf o1 T (by omega) _ _ xs ms W (d.room (k := 1) (by rw [hm1]; exact ht)) (hx.did d) (hm.did d) hdx hdm (by rw [hxl]; omega) (by rw [eM]; omega)
  have hSb' : ∀ (W : World) (o1 : Tr) (m1 : List Ev) (d : Did w o m1 W o1) (hm1 : m1.length = 1), Calls Tryz.prog 120 #[trPtr o, .int .u64 (T : Nat), .slice xo xn xc, .slice ao xn mcap] W fun e w' => ∃ v' c', e = .returned (.tuple #[v', .int .u64 (c' : Int)]) ∧
      OwnN .u64 24 w' W.heap.size v' xn (digs 18446744073709551616 (lesY (val 18446744073709551616 xs) (val 18446744073709551616 ms) c xn) xn) ∧ ∃ o', Did W o1 [(1, (xn : Nat), 0)] w' o' := fun W o1 m1 d hm1 => by
    have := hSb W o1 m1 d hm1
    rw [d.ptr, hxl, eM, Nat.max_self, hT] at this
    rw [hT]
    refine this.mono ?_
    rintro e w' ⟨v', rfl, h1, h2⟩
    exact ⟨v', _, rfl, h1, h2⟩
  rw [← hT] at hlb
  have HSb := toHid hSb'
  have HT := toHid ht.1
  obtain ⟨tp, htp⟩ : ∃ tp, tp = trPtr o := ⟨_, rfl⟩
  rw [← htp] at hLs ⊢
  have HTP := toHid htp
  obtain ⟨po, hpo⟩ := trPtr_shape o
  obtain rfl : tp = .pointer po := htp.trans hpo
  generalize lesY (val 18446744073709551616 xs) (val 18446744073709551616 ms) c xn = Y at *
  generalize oneN (decide (val 18446744073709551616 xs < val 18446744073709551616 ms)) = b1 at *
  have H0 := toHid ht
  have K0 := toHid k0
  clear hm hx ht hT hSb hSb' hLx hLv eM hxl htp hpo hdx hdm k0
  obtain ⟨p0, p1, p2⟩ := cells3 hx0
  go_enter Tryz.func103, Tryz.ntmps103
  go_wp2_with fail
  refine hLs.mono ?_
  rintro e w1 ⟨rfl, o1, d1⟩
  have d01 := Did.after K0.out d1
  have hx1 := (d1.kept.block _ (lt_of_block hx0) (cells_apart hx0 (HT.out.grew K0.out) (by decide) (by decide))).trans hx0
  obtain ⟨q0, q1, q2⟩ := cells3 hx1
  have hS1 := HSb.out w1 o1 _ d01 rfl
  rw [← HTP.out] at hS1
  clear hLs p0 p1 p2 hx0 hx1
  go_wp2_with fail
  refine hS1.mono ?_
  rintro e w2 ⟨v2, c2, rfl, ho2, o2, d2⟩
  go_wp2_with fail
  go_ret
  refine ⟨_, rfl, own_base ho2 (fun b hb => ?_), o2, d01.trans d2⟩
  have := (ho2.lt b hb).1
  have := d01.size
  omega

end Go.Proofs.YtldbfcifoijliaaGreatDoor

/- Package mont: reduced, times. -/
namespace Go.Proofs.YtldbfcifoijliaaGreatDoor
open Go.RowKit

theorem own_tail {w : World} {base g N cap n L c : Nat} {zs : List Nat} (h : OwnN .u64 24 w base (.slice (some ⟨g, 0, none⟩) N cap) N zs) (hzl : zs.length = N) (hn : n + L = N) (hc : L ≤ c) (hm : c ≤ maxLen) : Row .u64 w (.slice (some ⟨g, n, none⟩) L c) (zs.drop n) := by
  have hsl : (zs.drop n).length = L := by rw [List.length_drop]; omega
  refine ⟨some ⟨g, n, none⟩, c, by rw [hsl], by omega, hm, (fun e => by cases e), fun i hi => ⟨g, n, rfl, ?_⟩⟩
  rw [hsl] at hi
  rw [World.ownsRow.cellAt h (n + i) (by omega), List.getElem?_map, List.getD_eq_getElem?_getD, List.getElem?_drop, List.getElem?_eq_getElem (by omega)]
  rfl

/-- What reduced and times leave. -/
def Reduced (a : World) (o0 : Tr) (m0 : List Ev) (n K X V : Nat) (w' : World) (v' : Value) : Prop :=
  ∃ (Y : Nat) (o' : Tr), OwnN .u64 24 w' a.heap.size v' n (digs 18446744073709551616 Y n) ∧ ((V * K + 1) % 18446744073709551616 = 0 → 0 < n → X < V * 18446744073709551616 ^ n → Y < V ∧ 18446744073709551616 ^ n * Y % V = X % V) ∧ Did a o0 (m0 ++ List.replicate (n + 2) (1, (n : Int), 0)) w' o'

/-- The numbers behind it. -/
theorem reduced_num {n K X V Q c : Nat} {zs : List Nat} (hzd : Digs 18446744073709551616 zs) (hzl : zs.length = n + n) (hc : c ≤ 1) (hV : V < 18446744073709551616 ^ n) (he : val 18446744073709551616 zs + 18446744073709551616 ^ (n + n) * c = X + V * Q) (hQ : Q < 18446744073709551616 ^ n) (hlow : (V * K + 1) % 18446744073709551616 = 0 → 0 < n → val 18446744073709551616 zs % 18446744073709551616 ^ n = 0) (hg : (V * K + 1) % 18446744073709551616 = 0) (hn : 0 < n) (hX : X < V * 18446744073709551616 ^ n) :
    lesY (val 18446744073709551616 (zs.drop n)) V c n < V ∧ 18446744073709551616 ^ n * lesY (val 18446744073709551616 (zs.drop n)) V c n % V = X % V := by
  have hV0 : 0 < V := by
    rcases Nat.eq_zero_or_pos V with h | h
    · rw [h] at hX; omega
    · exact h
  have hd := val_dropB (by omega) hzd n
  have hA : val 18446744073709551616 zs = 18446744073709551616 ^ n * val 18446744073709551616 (zs.drop n) := by
    have e := Nat.mod_add_div (val 18446744073709551616 zs) (18446744073709551616 ^ n)
    rw [hlow hg hn, Nat.zero_add, ← hd] at e
    exact e.symm
  have hT : val 18446744073709551616 (zs.drop n) < 18446744073709551616 ^ n := by
    have := val_lt (by omega) (hzd.drop n)
    rwa [List.length_drop, hzl, Nat.add_sub_cancel] at this
  rw [Nat.pow_add] at he
  obtain ⟨h1, h2⟩ := red_end hA he hQ hX
  rw [les_ok hT hV hc h1]
  refine ⟨Nat.mod_lt _ hV0, ?_⟩
  rw [← h2]
  generalize val 18446744073709551616 (zs.drop n) + 18446744073709551616 ^ n * c = Z
  rw [Nat.mul_mod, Nat.mod_mod, ← Nat.mul_mod]

set_option maxRecDepth 20000 in
set_option maxHeartbeats 2000000 in
/-- reduced. -/
theorem mReduced (a : World) (o0 o : Tr) (m0 : List Ev) (g base N cap n K mcap rl rcap : Nat) (ao bo : Option Addr) (zs ms : List Nat) (w : World) (hD : Did a o0 m0 w o) (ht : TrRoom a o0 (m0.length + (n + 2))) (hg : a.heap.size ≤ g)
    (ho : OwnN .u64 24 w base (.slice (some ⟨g, 0, none⟩) N cap) N zs) (hzl : zs.length = N) (hzd : Digs 18446744073709551616 zs) (hN : N = n + n) (hNb : N ≤ 100000) (hm : RowT a o0 (.slice ao n mcap) ms) (hmd : Digs 18446744073709551616 ms) :
    Calls Tryz.prog 86 #[trPtr o, .agg #[.slice ao n mcap, .int .u64 (K : Nat), .slice bo rl rcap], .slice (some ⟨g, 0, none⟩) N cap] w fun e w' =>
      ∃ v', e = .returned v' ∧ Reduced a o0 m0 n K (val 18446744073709551616 zs) (val 18446744073709551616 ms) w' v' := by
  obtain ⟨_, _, _, e1, hLx, _, _, _, _⟩ := hm.1.open
  cases e1
  have eM := hLx.out
  have hV : val 18446744073709551616 ms < 18446744073709551616 ^ n := by rw [← eM]; exact val_lt (by omega) hmd
  obtain ⟨_, _, _, e1, _, hNc, hCm, _, _⟩ := (Row.of_own (base := base) (e := 24) (by rw [hzl]; exact ho) : Row .u64 w (.slice (some ⟨g, 0, none⟩) N cap) zs).open
  cases e1
  have k0 : Kept Nought w (w.alloc (.cells #[.slice ao n mcap, .int .u64 (K : Nat), .slice bo rl rcap] 52)) := (Kept.refl Nought w).alloc _
  have hx0 : (w.alloc (.cells #[.slice ao n mcap, .int .u64 (K : Nat), .slice bo rl rcap] 52)).heap[w.heap.size]? = some (.cells #[.slice ao n mcap, .int .u64 (K : Nat), .slice bo rl rcap] 52 (0, 0)) := heap_alloc_new _ _
  have hAR := mAddRows a o0 o m0 g base N cap n n K mcap rl rcap ao bo zs ms _ (hD.grew k0) (ht.less (by omega)) hg (k0.own ho (fun _ _ f => f)) hzl hzd hN hNb hm hmd w.heap.size _ _ hx0 (by decide) (by decide) (by have := owns_lt ho; omega)
  obtain ⟨tp, htp⟩ : ∃ tp, tp = trPtr o := ⟨_, rfl⟩
  rw [← htp] at hAR ⊢
  have HTP := toHid (htp.trans hD.ptr)
  have HM := toHid hm
  have HMD := toHid hmd
  have HT := toHid ht
  have HG := toHid hg
  have HV := toHid hV
  have HN := toHid hN
  have HE := toHid eM
  obtain ⟨X, hX⟩ : ∃ X, X = val 18446744073709551616 zs := ⟨_, rfl⟩
  obtain ⟨V, hVV⟩ : ∃ V, V = val 18446744073709551616 ms := ⟨_, rfl⟩
  rw [← hX, ← hVV] at hAR
  rw [← hX, ← hVV]
  have HVV := toHid hVV
  have hgz : a.heap.size ≤ w.heap.size := hD.size
  clear hm hmd ht hg hV hN eM hLx hX hVV hzd hzl ho k0 hD htp
  obtain ⟨p0, p1, p2⟩ := cells3 hx0
  clear hx0
  go_enter Tryz.func86, Tryz.ntmps86
  go_wp2_with fail
  refine hAR.mono ?_
  rintro e w1 ⟨c, rfl, ⟨hc, zs', Q, o1, ho1, hl1, hd1, he1, hQ1, hlow1, D1⟩, hb1⟩
  obtain ⟨q0, q1, q2⟩ := cells3 hb1
  clear hAR p0 p1 p2
  have gn : (n : Int) ≤ (N : Int) := by have := HN.out; omega
  have gn' : n ≤ N := by omega
  have gc : (if cap = n then some (⟨g, 0, none⟩ : Addr) else some ⟨g, n, none⟩) = some ⟨g, n, none⟩ := by
    split
    · have := HN.out
      obtain rfl : n = 0 := by omega
      rfl
    · rfl
  have gl : N - n = n := by have := HN.out; omega
  have hRow : Row .u64 w1 (.slice (some ⟨g, n, none⟩) n (cap - n)) (zs'.drop n) := own_tail ho1 hl1 (by have := HN.out; omega) (by omega) (by unfold maxLen; omega)
  have hdl : (zs'.drop n).length = n := by rw [List.length_drop]; omega
  have hr1 := D1.room (k := 2) (by rw [List.length_append, List.length_replicate]; exact HT.out.less (by omega))
  have hRT : RowT w1 o1 (.slice (some ⟨g, n, none⟩) n (cap - n)) (zs'.drop n) := ⟨hRow, fun _ b hb => by cases hb; exact own_apart ho1 hr1.1 _ rfl⟩
  have hL := fun W (k : Kept Nought w1 W) => mLess o1 ao bo n mcap rl rcap c K _ _ ms W (hr1.grew k) (hRT.grew k) hdl ((HM.out.did D1).grew k) (hd1.drop n) HMD.out hc (by have := HN.out; omega)
  rw [D1.ptr, ← HTP.out, ← HVV.out] at hL
  have HNum : Hid ((V * K + 1) % 18446744073709551616 = 0 → 0 < n → X < V * 18446744073709551616 ^ n → lesY (val 18446744073709551616 (zs'.drop n)) V c n < V ∧ 18446744073709551616 ^ n * lesY (val 18446744073709551616 (zs'.drop n)) V c n % V = X % V) := fun hg hn hX => reduced_num hd1 (hl1.trans HN.out) hc (by rw [HVV.out]; exact HV.out) (by rw [← HN.out]; exact he1) hQ1 hlow1 hg hn hX
  have HD1 := toHid D1
  have HS := toHid hL
  clear he1 hQ1 hlow1 D1 hd1 ho1 hl1 hRow hRT hdl hr1 hL hb1
  generalize lesY (val 18446744073709551616 (zs'.drop n)) V c n = Y at *
  go_wp2_with fail
  go_region_with (go_at_call 103; refine (HS.out _ ((Kept.refl _ _).drew)).mono ?_; rintro e w2 ⟨v2, rfl, ho2, o2, d2⟩)
  all_goals
    go_wp2_with fail
    go_ret
    have d3 := HD1.out.trans (Did.after ((Kept.refl _ _).drew) d2)
    rw [List.append_assoc, show ([(1, (n : Int), 0), (1, (n : Int), 0)] : List Ev) = List.replicate 2 (1, (n : Int), 0) from rfl, List.replicate_append_replicate] at d3
    refine ⟨_, rfl, Y, o2, own_base ho2 (fun b hb => ?_), HNum.out, d3⟩
    have h1 := (ho2.lt b hb).1
    have h2 := HD1.out.size
    have h3 : w1.drew.heap.size = w1.heap.size := rfl
    omega

set_option maxRecDepth 20000 in
set_option maxHeartbeats 2000000 in
/-- times. -/
theorem mTimes (o : Tr) (n K mcap rl rcap xc yc : Nat) (ao bo xo yo : Option Addr) (xs ys ms : List Nat) (w : World) (ht : TrRoom w o 1000) (hx : RowT w o (.slice xo n xc) xs) (hy : RowT w o (.slice yo n yc) ys) (hm : RowT w o (.slice ao n mcap) ms)
    (hdx : Digs 18446744073709551616 xs) (hdy : Digs 18446744073709551616 ys) (hmd : Digs 18446744073709551616 ms) (hn : n ≤ 130) :
    Calls Tryz.prog 83 #[trPtr o, .agg #[.slice ao n mcap, .int .u64 (K : Nat), .slice bo rl rcap], .slice xo n xc, .slice yo n yc] w fun e w' =>
      ∃ v', e = .returned v' ∧ Reduced w o (List.replicate n (1, (n : Int), 0)) n K (val 18446744073709551616 xs * val 18446744073709551616 ys) (val 18446744073709551616 ms) w' v' := by
  obtain ⟨_, _, _, e1, hLx, _, _, _, _⟩ := hx.1.open
  cases e1
  obtain ⟨_, _, _, e1, hLy, _, _, _, _⟩ := hy.1.open
  cases e1
  have hxy : val 18446744073709551616 xs * val 18446744073709551616 ys < 18446744073709551616 ^ (n + n) := by
    have h1 := val_lt (by omega) hdx
    have h2 := val_lt (by omega) hdy
    rw [hLx.out] at h1
    rw [hLy.out] at h2
    rw [Nat.pow_add]
    exact Nat.mul_lt_mul_of_lt_of_le h1 (Nat.le_of_lt h2) (Nat.pow_pos (by omega))
  obtain ⟨W0, hW0⟩ : ∃ W0, W0 = w.alloc (.cells #[.slice ao n mcap, .int .u64 (K : Nat), .slice bo rl rcap] 52) := ⟨_, rfl⟩
  have k0 : Kept Nought w W0 := by rw [hW0]; exact (Kept.refl Nought w).alloc _
  have hx0 : W0.heap[w.heap.size]? = some (.cells #[.slice ao n mcap, .int .u64 (K : Nat), .slice bo rl rcap] 52 (0, 0)) := by rw [hW0]; exact heap_alloc_new _ _
  obtain ⟨tp, htp⟩ : ∃ tp, tp = trPtr o := ⟨_, rfl⟩
  have hCl : ∀ W m o1, Did W0 o m W o1 → W.cell? ⟨w.heap.size, 0, none⟩ = some (.slice ao n mcap) ∧ W.cell? ⟨w.heap.size, 1, none⟩ = some (.int .u64 (K : Nat)) ∧ W.cell? ⟨w.heap.size, 2, none⟩ = some (.slice bo rl rcap) := fun W m o1 d => cells3 ((d.kept.block _ (lt_of_block hx0) (cells_apart hx0 (ht.grew k0).1 (by decide) (by decide))).trans hx0)
  have hMul : ∀ W, Kept Nought W0 W → Calls Tryz.prog 101 #[tp, .slice xo n xc, .slice yo n yc] W fun e w' => ∃ g, e = .returned (.slice (some ⟨g, 0, none⟩) (n + n) (n + n)) ∧ W0.heap.size ≤ g ∧ OwnN .u64 24 w' g (.slice (some ⟨g, 0, none⟩) (n + n) (n + n)) (n + n) (digs 18446744073709551616 (val 18446744073709551616 xs * val 18446744073709551616 ys) (n + n)) ∧ ∃ o1, Did W0 o (List.replicate n (1, (n : Int), 0)) w' o1 := fun W k => by
    rw [htp]
    refine (pMulO o xo yo n n xc yc xs ys W ((ht.less (by omega)).grew (k0.trans k)) (hx.grew (k0.trans k)) (hy.grew (k0.trans k)) hdx hdy).mono ?_
    rintro e w' ⟨v', rfl, _, _, h3, o1, d1⟩
    obtain ⟨g, hg, rfl, ho⟩ := h3 ⟨by omega, by omega⟩
    unfold mulEvs at d1
    rw [if_pos ⟨by omega, by omega⟩] at d1
    exact ⟨g, rfl, Nat.le_trans k.size hg, ho, o1, Did.after k d1⟩
  have hRed : ∀ W g o1, W0.heap.size ≤ g → OwnN .u64 24 W g (.slice (some ⟨g, 0, none⟩) (n + n) (n + n)) (n + n) (digs 18446744073709551616 (val 18446744073709551616 xs * val 18446744073709551616 ys) (n + n)) → Did W0 o (List.replicate n (1, (n : Int), 0)) W o1 →
      Calls Tryz.prog 86 #[tp, .agg #[.slice ao n mcap, .int .u64 (K : Nat), .slice bo rl rcap], .slice (some ⟨g, 0, none⟩) (n + n) (n + n)] W fun e w' => ∃ v', e = .returned v' ∧ Reduced W0 o (List.replicate n (1, (n : Int), 0)) n K (val 18446744073709551616 xs * val 18446744073709551616 ys) (val 18446744073709551616 ms) w' v' := fun W g o1 hg ho d => by
    have := mReduced W0 o o1 _ g g (n + n) (n + n) n K mcap rl rcap ao bo _ ms W d ((ht.less (by rw [List.length_replicate]; omega)).grew k0) hg ho (digs_length _ _ _) (digs_digs (by omega) _ _) rfl (by omega) (hm.grew k0) hmd
    rw [d.ptr, ← htp, val_digs, Nat.mod_eq_of_lt hxy] at this
    exact this
  rw [← htp]
  have HB : Hid (∀ W' v', Reduced W0 o (List.replicate n (1, (n : Int), 0)) n K (val 18446744073709551616 xs * val 18446744073709551616 ys) (val 18446744073709551616 ms) W' v' → Reduced w o (List.replicate n (1, (n : Int), 0)) n K (val 18446744073709551616 xs * val 18446744073709551616 ys) (val 18446744073709551616 ms) W' v') := fun W' v' h => by
    obtain ⟨Y, o', h1, h2, h3⟩ := h
    exact ⟨Y, o', own_base h1 (fun b hb => Nat.le_trans k0.size (h1.lt b hb).1), h2, Did.after k0 h3⟩
  obtain ⟨p0, p1, p2⟩ := cells3 hx0
  have JM := toHid hMul
  have JR := toHid hRed
  have JC := toHid hCl
  generalize val 18446744073709551616 xs * val 18446744073709551616 ys = XY at *
  generalize val 18446744073709551616 ms = V at *
  have JK : Hid (∀ W' v', Reduced W0 o (List.replicate n (1, (n : Int), 0)) n K XY V W' v' → ∃ m o1, Did W0 o m W' o1) := fun W' v' h => by
    obtain ⟨Y, o', _, _, h3⟩ := h
    exact ⟨_, _, h3⟩
  have HW0 := toHid hW0
  clear hW0 hMul hRed hCl hx hy hm ht hdx hdy hmd hLx hLy hxy htp k0 hx0
  go_enter Tryz.func83, Tryz.ntmps83
  go_wp2_with fail
  rw [← HW0.out]
  go_region_held3 (fun w' => w'.cell? ⟨w.heap.size, 0, none⟩ = some (.slice ao n mcap) ∧ w'.cell? ⟨w.heap.size, 1, none⟩ = some (.int .u64 (K : Int)) ∧ w'.cell? ⟨w.heap.size, 2, none⟩ = some (.slice bo rl rcap))
    (((try dsimp only); (repeat' apply And.intro) <;> first | (go_keep; done) | assumption))
    (first
    | (go_at_call 101; refine (JM.out _ ?_).mono ?_; (exact (Kept.refl _ _).drew); rintro e w2 ⟨g, rfl, hg, ho2, o2, d2⟩; obtain ⟨q0, q1, q2⟩ := JC.out _ _ _ d2)
    | (go_at_call 86; refine (JR.out _ _ o2 hg ho2 d2).mono ?_; rintro e w3 ⟨v3, rfl, hr3⟩; obtain ⟨m3, o3, d3⟩ := JK.out _ _ hr3; obtain ⟨r0, r1, r2⟩ := JC.out _ _ _ d3))
  all_goals
    go_wp2_with fail
    go_ret
    exact ⟨_, rfl, HB.out _ _ hr3⟩

end Go.Proofs.YtldbfcifoijliaaGreatDoor

/- Package mont: isMember. -/
namespace Go.Proofs.YtldbfcifoijliaaGreatDoor
open Go.RowKit

/-- Whether a number is a member, as a word. -/
def memN (l n X V : Nat) : Nat := if l = n ∧ X < V then 1 else 0

set_option maxRecDepth 20000 in
set_option maxHeartbeats 2000000 in
/-- isMember. -/
theorem mMember (o : Tr) (ao bo xo : Option Addr) (n l mcap rl rcap xc : Nat) (K : Int) (ms xs : List Nat) (w : World) (ht : TrRoom w o 1) (hm : RowT w o (.slice ao n mcap) ms) (hx : RowT w o (.slice xo l xc) xs) (hdm : Digs 18446744073709551616 ms) (hdx : Digs 18446744073709551616 xs) (hn : n ≤ 100000) (P : Nat) (hP : P = memN l n (val 18446744073709551616 xs) (val 18446744073709551616 ms)) :
    Calls Tryz.prog 99 #[trPtr o, .agg #[.slice ao n mcap, .int .u64 K, .slice bo rl rcap], .slice xo l xc] w fun e w' => e = .returned (.int .u64 (P : Int)) ∧ ∃ o', Did w o [(1, (n : Int), 0)] w' o' := by
  obtain ⟨_, _, _, e1, hLm, _, _, _, _⟩ := hm.1.open
  cases e1
  obtain ⟨_, _, _, e1, hLx, _, _, _, _⟩ := hx.1.open
  cases e1
  obtain ⟨W, hW⟩ : ∃ W, W = w.alloc (.cells #[.slice ao n mcap, .int .u64 K, .slice bo rl rcap] 52) := ⟨_, rfl⟩
  have k0 : Kept Nought w W := by rw [hW]; exact (Kept.refl Nought w).alloc _
  have hx0 : W.heap[w.heap.size]? = some (.cells #[.slice ao n mcap, .int .u64 K, .slice bo rl rcap] 52 (0, 0)) := by rw [hW]; exact heap_alloc_new _ _
  obtain ⟨tp, htp⟩ : ∃ tp, tp = trPtr o := ⟨_, rfl⟩
  have JF : Hid (∀ W', Kept Nought W W' → Calls Tryz.prog 84 #[.slice xo l xc, .int .i64 (n : Int)] W' fun e w' => e = .returned (.slice (some ⟨W'.heap.size, 0, none⟩) n n) ∧ Row .u64 w' (.slice (some ⟨W'.heap.size, 0, none⟩) n n) (digs 18446744073709551616 (val 18446744073709551616 xs) n) ∧ RowT w' o (.slice (some ⟨W'.heap.size, 0, none⟩) n n) (digs 18446744073709551616 (val 18446744073709551616 xs) n) ∧ Kept Nought W w') := fun W' k => by
    refine (mFit (.slice xo l xc) xs n W' (hx.1.grew (k0.trans k)) hdx (by omega)).mono ?_
    rintro e w' ⟨rfl, ho, k'⟩
    exact ⟨rfl, own_row' ho (digs_length _ _ _), own_rowT ho (digs_length _ _ _) (ht.grew ((k0.trans k).trans k')).1, k.trans k'⟩
  obtain ⟨Q, hQ⟩ : ∃ Q, Q = oneN (decide (val 18446744073709551616 xs % 18446744073709551616 ^ n < val 18446744073709551616 ms)) := ⟨_, rfl⟩
  have JL : Hid (∀ W' g, Kept Nought W W' → RowT W' o (.slice (some ⟨g, 0, none⟩) n n) (digs 18446744073709551616 (val 18446744073709551616 xs) n) → Calls Tryz.prog 110 #[tp, .slice (some ⟨g, 0, none⟩) n n, .slice ao n mcap] W' fun e w' => e = .returned (.int .u64 (Q : Int)) ∧ ∃ o', Did W o [(1, (n : Int), 0)] w' o') := fun W' g k hr => by
    have := lLess o _ _ _ ms W' (ht.grew (k0.trans k)) hr (hm.grew (k0.trans k)) (digs_digs (by omega) _ _) hdm (by rw [digs_length]; omega) (by rw [hLm.out]; omega)
    rw [digs_length, hLm.out, Nat.max_self, val_digs, ← hQ, ← htp] at this
    refine this.mono ?_
    rintro e w' ⟨rfl, o', d⟩
    exact ⟨rfl, o', Did.after k d⟩
  have JC : Hid (∀ W' m o', Did W o m W' o' → W'.cell? ⟨w.heap.size, 0, none⟩ = some (.slice ao n mcap)) := fun W' m o' d => (cells3 ((d.kept.block _ (lt_of_block hx0) (cells_apart hx0 (ht.grew k0).1 (by decide) (by decide))).trans hx0)).1
  have HQ : Hid (l = n → Q = P) := fun h => by
    rw [hQ, hP, Nat.mod_eq_of_lt (by rw [← h, ← hLx.out]; exact val_lt (by omega) hdx)]
    unfold oneN memN
    by_cases h2 : val 18446744073709551616 xs < val 18446744073709551616 ms
    · rw [decide_eq_true h2, if_pos rfl, if_pos ⟨h, h2⟩]
    · rw [decide_eq_false h2, if_neg (by decide), if_neg (fun h => h2 h.2)]
  have HP : Hid (¬ l = n → P = 0) := fun h => by
    rw [hP]
    exact if_neg (fun h' => h h'.1)
  obtain ⟨p0, p1, p2⟩ := cells3 hx0
  have HW := toHid hW
  have HK0 := toHid k0
  have HTI := toHid (ht.grew k0).1
  rw [← htp]
  clear hW k0 hx0 htp hm hx hdm hdx ht hLm hLx hQ hP
  by_cases h : l = n
  · have hPQ := HQ.out h
    subst h
    subst hPQ
    go_enter Tryz.func99, Tryz.ntmps99
    go_wp2_with fail
    rw [← HW.out]
    go_region_held3 (fun w' => w'.cell? ⟨w.heap.size, 0, none⟩ = some (.slice ao l mcap))
      (((try dsimp only); first | (go_keep; done) | assumption))
      (first
      | (go_at_call 84; refine (JF.out _ ?_).mono ?_; (exact (Kept.refl _ _).drew); rintro e w2 ⟨rfl, hr2, ht2, k2⟩; have q0 := k2.cellN p0)
      | (go_at_call 110; refine (JL.out _ _ k2 ht2).mono ?_; rintro e w3 ⟨rfl, o3, d3⟩; have r0 := JC.out _ _ _ d3))
    all_goals
      go_wp2_with fail
      go_ret
      exact ⟨rfl, o3, Did.after HK0.out d3⟩
  · have hP0 := HP.out h
    subst hP0
    have h' : ¬ (l : Int) = (n : Int) := by omega
    go_enter Tryz.func99, Tryz.ntmps99
    go_wp2_with fail
    rw [← HW.out]
    go_region_held3 (fun w' => w'.cell? ⟨w.heap.size, 0, none⟩ = some (.slice ao n mcap))
      (((try dsimp only); first | (go_keep; done) | assumption))
      (first
      | (go_at_call 84; refine (JF.out _ ?_).mono ?_; (exact (Kept.refl _ _).drew); rintro e w2 ⟨rfl, hr2, ht2, k2⟩; have q0 := k2.cellN p0)
      | (go_at_call 110; refine (JL.out _ _ k2 ht2).mono ?_; rintro e w3 ⟨rfl, o3, d3⟩; have r0 := JC.out _ _ _ d3))
    all_goals
      go_wp2_with fail
      go_ret
      exact ⟨rfl, o3, Did.after HK0.out d3⟩

end Go.Proofs.YtldbfcifoijliaaGreatDoor


/- Melted of: MInv Inv1. -/

/- Plain numbers: inverses modulo 2^64, by steps that double the bits and bit by bit. -/
namespace Go.Proofs.YtldbfcifoijliaaGreatDoor

theorem pow_le64 (k : Nat) (h : k ≤ 64) : (2 : Int) ^ k ∣ 18446744073709551616 := by
  have : (18446744073709551616 : Int) = 2 ^ k * 2 ^ (64 - k) := by rw [← Int.pow_add, show k + (64 - k) = 64 by omega]; rfl
  exact ⟨_, this⟩

/-- An odd number's square is 1 modulo 8. -/
theorem inv_start (a : Int) (h : a % 2 = 1) : (2 : Int) ^ 3 ∣ 1 - a * a := by
  obtain ⟨b, rfl⟩ : ∃ b, a = 2 * b + 1 := ⟨a / 2, by omega⟩
  have e : (1 : Int) - (2 * b + 1) * (2 * b + 1) = -4 * (b * (b + 1)) := by
    simp only [Int.mul_add, Int.add_mul, Int.mul_one, Int.one_mul, Int.neg_mul]
    rw [show (2 * b * (2 * b) : Int) = 4 * (b * b) by rw [Int.mul_assoc, Int.mul_left_comm b 2 b]; omega]
    omega
  have hp : ∃ c, b * (b + 1) = 2 * c := by
    rcases Int.emod_two_eq b with h2 | h2
    · obtain ⟨c, rfl⟩ : ∃ c, b = 2 * c := ⟨b / 2, by omega⟩
      exact ⟨c * (2 * c + 1), by rw [Int.mul_assoc]⟩
    · obtain ⟨c, rfl⟩ : ∃ c, b = 2 * c + 1 := ⟨b / 2, by omega⟩
      exact ⟨(2 * c + 1) * (c + 1), by rw [show 2 * c + 1 + 1 = 2 * (c + 1) by omega, ← Int.mul_assoc, Int.mul_comm (2 * c + 1) 2, Int.mul_assoc]⟩
  obtain ⟨c, hc⟩ := hp
  rw [e, hc]
  exact ⟨-c, by omega⟩

/-- What a step makes of the rest: its square, modulo 2^64. -/
theorem inv_step (a x y : Int) (k : Nat) (h : (2 : Int) ^ k ∣ 1 - a * x) (hy : (18446744073709551616 : Int) ∣ y - x * (2 - a * x)) (m : Nat) (hm : m ≤ 2 * k) (hm2 : m ≤ 64) :
    (2 : Int) ^ m ∣ 1 - a * y := by
  have e : 1 - a * y = (1 - a * x) * (1 - a * x) - a * (y - x * (2 - a * x)) := by
    simp only [Int.mul_sub, Int.sub_mul, Int.mul_one, Int.one_mul]
    have h1 : a * (x * 2) = a * x * 2 := by rw [Int.mul_assoc]
    have h2 : a * (x * (a * x)) = a * x * (a * x) := by rw [Int.mul_assoc]
    omega
  rw [e]
  refine Int.dvd_sub ?_ ?_
  · have h1 : (2 : Int) ^ (k + k) ∣ (1 - a * x) * (1 - a * x) := by rw [Int.pow_add]; exact Int.mul_dvd_mul h h
    refine Int.dvd_trans ?_ h1
    exact ⟨2 ^ (k + k - m), by rw [← Int.pow_add]; congr 1; omega⟩
  · exact Int.dvd_trans (Int.dvd_trans (pow_le64 m hm2) hy) (Int.dvd_mul_left _ _)

/-- The wrapped step stands for the step. -/
theorem wrap_step (a x : Int) : (18446744073709551616 : Int) ∣ (x * ((2 - a * x % 18446744073709551616) % 18446744073709551616)) % 18446744073709551616 - x * (2 - a * x) := by
  obtain ⟨t, ht⟩ : ∃ t, (2 - a * x % 18446744073709551616) % 18446744073709551616 = 2 - a * x + 18446744073709551616 * t := ⟨((2 - a * x % 18446744073709551616) % 18446744073709551616 - (2 - a * x)) / 18446744073709551616, by omega⟩
  rw [ht, Int.mul_add, Int.mul_left_comm x 18446744073709551616 t]
  generalize x * (2 - a * x) = p
  generalize x * t = q
  omega

end Go.Proofs.YtldbfcifoijliaaGreatDoor

/- The plain side of layer 1: the inverse of a word modulo 2^64. -/
namespace Go.Proofs.YtldbfcifoijliaaGreatDoor
open Go.RowKit

/-- x is the inverse of a modulo 2^64, or 0 if a is even. -/
def isInv (a x : Int) : Prop := 0 ≤ x ∧ x < 18446744073709551616 ∧ (a % 2 = 1 → (18446744073709551616 : Int) ∣ 1 - a * x) ∧ (a % 2 = 0 → x = 0)

end Go.Proofs.YtldbfcifoijliaaGreatDoor

