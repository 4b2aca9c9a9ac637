/- Package mont: fitted, lessened. -/
import Derived.Test.YtpgccioblgcjaaaMonA
import Derived.Test.YtpgccioblgcjaaaPro2
import Derived.Test.YtpgccioblgcjaaaLim2
namespace Go.Proofs.Ytpgccioblgcjaaa
open Go.RowKit

theorem fit_digs {xs : List Nat} (hd : Digs 18446744073709551616 xs) (n : Nat) : xs.take n ++ List.replicate (n - (xs.take n).length) 0 = digs 18446744073709551616 (val 18446744073709551616 xs) n := by
  have hl : (xs.take n).length ≤ n := by rw [List.length_take]; omega
  refine digs_val (by omega) ((hd.take n).append (fun d h => by rw [(List.mem_replicate.1 h).2]; omega)) (by simp; omega) ?_
  rw [val_append, val_zeros _ (fun d h => (List.mem_replicate.1 h).2), Nat.mul_zero, Nat.add_zero, val_takeB (by omega) hd]

set_option maxRecDepth 20000 in
set_option maxHeartbeats 2000000 in
/-- fitted. -/
theorem mFit (v : Value) (xs : List Nat) (n : Nat) (w : World) (h : Row .u64 w v xs) (hd : Digs 18446744073709551616 xs) (hn : n ≤ 1000000) :
    Calls Try.prog 51 #[v, .int .i64 (n : Nat)] w fun e w' => e = .returned (.slice (some ⟨w.heap.size, 0, none⟩) n n) ∧ OwnN .u64 26 w' w.heap.size (.slice (some ⟨w.heap.size, 0, none⟩) n n) n (digs 18446744073709551616 (val 18446744073709551616 xs) n) ∧ Kept Nought w w' := by
  obtain ⟨i0, hi0, hz0, hz1, hz2⟩ := info_parts Try.info26
  obtain ⟨ao, q, cap, rfl, hL, _, _, _, _⟩ := h.open
  have HD := toHid (fit_digs hd n)
  have HS : Hid (∀ W, Kept Nought w W → 0 < ((xs.take n).map fun z : Nat => Value.int .u64 (z : Int)).length → ∃ ad, ao = some ad ∧ ∀ j u, ((xs.take n).map fun z : Nat => Value.int .u64 (z : Int))[j]? = some u → W.cell? (ad.add j) = some u) := fun W hk hp => by
    obtain ⟨ad, e, hs⟩ := h.source hk (by rw [List.length_map, List.length_take] at hp; rw [List.length_map]; omega)
    refine ⟨ad, e, fun j u hj => hs j u ?_⟩
    rw [List.map_take, List.getElem?_take] at hj
    split at hj
    · exact hj
    · cases hj
  have HO := toHid (ints_one .u64 (xs.take n))
  have HLC : Hid (((xs.take n).map fun z : Nat => Value.int .u64 (z : Int)).length = Nat.min q n) := by
    unfold Hid
    rw [List.length_map, List.length_take, hL.out]
    exact Nat.min_comm n q
  obtain ⟨CS, hCS⟩ : ∃ CS, CS = (xs.take n).map (fun z : Nat => Value.int .u64 (z : Int)) := ⟨_, rfl⟩
  rw [← hCS] at HS HO HLC
  have HCS : Hid (CS = (xs.take n).map (fun z : Nat => Value.int .u64 (z : Int))) := hCS
  have hqn : Nat.min q n ≤ n := Nat.min_le_right _ _
  clear hCS h hd
  go_enter Try.func51, Try.ntmps51
  go_wp2_with (at_make; refine wpList_make_full _ rfl _ _ 23 rfl w.heap.size 26 i0 _ 1 Try.underlying23 hi0 hz0 hz1 _ _ _ _ n rfl rfl rfl rfl (by rw [hz2]; omega) (by unfold maxLen; omega) (Nat.le_refl _) ?_; intro w1 ho1 hg1; rw [zeros_map] at ho1; have k1 := grown_kept hg1; obtain ⟨w2, hrun, hb2, k2⟩ := run_copy_part (P := Try.prog) 23 23 3 26 w.heap.size 0 n n (some ⟨w.heap.size, 0, none⟩) ao q cap _ 26 CS Try.underlying23 (by rw [hi0]; simp [hz1]) (own_block ho1) HLC.out (fun hp => ⟨rfl, HS.out _ k1 hp⟩) (by have := HLC.out; simp; omega) HO.out; have HB2 : Hid _ := hb2; clear hb2 ho1 hg1)
  go_ret
  have hfin := HB2.out
  rw [HCS.out, splice_fill] at hfin
  rw [HD.out] at hfin
  have kk := kept_new k1 k2 (Nat.le_refl _)
  exact ⟨rfl, own_of_block hfin (by rw [digs_length]) (by unfold maxLen; omega) (Nat.le_refl _), kk⟩

/-- Whether lessened takes the modulus away. -/
def lesT (X V c : Nat) : Nat := if c = 1 ∨ V ≤ X then 1 else 0

/-- What lessened answers. -/
def lesY (X V c n : Nat) : Nat := selN (lesT X V c) (subN X V n) X

theorem les_bits (X V c : Nat) (hc : c ≤ 1) : bits .or .u64 (c : Int) (bits .xor .u64 ((oneN (decide (X < V)) : Nat) : Int) 1) = ((lesT X V c : Nat) : Int) := by
  unfold lesT oneN
  have h01 : c = 0 ∨ c = 1 := by omega
  by_cases h2 : X < V
  · rcases h01 with h3 | h3
    · rw [h3, decide_eq_true h2, if_pos rfl, if_neg (by omega)]
      decide
    · rw [h3, decide_eq_true h2, if_pos rfl, if_pos (.inl rfl)]
      decide
  · rcases h01 with h3 | h3
    · rw [h3, decide_eq_false h2, if_neg (by decide), if_pos (.inr (by omega))]
      decide
    · rw [h3, decide_eq_false h2, if_neg (by decide), if_pos (.inl rfl)]
      decide

theorem lesT_le (X V c : Nat) : lesT X V c ≤ 1 := by unfold lesT; split <;> omega

/-- What lessened is for. -/
theorem les_ok {X V c n : Nat} (hX : X < 18446744073709551616 ^ n) (hV : V < 18446744073709551616 ^ n) (hc : c ≤ 1) (h : X + 18446744073709551616 ^ n * c < 2 * V) : lesY X V c n = (X + 18446744073709551616 ^ n * c) % V := by
  rw [← les_mod h]
  unfold lesY
  have h01 : c = 0 ∨ c = 1 := by omega
  have s1 : ∀ A B, selN 1 A B = A := fun A B => rfl
  have s0 : ∀ A B, selN 0 A B = B := fun A B => rfl
  rcases h01 with rfl | rfl
  · rw [Nat.mul_zero, Nat.add_zero]
    by_cases h1 : V ≤ X
    · rw [show lesT X V 0 = 1 from if_pos (Or.inr h1), s1, if_pos h1, subN, if_neg (by omega)]
    · rw [show lesT X V 0 = 0 from if_neg (by omega), s0, if_neg h1]
  · rw [Nat.mul_one] at h ⊢
    rw [show lesT X V 1 = 1 from if_pos (Or.inl rfl), s1, subN, if_pos (show X < V by omega), if_pos (by omega), B64]

set_option maxRecDepth 20000 in
set_option maxHeartbeats 2000000 in
/-- lessened. -/
theorem mLess (o : Tr) (ao bo : Option Addr) (n mcap rl rcap c : Nat) (K : Int) (v : Value) (xs ms : List Nat) (w : World) (ht : TrRoom w o 2) (hx : RowT w o v xs) (hxl : xs.length = n) (hm : RowT w o (.slice ao n mcap) ms) (hdx : Digs 18446744073709551616 xs) (hdm : Digs 18446744073709551616 ms) (hc : c ≤ 1) (hn : n ≤ 100000) :
    Calls Try.prog 78 #[trPtr o, .agg #[.slice ao n mcap, .int .u64 K, .slice bo rl rcap], v, .int .u64 (c : Nat)] w fun e w' => ∃ v', e = .returned v' ∧
      OwnN .u64 26 w' w.heap.size v' n (digs 18446744073709551616 (lesY (val 18446744073709551616 xs) (val 18446744073709551616 ms) c n) n) ∧ ∃ o', Did w o [(1, (n : Nat), 0), (1, (n : Nat), 0)] w' o' := by
  obtain ⟨_, _, _, e1, hLx, _, _, _, _⟩ := hm.1.open
  cases e1
  have eM := hLx.out
  obtain ⟨xo, xn, xc, rfl, hLv, _, _, _, _⟩ := hx.1.open
  obtain rfl : xn = n := hLv.out.symm.trans hxl
  have hlb := les_bits (val 18446744073709551616 xs) (val 18446744073709551616 ms) c hc
  obtain ⟨T, hT⟩ : ∃ T, T = lesT (val 18446744073709551616 xs) (val 18446744073709551616 ms) c := ⟨_, rfl⟩
  have hTle : T ≤ 1 := by rw [hT]; exact lesT_le _ _ _
  have k0 : Kept Nought w (w.alloc (.cells #[.slice ao xn mcap, .int .u64 K, .slice bo rl rcap] 28)) := (Kept.refl Nought w).alloc _
  have hx0 : (w.alloc (.cells #[.slice ao xn mcap, .int .u64 K, .slice bo rl rcap] 28)).heap[w.heap.size]? = some (.cells #[.slice ao xn mcap, .int .u64 K, .slice bo rl rcap] 28 (0, 0)) := heap_alloc_new _ _
  have hLs := lLess o _ _ xs ms _ ((ht.less (by omega)).grew k0) (hx.grew k0) (hm.grew k0) hdx hdm (by rw [hxl]; omega) (by rw [eM]; omega)
  rw [hxl, eM, Nat.max_self] at hLs
  have hSb := fun (W : World) (o1 : Tr) (m1 : List Ev) (d : Did w o m1 W o1) (hm1 : m1.length = 1) => lSubIf o1 T (by omega) _ _ xs ms W (d.room (k := 1) (by rw [hm1]; exact ht)) (hx.did d) (hm.did d) hdx hdm (by rw [hxl]; omega) (by rw [eM]; omega)
  have hSb' : ∀ (W : World) (o1 : Tr) (m1 : List Ev) (d : Did w o m1 W o1) (hm1 : m1.length = 1), Calls Try.prog 98 #[trPtr o, .int .u64 (T : Nat), .slice xo xn xc, .slice ao xn mcap] W fun e w' => ∃ v' c', e = .returned (.tuple #[v', .int .u64 (c' : Int)]) ∧
      OwnN .u64 26 w' W.heap.size v' xn (digs 18446744073709551616 (lesY (val 18446744073709551616 xs) (val 18446744073709551616 ms) c xn) xn) ∧ ∃ o', Did W o1 [(1, (xn : Nat), 0)] w' o' := fun W o1 m1 d hm1 => by
    have := hSb W o1 m1 d hm1
    rw [d.ptr, hxl, eM, Nat.max_self, hT] at this
    rw [hT]
    refine this.mono ?_
    rintro e w' ⟨v', rfl, h1, h2⟩
    exact ⟨v', _, rfl, h1, h2⟩
  rw [← hT] at hlb
  have HSb := toHid hSb'
  have HT := toHid ht.1
  obtain ⟨tp, htp⟩ : ∃ tp, tp = trPtr o := ⟨_, rfl⟩
  rw [← htp] at hLs ⊢
  have HTP := toHid htp
  obtain ⟨po, hpo⟩ := trPtr_shape o
  obtain rfl : tp = .pointer po := htp.trans hpo
  generalize lesY (val 18446744073709551616 xs) (val 18446744073709551616 ms) c xn = Y at *
  generalize oneN (decide (val 18446744073709551616 xs < val 18446744073709551616 ms)) = b1 at *
  have H0 := toHid ht
  have K0 := toHid k0
  clear hm hx ht hT hSb hSb' hLx hLv eM hxl htp hpo hdx hdm k0
  obtain ⟨p0, p1, p2⟩ := cells3 hx0
  go_enter Try.func78, Try.ntmps78
  go_wp2_with fail
  refine hLs.mono ?_
  rintro e w1 ⟨rfl, o1, d1⟩
  have d01 := Did.after K0.out d1
  have hx1 := (d1.kept.block _ (lt_of_block hx0) (cells_apart hx0 (HT.out.grew K0.out) (by decide) (by decide))).trans hx0
  obtain ⟨q0, q1, q2⟩ := cells3 hx1
  have hS1 := HSb.out w1 o1 _ d01 rfl
  rw [← HTP.out] at hS1
  clear hLs p0 p1 p2 hx0 hx1
  go_wp2_with fail
  refine hS1.mono ?_
  rintro e w2 ⟨v2, c2, rfl, ho2, o2, d2⟩
  go_wp2_with fail
  go_ret
  refine ⟨_, rfl, own_base ho2 (fun b hb => ?_), o2, d01.trans d2⟩
  have := (ho2.lt b hb).1
  have := d01.size
  omega

end Go.Proofs.Ytpgccioblgcjaaa
