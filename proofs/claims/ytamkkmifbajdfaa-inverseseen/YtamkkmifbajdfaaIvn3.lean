/- Package inverse: fitted; what a step makes of the coefficients. -/
import Derived.Test.YtamkkmifbajdfaaIvn2
namespace Go.Proofs.Ytamkkmifbajdfaa
open Go.RowKit

set_option maxRecDepth 20000 in
set_option maxHeartbeats 2000000 in
/-- fitted. -/
theorem iFit (v : Value) (xs : List Nat) (n : Nat) (w : World) (h : Row .u64 w v xs) (hd : Digs 18446744073709551616 xs) (hn : n ≤ 1000000) :
    Calls Try.prog 20 #[v, .int .i64 (n : Nat)] w fun e w' => e = .returned (.slice (some ⟨w.heap.size, 0, none⟩) n n) ∧ OwnN .u64 27 w' w.heap.size (.slice (some ⟨w.heap.size, 0, none⟩) n n) n (digs 18446744073709551616 (val 18446744073709551616 xs) n) ∧ Kept Nought w w' := by
  obtain ⟨i0, hi0, hz0, hz1, hz2⟩ := info_parts Try.info27
  obtain ⟨ao, q, cap, rfl, hL, _, _, _, _⟩ := h.open
  have HD := toHid (fit_digs hd n)
  have HS : Hid (∀ W, Kept Nought w W → 0 < ((xs.take n).map fun z : Nat => Value.int .u64 (z : Int)).length → ∃ ad, ao = some ad ∧ ∀ j u, ((xs.take n).map fun z : Nat => Value.int .u64 (z : Int))[j]? = some u → W.cell? (ad.add j) = some u) := fun W hk hp => by
    obtain ⟨ad, e, hs⟩ := h.source hk (by rw [List.length_map, List.length_take] at hp; rw [List.length_map]; omega)
    refine ⟨ad, e, fun j u hj => hs j u ?_⟩
    rw [List.map_take, List.getElem?_take] at hj
    split at hj
    · exact hj
    · cases hj
  have HO := toHid (ints_one .u64 (xs.take n))
  have HLC : Hid (((xs.take n).map fun z : Nat => Value.int .u64 (z : Int)).length = Nat.min q n) := by
    unfold Hid
    rw [List.length_map, List.length_take, hL.out]
    exact Nat.min_comm n q
  obtain ⟨CS, hCS⟩ : ∃ CS, CS = (xs.take n).map (fun z : Nat => Value.int .u64 (z : Int)) := ⟨_, rfl⟩
  rw [← hCS] at HS HO HLC
  have HCS : Hid (CS = (xs.take n).map (fun z : Nat => Value.int .u64 (z : Int))) := hCS
  have hqn : Nat.min q n ≤ n := Nat.min_le_right _ _
  clear hCS h hd
  go_enter Try.func20, Try.ntmps20
  go_wp2_with (at_make; refine wpList_make_full _ rfl _ _ 26 rfl w.heap.size 27 i0 _ 1 Try.underlying26 hi0 hz0 hz1 _ _ _ _ n rfl rfl rfl rfl (by rw [hz2]; omega) (by unfold maxLen; omega) (Nat.le_refl _) ?_; intro w1 ho1 hg1; rw [zeros_map] at ho1; have k1 := grown_kept hg1; obtain ⟨w2, hrun, hb2, k2⟩ := run_copy_part (P := Try.prog) 26 26 3 27 w.heap.size 0 n n (some ⟨w.heap.size, 0, none⟩) ao q cap _ 27 CS Try.underlying26 (by rw [hi0]; simp [hz1]) (own_block ho1) HLC.out (fun hp => ⟨rfl, HS.out _ k1 hp⟩) (by have := HLC.out; simp; omega) HO.out; have HB2 : Hid _ := hb2; clear hb2 ho1 hg1)
  go_ret
  have hfin := HB2.out
  rw [HCS.out, splice_fill] at hfin
  rw [HD.out] at hfin
  have kk := kept_new k1 k2 (Nat.le_refl _)
  exact ⟨rfl, own_of_block hfin (by rw [digs_length]) (by unfold maxLen; omega) (Nat.le_refl _), kk⟩

theorem cells2 {W : World} {p : Nat} {a b : Value} {t : TypeId} {fr : Nat × Nat} (h : W.heap[p]? = some (.cells #[a, b] t fr)) : W.cell? ⟨p, 0, none⟩ = some a ∧ W.cell? ⟨p, 1, none⟩ = some b :=
  ⟨(cell_of_row W p 0 _ _ _ h).trans rfl, (cell_of_row W p 1 _ _ _ h).trans rfl⟩

theorem frees2 {W : World} {p : Nat} {a b : Value} {t : TypeId} (h : W.heap[p]? = some (.cells #[a, b] t (0, 0))) : W.frozen? ⟨p, 0, none⟩ = false ∧ W.frozen? ⟨p, 1, none⟩ = false := by
  simp [World.frozen?, h]

theorem put2 {W : World} {p : Nat} {a b : Value} {t : TypeId} (h : W.heap[p]? = some (.cells #[a, b] t (0, 0))) (x y : Value) :
    ((W.setCell ⟨p, 0, none⟩ x).setCell ⟨p, 1, none⟩ y).heap[p]? = some (.cells #[x, y] t (0, 0)) := by
  have h1 := heap_setCell_same W p 0 #[a, b] t x h
  have h2 := heap_setCell_same (W.setCell ⟨p, 0, none⟩ x) p 1 #[x, b] t y (by simpa using h1)
  simpa using h2

theorem kept2 (W : World) (p : Nat) (x y : Value) : Kept (fun b => b = p) W ((W.setCell ⟨p, 0, none⟩ x).setCell ⟨p, 1, none⟩ y) :=
  ((Kept.refl (fun b => b = p) W).setCell ⟨p, 0, none⟩ (fun _ => rfl) x).setCell ⟨p, 1, none⟩ (fun _ => rfl) y

/-- What is known of a step's coefficient, if m is a modulus and both are members. -/
def CoStep (n M U V sw od V' : Nat) : Prop := M < 18446744073709551616 ^ n → M % 2 = 1 → U < M → V < M → V' < M ∧ (M : Int) ∣ 2 * (V' : Int) - (V + ((od : Int) - 2 * (sw : Int)) * U)

set_option maxRecDepth 20000 in
set_option maxHeartbeats 4000000 in
/-- What a step makes of the coefficients. -/
theorem iCo {w0 : World} {o0 : Tr} {m : List Ev} {po : Option Addr} {k : Nat} (n M U V sw od x : Nat) (uo vo ao bo : Option Addr) (uc vc mcap l K rcap : Nat) {w : World} {o : Tr} (s : Wr w0 o0 m w o (.pointer po) (k + 8)) (hso : (sw = 1 ∧ od = 1 ∧ x = 0) ∨ (sw = 0 ∧ od = 1 ∧ x = 1) ∨ (sw = 0 ∧ od = 0 ∧ x = 0)) (hox : bits .xor .u64 (od : Int) (sw : Int) = (x : Int)) (hm : NumT w o (.slice ao n mcap) n M) (hu : NumT w o (.slice uo n uc) n U) (hv : NumT w o (.slice vo n vc) n V) (hn0 : 0 < n) (hn : n ≤ 900) :
    Calls Try.prog 67 #[.agg #[.slice uo n uc, .slice vo n vc], .pointer po, .agg #[.slice ao n mcap, .int .u64 (K : Nat), .slice bo l rcap], .int .u64 (sw : Nat), .int .u64 (od : Nat)] w fun e w' => ∃ (u' v' : Value), e = .returned (.agg #[u', v']) ∧ ∃ (U' V' : Nat) (o' : Tr), Hid (U' = selN sw V U ∧ CoStep n M U V sw od V') ∧ NumN w' o' u' n U' ∧ NumN w' o' v' n V' ∧ Did w o (List.replicate 8 (1, (n : Int), 0)) w' o' ∧ Wr w0 o0 (m ++ List.replicate 8 (1, (n : Int), 0)) w' o' (.pointer po) k := by
  have hsw : sw ≤ 1 := by omega
  have hx : x ≤ 1 := by omega
  obtain ⟨W, hW⟩ : ∃ W, W = ((w.alloc (.cells #[.slice uo n uc, .slice vo n vc] 79)).alloc (.cells #[.slice ao n mcap, .int .u64 (K : Nat), .slice bo l rcap] 29)).alloc (.cells #[.slice none 0 0, .slice none 0 0] 79) := ⟨_, rfl⟩
  have k0 : Kept Nought w W := by rw [hW]; exact (((Kept.refl Nought w).alloc _).alloc _).alloc _
  have b1 : W.heap[w.heap.size]? = some (.cells #[.slice uo n uc, .slice vo n vc] 79 (0, 0)) := by rw [hW]; exact heapAt_alloc (heapAt_alloc (heap_alloc_new _ _))
  have b2 : W.heap[w.heap.size + 1]? = some (.cells #[.slice ao n mcap, .int .u64 (K : Nat), .slice bo l rcap] 29 (0, 0)) := by
    rw [hW]
    refine heapAt_alloc ?_
    have := heap_alloc_new (w.alloc (.cells #[.slice uo n uc, .slice vo n vc] 79)) (.cells #[.slice ao n mcap, .int .u64 (K : Nat), .slice bo l rcap] 29)
    simpa using this
  have b3 : W.heap[w.heap.size + 1 + 1]? = some (.cells #[.slice none 0 0, .slice none 0 0] 79 (0, 0)) := by
    rw [hW]
    have := heap_alloc_new ((w.alloc (.cells #[.slice uo n uc, .slice vo n vc] 79)).alloc (.cells #[.slice ao n mcap, .int .u64 (K : Nat), .slice bo l rcap] 29)) (.cells #[.slice none 0 0, .slice none 0 0] 79)
    simpa using this
  have JC : Hid (∀ W' m' o', Did W o m' W' o' → (W'.cell? ⟨w.heap.size, 0, none⟩ = some (.slice uo n uc) ∧ W'.cell? ⟨w.heap.size, 1, none⟩ = some (.slice vo n vc)) ∧ W'.cell? ⟨w.heap.size + 1, 0, none⟩ = some (.slice ao n mcap) ∧ W'.heap[w.heap.size + 1 + 1]? = some (.cells #[.slice none 0 0, .slice none 0 0] 79 (0, 0))) := fun W' m' o' d =>
    have ti : TrIn W o := s.room.1.grew k0
    ⟨cells2 (d.cells b1 ti (by decide) (by decide)), (cells3 (d.cells b2 ti (by decide) (by decide))).1, d.cells b3 ti (by decide) (by decide)⟩
  have dW : Did W o [] W o := Did.of_kept (Kept.refl Nought W) (s.room.1.grew k0)
  have sW : Wr W o [] W o (.pointer po) (k + 8) := ⟨dW, s.room.grew k0, s.ptr⟩
  have HM := toHid (hm.grew k0)
  have HU := toHid (hu.grew k0)
  have HV := toHid (hv.grew k0)
  have HW := toHid hW
  have HK := toHid k0
  have HS := toHid s
  have HSO := toHid hso
  have HTI := toHid (s.room.1.grew k0)
  have h1 := iSubIf sw n V U _ _ (k := k + 7) sW hsw HV.out HU.out (by omega)
  obtain ⟨⟨c1, c2⟩, c3, _⟩ := JC.out W [] o dW
  clear hm hu hv hW k0 s hso b1 b2 b3 dW sW
  go_enter Try.func67, Try.ntmps67
  go_wp2_with (rw [← HW.out])
  refine h1.mono ?_
  rintro e w1 ⟨v1, b1, rfl, L, o1, q1, hb1, n1, d1, s1⟩
  have h2 := iAddIf b1 n L M v1 _ (k := k + 6) s1 hb1 n1.1 (HM.out.did s1.did) (by omega)
  obtain ⟨⟨c1, c2⟩, c3, _⟩ := JC.out w1 _ o1 s1.did
  clear h1 n1 d1
  go_wp2_with fail
  refine h2.mono ?_
  rintro e w2 ⟨v2, b2, rfl, D, o2, q2, _, n2, d2, s2⟩
  have h3 := iAddIf x n D U v2 _ (k := k + 5) s2 hx n2.1 (HU.out.did s2.did) (by omega)
  obtain ⟨⟨c1, c2⟩, c3, _⟩ := JC.out w2 _ o2 s2.did
  clear h2 n2 d2 s1
  go_wp2_with fail
  refine h3.mono ?_
  rintro e w3 ⟨v3, ov, rfl, X, o3, q3, hov, n3, d3, s3⟩
  have h4 := iSub n X M v3 _ (k := k + 4) s3 n3.1 (HM.out.did s3.did) (by omega)
  obtain ⟨⟨c1, c2⟩, c3, _⟩ := JC.out w3 _ o3 s3.did
  have N3 := toHid n3
  clear h3 n3 d3 s2
  go_wp2_with fail
  refine h4.mono ?_
  rintro e w4 ⟨v4, b4, rfl, Y, o4, q4, _, n4, d4, s4⟩
  have hles := les_bits X M ov hov
  rw [← q4.out.2] at hles
  have hT1 : lesT X M ov ≤ 1 := by unfold lesT; split <;> omega
  obtain ⟨T, hT⟩ : ∃ T, T = lesT X M ov := ⟨_, rfl⟩
  rw [← hT] at hles hT1
  have HT := toHid hT
  have h5 := iSelect T n Y X v4 v3 (k := k + 3) s4 hT1 n4.1 (N3.out.1.did d4) (by omega)
  obtain ⟨⟨c1, c2⟩, c3, _⟩ := JC.out w4 _ o4 s4.did
  clear h4 n4 d4 s3 hT
  go_wp2_with fail
  refine h5.mono ?_
  rintro e w5 ⟨v5, rfl, S, o5, q5, n5, d5, s5⟩
  obtain ⟨so, sc, rfl⟩ := n5.1.shape
  obtain ⟨_, _, _, e1, _, _, _, _, hnum⟩ := n5.1.1.1.open
  cases e1
  obtain ⟨sb, soff, rfl, hs0⟩ := digs_at (hnum 0 hn0) hn0
  have hdg : dig 18446744073709551616 S 0 = S % 18446744073709551616 := by unfold dig; rw [Nat.pow_zero, Nat.div_one]
  rw [hdg, Nat.add_zero] at hs0
  have hand := and_one_u64 ((S % 18446744073709551616 : Nat) : Int) (by omega) (by omega)
  obtain ⟨p, hp⟩ : ∃ p, p = S % 2 := ⟨_, rfl⟩
  rw [show ((S % 18446744073709551616 : Nat) : Int) % 2 = (p : Int) by omega] at hand
  have HP := toHid hp
  have hp1 : p ≤ 1 := by omega
  have JS : Hid (∀ W' m' o', Did w5 o5 m' W' o' → W'.cell? ⟨sb, soff, none⟩ = some (.int .u64 ((S % 18446744073709551616 : Nat) : Int))) := fun W' m' o' d => by
    obtain ⟨_, _, _, e1, _, _, _, _, hnum'⟩ := (n5.1.did d).1.1.open
    cases e1
    obtain ⟨_, _, e2, hs1⟩ := digs_at (hnum' 0 hn0) hn0
    cases e2
    rw [hdg, Nat.add_zero] at hs1
    exact hs1
  have h6 := fun W' (kk : Kept Nought w5 W') => iAddIf p n S M _ _ (k := k + 2) (s5.grew kk) hp1 (n5.1.grew kk) ((HM.out.did s5.did).grew kk) (by omega)
  obtain ⟨⟨c1, c2⟩, c3, _⟩ := JC.out w5 _ o5 s5.did
  clear h5 n5 d5 s4 hp hnum N3 hdg
  generalize S % 18446744073709551616 = S0 at *
  go_wp2_with fail
  go_region_held3 (fun w' => w'.cell? ⟨w.heap.size + 1, 0, none⟩ = some (.slice ao n mcap) ∧ w'.cell? ⟨sb, soff, none⟩ = some (.int .u64 (S0 : Int)))
    (((try dsimp only); (repeat' apply And.intro) <;> first | (go_keep; done) | assumption))
    (first
    | (go_at_call 87; refine (h6 _ ?_).mono ?_; (exact kdrew (kself _)); rintro e w6 ⟨v6, o3', rfl, E, o6, q6, ho3', n6, d6, s6⟩; obtain ⟨⟨c1', c2'⟩, c3', _⟩ := JC.out w6 _ o6 s6.did; have hs6 := JS.out w6 _ o6 (Did.after (kdrew (kself _)) d6)))
  all_goals
    have h7 := iRight o3' n E v6 (k := k + 1) s6 ho3' n6.1 (by omega)
    clear h6 d6 n6 s5 c1 c2 c3 hs0
    go_wp2_with fail
    refine h7.mono ?_
    rintro e w7 ⟨v7, b7, rfl, V', o7, q7, n7, d7, s7⟩
    obtain ⟨⟨c1, c2⟩, c3, _⟩ := JC.out w7 _ o7 s7.did
    have h8 := iSelect sw n V U _ _ (k := k) s7 hsw (HV.out.did s7.did) (HU.out.did s7.did) (by omega)
    have N7 := toHid n7
    have T7 := toHid s7.room.1
    clear h7 n7 d7 s6 c1' c2' c3' hs6
    go_wp2_with fail
    refine h8.mono ?_
    rintro e w8 ⟨v8, rfl, U', o8, q8, n8, d8, s8⟩
    obtain ⟨_, _, c4⟩ := JC.out w8 _ o8 s8.did
    have n7' := N7.out.did d8 T7.out
    obtain ⟨uo', uc', rfl⟩ := n8.1.shape
    obtain ⟨vo', vc', rfl⟩ := n7'.1.shape
    obtain ⟨f0, f1⟩ := frees2 c4
    obtain ⟨g0, g1⟩ := cells2 c4
    have c5 := put2 c4 (.slice uo' n uc') (.slice vo' n vc')
    obtain ⟨t0, t1⟩ := cells2 c5
    have kp := kept2 w8 (w.heap.size + 1 + 1) (.slice uo' n uc') (.slice vo' n vc')
    have hap := cells_apart c4 s8.room.1 (by decide) (by decide)
    have N8 := toHid (n8.put c4 (by decide) kp)
    have N7 := toHid (n7'.put c4 (by decide) kp)
    have D8 : Hid (Did w o (List.replicate 8 (1, (n : Int), 0)) ((w8.setCell ⟨w.heap.size + 1 + 1, 0, none⟩ (.slice uo' n uc')).setCell ⟨w.heap.size + 1 + 1, 1, none⟩ (.slice vo' n vc')) o8) := (Did.after HK.out s8.did).wroteNew kp (by omega) hap
    have HC : Hid (CoStep n M U V sw od V') := fun hM h2 hU hV => by
      have e4 := q4.out
      have e5 := q5.out
      have e6 := q6.out
      have e7 := q7.out
      rw [e4.1, HT.out] at e5
      rw [HP.out] at e6
      exact co_num (n := n) (Q := 18446744073709551616 ^ n) (B64 n) hM h2 hU hV HSO.out q1.out.1 q1.out.2 q2.out.1 q3.out.1 q3.out.2 e5 e6.1 e6.2 e7
    clear h8 n8 n7' c4 c5 kp hap s7 s8 d8 c1 c2 c3
    go_wp2_with fail
    refine bodyPost_ret (v := .agg #[.slice uo' n uc', .slice vo' n vc']) (by simp [results, Try.results67, go_sem, t0, t1]) rfl ⟨_, _, rfl, U', V', o8, ⟨q8.out, HC.out⟩, N8.out, N7.out, D8.out, HS.out.next D8.out (by simp; omega)⟩
end Go.Proofs.Ytamkkmifbajdfaa
