/- Package sieve: Primes, Passes. -/
import Derived.Test.YtboogjaiigihdaaSiv3
import Derived.Test.YtboogjaiigihdaaNatE
namespace Go.Proofs.Ytboogjaiigihdaa
open Go.RowKit Go.Shelf

attribute [local go_sem] Oper.semAt_some

/-- A slice of numbers of the call's own, in its box. -/
structure BtwL (w W : World) (gl base : Nat) (ps : List Nat) : Prop where
  row : ∃ v, Boxed W gl 23 v ∧ W.ownsRow base 3 1 v ps.length (ps.map fun z => .int .i64 (z : Nat))
  old : Kept Nought w W

theorem own_but {S : Nat → Prop} {W W' : World} {base n : Nat} {e : TypeId} {v : Value} {xs : List Value} (h : W.ownsRow base e 1 v n xs) (k : Kept S W W') (hs : ∀ b, base ≤ b → ¬ S b) : W'.ownsRow base e 1 v n xs := by
  refine ⟨h.1, ?_⟩
  rcases h.2 with h0 | ⟨g, cap, cur, rfl, hb, hg, h3⟩
  · exact .inl h0
  · exact .inr ⟨g, cap, cur, rfl, hb, (k.block g (lt_of_block hg) (hs g hb)).trans hg, h3⟩

set_option maxRecDepth 100000 in
set_option maxHeartbeats 4000000 in
/-- Primes. -/
theorem sPrimesAll (N : Int) (w : World) :
    Calls Try.prog 8 #[.int .i64 N] w fun e w' => ∃ v', e = .returned v' ∧ Row .i64 w' v' (primesTo (upTo N)) ∧ Kept Nought w w' := by
  obtain ⟨i0, hi0, hz0, hz1, hz2⟩ := info_parts Try.info3
  obtain ⟨m, hm⟩ : ∃ m, m = upTo N := ⟨_, rfl⟩
  have hm4 : m ≤ 10000 := by rw [hm]; exact upTo_le N
  refine (callsIn_wide (n := 9)).1 ?_
  refine callsIn_of_wp_marks Try.func8 rfl trivial ?_ rfl
  simp only [Try.ntmps8, List.size_toArray, List.length_cons, List.length_nil, Nat.reduceAdd, Nat.reduceSub, Array.replicate_succ, Array.replicate_zero, List.push_toArray, List.append_toArray, List.nil_append, List.cons_append]
  refine wpIn_wide.2 ?_
  have bL := Boxed.new w 23 (.slice none 0 0)
  have kA : Kept Nought w (w.alloc (.cells #[.slice none 0 0] 23)) := (Kept.refl Nought w).alloc _
  have sA : (w.alloc (.cells #[.slice none 0 0] 23)).heap.size = w.heap.size + 1 := by simp
  have JP := sPrimes N (w.alloc (.cells #[.slice none 0 0] 23))
  rw [sA] at JP
  go_wp2_with fail
  refine JP.mono ?_
  rintro e W2 ⟨rfl, b0, k2, s2⟩
  have HB : Hid (BtwL w W2 w.heap.size (W2.heap.size + 3) []) := ⟨⟨_, boxed_grew bL k2, World.ownsRow_nil _ _ _ _⟩, kA.trans k2⟩
  clear JP bL kA sA k2
  obtain ⟨gl, hgl⟩ : ∃ gl, gl = w.heap.size := ⟨_, rfl⟩
  obtain ⟨gn, hgn⟩ : ∃ gn, gn = w.heap.size + 1 := ⟨_, rfl⟩
  have HG : Hid (gl = w.heap.size ∧ gn = w.heap.size + 1 ∧ W2.heap.size = w.heap.size + 2) := ⟨hgl, hgn, by omega⟩
  rw [← hgn] at b0 ⊢
  rw [← hgl] at HB ⊢
  have HM := toHid hm
  clear hgl hgn s2 hm
  go_wp2_with fail
  refine (wpIn_wide (n := 9)).1 ?_
  refine wpIn_range_new (n := 9) (by omega) (gf := 29) (lb := #[.pointer (some ⟨gn, 0, none⟩)]) rfl (enters_of Try.func29 (by kernel_rfl) rfl)
    (sPrimes1 8 (by omega) gn N W2 (fun b => b = gl ∨ W2.heap.size + 3 ≤ b) b0 ?q0 ?q1) (fun _ => rfl) ?hSb ?hT (fun _ _ _ _ _ o' hx hl ho => ⟨hx.1, hx.2.1, hx.2.2.1, by rw [World.putObj_size]; exact hx.2.2.2⟩)
    (fun pre W => Hid (BtwL w W gl (W2.heap.size + 3) pre)) (fun _ _ _ => False)
    ?low ?turn ?lowx ?lows HB.out ?act ?assign ?body ?done ?stop
  case q0 => have := HG.out; omega
  case q1 => have := HG.out; omega
  case hSb => have := HG.out; constructor <;> omega
  case hT => constructor <;> omega
  case low =>
    rintro s A C h k
    have := HG.out
    obtain ⟨v, h1, h2⟩ := h.out.row
    exact ⟨⟨v, boxed_but h1 k (by omega), own_but h2 k (fun b hb => by omega)⟩, h.out.old.next k (fun x hx e => by have e' : x = W2.heap.size + 2 := e; omega)⟩
  case turn =>
    rintro s A l o o' h hl hA ho
    have := HG.out
    obtain ⟨v, h1, h2⟩ := h.out.row
    exact ⟨⟨v, boxed_put h1 o' (by omega), ownsRow_putObj h2 o' hA ho⟩, kept_turn h.out.old l o' (by omega)⟩
  case lowx =>
    rintro c s A l o o' h
    exact h.elim
  case lows =>
    rintro s A l o o' h1 hl hA ho
    exact h1
  case assign =>
    intro l x W K hK
    gi_wp2
    exact hK
  case body =>
    rintro l pre p W hI ⟨hpre, hP, hpm, hsz⟩
    obtain ⟨v, hv, ho⟩ := hI.out.row
    have hlen : pre.length ≤ 10001 := by
      have h1 := primesTo_len (p - 1)
      rw [← hpre] at h1
      have h2 : p ≤ m := by rw [HM.out]; exact hpm
      omega
    have HOld := toHid hI.out.old
    have cl := hv.cell
    have fl := hv.frozen
    obtain ⟨B, hB⟩ : ∃ B, B = W2.heap.size + 3 := ⟨_, rfl⟩
    rw [← hB] at ho hsz ⊢
    have HBB := toHid hB
    have HGB : Hid (gl < B ∧ w.heap.size ≤ B) := by have := HG.out; constructor <;> omega
    have hnr := (hv.alloc (.cells #[.int .i64 (p : Int)] 3)).not_row (by decide) (ho.alloc (.cells #[.int .i64 (p : Int)] 3))
    obtain ⟨vo, vc, rfl⟩ := own_slice ho
    have HV := toHid hv
    clear hI hpre hP hpm hv hB
    gi_wp2_with (gi_at_builtin; refine wpListIn_append_own _ rfl _ _ 23 rfl B 3 i0 _ 1 8 Try.underlying23 hi0 hz0 hz1 hz2 rfl (by omega) _ pre.length _ rfl (ho.alloc _) ⟨W.heap.size, 0, none⟩ 1 1 [.int .i64 (p : Int)] rfl rfl (new1_cells W _ _) (by simp [Value.oneCell']) (by unfold maxLen; omega) (by omega) (by simp; omega) ?_; intro v' w1 ho1 hg1 _; have HK1 : Hid (Kept (fun b => b = gl ∨ B ≤ b) W w1) := ((Kept.refl (fun b => b = gl ∨ B ≤ b) W).alloc _).grown hg1 (fun b hb _ => .inr (ho.lt b hb).1); have hv1 : Boxed w1 gl 23 _ := (HV.out.alloc _).kept hg1 hnr; have cl1 := hv1.cell; have fl1 := hv1.frozen; obtain ⟨g', c', rfl⟩ := ownsRow_succ ho1; have HO1 := toHid ho1; have HV1 := toHid hv1; clear ho1 hg1 hv1 ho)
    have hte : (23 : TypeId) ≠ 3 := by decide
    have HF : Hid (BtwL w (w1.setCell ⟨gl, 0, none⟩ (.slice (some ⟨g', 0, none⟩) (pre.length + 1) c')) gl B (pre ++ [p])) := by
      refine ⟨⟨_, HV1.out.set _, ?_⟩, ?_⟩
      · rw [List.length_append, List.map_append]
        exact HO1.out.kept (grownBy_setCell' w1 gl _) (.inr (HV1.out.not_row hte HO1.out).symm)
      · exact (HOld.out.next HK1.out (fun x hx e => by have := HGB.out; have := HG.out; omega)).next ((Kept.refl (fun b => b = gl) w1).setCell ⟨gl, 0, none⟩ (fun _ => rfl) _) (fun x hx e => by have := HG.out; have e' : x = gl := e; omega)
    have HKF : Hid (Kept (fun b => b = gl ∨ B ≤ b) W (w1.setCell ⟨gl, 0, none⟩ (.slice (some ⟨g', 0, none⟩) (pre.length + 1) c'))) := HK1.out.setCell ⟨gl, 0, none⟩ (fun _ => .inl rfl) _
    clear HO1 HV1 HK1 HOld
    gi_wp2_with fail
    exact ⟨HKF.out, HF.out⟩
  case done =>
    rintro D s W hD hs hI hDD
    have hs' : s = primesTo (upTo N) := hs
    obtain ⟨v, hv, ho⟩ := hI.out.row
    have cl := hv.cell
    have HO2 := toHid (ownsRow_putObj ho (.deferred none) hDD rfl)
    have HKO : Hid (Kept Nought w (W.putObj D (.deferred none))) := kept_turn hI.out.old D _ (by have := HG.out; omega)
    have HDD := toHid hDD
    obtain ⟨vo, vc, rfl⟩ := own_slice ho
    have HSS := toHid hs'
    clear hI hv ho hDD HB b0 hs hs'
    go_wp2_with fail
    refine ⟨by simp, .inl ⟨_, _, rfl, run_takeDeferred HDD.out, ?_⟩⟩
    refine ⟨.slice vo s.length vc, ?_, _, rfl, ?_, HKO.out⟩
    · simp [results, Try.f8, go_sem]
    · rw [← HSS.out]
      exact Row.of_own HO2.out
  case stop =>
    rintro D c s W hD h
    exact h.elim

end Go.Proofs.Ytboogjaiigihdaa
