/- Package sieve: Primes, divides, Factor. -/
import Derived.Test.YtcjaafmlflonhaaGreatDoorSiv2
import Derived.Test.YtcjaafmlflonhaaGreatDoorPrG
namespace Go.Proofs.YtcjaafmlflonhaaGreatDoor
open Go.RowKit Go.Shelf

attribute [local go_sem] Oper.semAt_some

theorem boxed_put {W : World} {b l : Nat} {t : TypeId} {v : Value} (h : Boxed W b t v) (o : Obj) (hne : b ≠ l) : Boxed (W.putObj l o) b t v := (World.putObj_heap_other (fun e => hne e)).trans h

theorem kept_turn {w W : World} (k : Kept Nought w W) (l : Nat) (o : Obj) (hl : w.heap.size ≤ l) : Kept Nought w (W.putObj l o) := k.next (kept_put W l o) (fun x hx e => by
  have e' : x = l := e
  omega)

/-- divides. -/
theorem sDivides (ao : Option Addr) (L cap : Nat) (xs : List Nat) (p : Nat) (hp : 1 ≤ p) (hpb : p ≤ 10000) (R : Bool) (hR : R = decide (val 18446744073709551616 xs % p = 0)) (w : World) (hu : Row .u64 w (.slice ao L cap) xs) (hdx : Digs 18446744073709551616 xs) (hL : L ≤ 1000000) :
    Calls Tryz.prog 87 #[.int .i64 (p : Nat), .slice ao L cap] w fun e w' => e = .returned (.bool R) ∧ Kept Nought w w' := by
  obtain ⟨r, hr⟩ : ∃ r, r = val 18446744073709551616 xs % p := ⟨_, rfl⟩
  have J := pSmall ao L cap xs p r 0 (by omega) (by rw [if_neg (by omega)]; exact hr) (by rw [if_neg (by omega)]) w hu hdx hL
  have gc : IntKind.u64.wrap (p : Int) = (p : Int) := by rw [IntKind.wrap_u64]; omega
  rw [← hr] at hR
  have HR : Hid (R = ((r : Int) == 0)) := by
    unfold Hid
    rw [hR]
    by_cases h : r = 0
    · subst h; rfl
    · rw [decide_eq_false h]
      symm
      simpa using h
  clear hR hr hu hdx hL
  go_enter Tryz.func87, Tryz.ntmps87
  go_wp2_with fail
  refine J.mono ?_
  rintro e w1 ⟨rfl, k1⟩
  clear J
  go_wp2_with fail
  go_ret
  exact ⟨by rw [HR.out]; rfl, k1⟩

theorem fac_hit {X m p : Nat} (hp : PrimeN p) (hm : p ≤ m) (hd : X % p = 0) (h : ∀ q ∈ primesTo (p - 1), X % q ≠ 0) : IsFac X m p :=
  .inr ⟨hp, hm, hd, fun q hq hlt => h q (primesTo_mem.2 ⟨hq, by omega⟩)⟩

theorem fac_miss {X m : Nat} (h : ∀ q ∈ primesTo m, X % q ≠ 0) : IsFac X m 0 := .inl ⟨rfl, fun q hq hle => h q (primesTo_mem.2 ⟨hq, hle⟩)⟩

/-- What stands between two rounds of Factor: the number's box, the answer's box. -/
structure BtwF (w W : World) (gx gr : Nat) (v : Value) : Prop where
  xb : Boxed W gx 31 v
  rb : Boxed W gr 3 (.int .i64 0)
  old : Kept Nought w W

theorem BtwF.kept {S : Nat → Prop} {w W W' : World} {gx gr : Nat} {v : Value} (b : BtwF w W gx gr v) (k : Kept S W W') (h0 : ¬ S gx) (h1 : ¬ S gr) (ho : ∀ x, x < w.heap.size → ¬ S x) : BtwF w W' gx gr v :=
  ⟨boxed_but b.xb k h0, boxed_but b.rb k h1, b.old.next k (fun x hx e => (ho x hx e).elim)⟩

set_option maxRecDepth 100000 in
set_option maxHeartbeats 4000000 in
/-- Factor. -/
theorem sFactor (ao : Option Addr) (L cap : Nat) (xs : List Nat) (N : Int) (w : World) (hu : Row .u64 w (.slice ao L cap) xs) (hdx : Digs 18446744073709551616 xs) (hL : L ≤ 1000000) :
    Calls Tryz.prog 57 #[.slice ao L cap, .int .i64 N] w fun e w' => ∃ R : Nat, e = .returned (.int .i64 (R : Int)) ∧ IsFac (val 18446744073709551616 xs) (upTo N) R ∧ Kept Nought w w' := by
  obtain ⟨X, hX⟩ : ∃ X, X = val 18446744073709551616 xs := ⟨_, rfl⟩
  have JD : Hid (∀ (p : Nat) (R : Bool) (W : World), 1 ≤ p → p ≤ 10000 → R = decide (X % p = 0) → Kept Nought w W → Calls Tryz.prog 87 #[.int .i64 (p : Nat), .slice ao L cap] W fun e w' => e = .returned (.bool R) ∧ Kept Nought W w') := fun p R W h1 h2 h3 k => sDivides ao L cap xs p h1 h2 R (by rw [← hX]; exact h3) W (hu.grew k) hdx hL
  rw [← hX]
  obtain ⟨m, hm⟩ : ∃ m, m = upTo N := ⟨_, rfl⟩
  have hm4 : m ≤ 10000 := by rw [hm]; exact upTo_le N
  clear hX hu hdx hL
  refine (callsIn_wide (n := 9)).1 ?_
  refine callsIn_of_wp_marks Tryz.func57 rfl trivial ?_ rfl
  simp only [Tryz.ntmps57, List.size_toArray, List.length_cons, List.length_nil, Nat.reduceAdd, Nat.reduceSub, Array.replicate_succ, Array.replicate_zero, List.push_toArray, List.append_toArray, List.nil_append, List.cons_append]
  refine wpIn_wide.2 ?_
  have bX := (Boxed.new w 31 (.slice ao L cap)).alloc (.cells #[.int .i64 0] 3)
  have bR := Boxed.new (w.alloc (.cells #[.slice ao L cap] 31)) 3 (.int .i64 0)
  have kA : Kept Nought w ((w.alloc (.cells #[.slice ao L cap] 31)).alloc (.cells #[.int .i64 0] 3)) := ((Kept.refl Nought w).alloc _).alloc _
  have sA : ((w.alloc (.cells #[.slice ao L cap] 31)).alloc (.cells #[.int .i64 0] 3)).heap.size = w.heap.size + 2 := by simp
  simp only [World.size_alloc] at bR
  have JP := sPrimes N ((w.alloc (.cells #[.slice ao L cap] 31)).alloc (.cells #[.int .i64 0] 3))
  rw [sA] at JP
  go_wp2_with fail
  refine JP.mono ?_
  rintro e W2 ⟨rfl, b0, k2, s2⟩
  have HB : Hid (BtwF w W2 w.heap.size (w.heap.size + 1) (.slice ao L cap)) := ⟨boxed_grew bX k2, boxed_grew bR k2, kA.trans k2⟩
  clear JP bX bR kA sA k2
  obtain ⟨gx, hgx⟩ : ∃ gx, gx = w.heap.size := ⟨_, rfl⟩
  obtain ⟨gr, hgr⟩ : ∃ gr, gr = w.heap.size + 1 := ⟨_, rfl⟩
  obtain ⟨gl, hgl⟩ : ∃ gl, gl = w.heap.size + 2 := ⟨_, rfl⟩
  have HG : Hid (gx = w.heap.size ∧ gr = w.heap.size + 1 ∧ gl = w.heap.size + 2 ∧ W2.heap.size = w.heap.size + 3) := ⟨hgx, hgr, hgl, by omega⟩
  rw [← hgl] at b0 ⊢
  rw [← hgr] at HB ⊢
  rw [← hgx] at HB ⊢
  have HM := toHid hm
  clear hgx hgr hgl s2 hm
  go_wp2_with fail
  refine (wpIn_wide (n := 9)).1 ?_
  refine wpIn_range_new (n := 9) (by omega) (gf := 124) (lb := #[.pointer (some ⟨gl, 0, none⟩)]) rfl (enters_of Tryz.func124 (by kernel_rfl) rfl)
    (sPrimes1 8 (by omega) gl N W2 (fun b => b = gr) b0 ?q0 ?q1) (fun _ => rfl) ?hSb ?hT (fun _ _ _ _ _ o' hx hl ho => ⟨hx.1, hx.2.1, hx.2.2.1, by rw [World.putObj_size]; exact hx.2.2.2⟩)
    (fun pre W => Hid (∀ q ∈ pre, X % q ≠ 0) ∧ Hid (BtwF w W gx gr (.slice ao L cap))) (fun c _ W => c = .ret ∧ ∃ R : Nat, IsFac X m R ∧ Boxed W gr 3 (.int .i64 (R : Int)) ∧ Kept Nought w W)
    ?low ?turn ?lowx ?lows ⟨fun q hq => (by cases hq), HB.out⟩ ?act ?assign ?body ?done ?stop
  case q0 => have := HG.out; omega
  case q1 => have := HG.out; omega
  case hSb => have := HG.out; constructor <;> omega
  case hT => constructor <;> omega
  case low =>
    rintro s A C ⟨h1, h2⟩ k
    have := HG.out
    exact ⟨h1, h2.out.kept k (by omega) (by omega) (fun x hx => by omega)⟩
  case turn =>
    rintro s A l o o' ⟨h1, h2⟩ hl hA ho
    have := HG.out
    exact ⟨h1, boxed_put h2.out.xb o' (by omega), boxed_put h2.out.rb o' (by omega), kept_turn h2.out.old l o' (by omega)⟩
  case lowx =>
    rintro c s A l o o' ⟨h1, R, h2, h3, h4⟩ hl hA ho
    have := HG.out
    exact ⟨h1, R, h2, boxed_put h3 o' (by omega), kept_turn h4 l o' (by omega)⟩
  case lows =>
    rintro s A l o o' h1 hl hA ho
    exact h1
  case assign =>
    intro l x W K hK
    gi_wp2
    exact hK
  case body =>
    rintro l pre p W ⟨hK, hI⟩ ⟨hpre, hP, hpm, hsz⟩
    have hpm' : p ≤ m := by rw [HM.out]; exact hpm
    have hp2 := hP.1
    have cx := hI.out.xb.cell
    by_cases hd : X % p = 0
    · have J := JD.out p true W (by omega) (by omega) (by rw [decide_eq_true hd]) hI.out.old
      have HF : Hid (IsFac X m p) := fac_hit hP hpm' hd (by rw [← hpre]; exact hK.out)
      clear hd hP hpre hK hpm hsz
      gi_wp2_with fail
      refine ⟨trivial, ?_⟩
      refine (CallsIn.inRound l (callsIn_wide.2 J)).mono ?_
      rintro e w1 ⟨rfl, k1⟩
      have I1 := hI.out.kept k1 (fun f => f) (fun f => f) (fun _ _ f => f)
      have cr := I1.rb.cell
      have fr := I1.rb.frozen
      have HKS : Hid (Kept (fun b => b = gr) W (w1.setCell ⟨gr, 0, none⟩ (.int .i64 (p : Int)))) := (k1.any (S := fun b => b = gr)).setCell ⟨gr, 0, none⟩ (fun _ => rfl) _
      have HKO : Hid (Kept Nought w (w1.setCell ⟨gr, 0, none⟩ (.int .i64 (p : Int)))) := kept_new I1.old ((Kept.refl (fun b => b = gr) _).setCell ⟨gr, 0, none⟩ (fun _ => rfl) _) (by have := HG.out; omega)
      have HBR : Hid (Boxed (w1.setCell ⟨gr, 0, none⟩ (.int .i64 (p : Int))) gr 3 (.int .i64 (p : Int))) := I1.rb.set (.int .i64 (p : Int))
      clear J hI I1 k1 cx
      gi_wp2_with fail
      exact ⟨HKS.out, rfl, p, HF.out, HBR.out, HKO.out⟩
    · have J := JD.out p false W (by omega) (by omega) (by rw [decide_eq_false hd]) hI.out.old
      have HN : Hid (∀ q ∈ pre ++ [p], X % q ≠ 0) := fun q hq => by
        rcases List.mem_append.1 hq with h | h
        · exact hK.out q h
        · rw [List.mem_singleton] at h
          subst h
          exact hd
      clear hd hP hpre hK hpm hsz
      gi_wp2_with fail
      refine ⟨trivial, ?_⟩
      refine (CallsIn.inRound l (callsIn_wide.2 J)).mono ?_
      rintro e w1 ⟨rfl, k1⟩
      have I1 := toHid (hI.out.kept k1 (fun f => f) (fun f => f) (fun _ _ f => f))
      have HK1 := toHid (k1.any (S := fun b => b = gr))
      clear J hI k1 cx
      gi_wp2_with fail
      exact ⟨HK1.out, HN, I1⟩
  case done =>
    rintro D s W hD hs ⟨hK, hI⟩ hDD
    have hf : IsFac X m 0 := fac_miss (by rw [HM.out, ← (show s = primesTo (upTo N) from hs)]; exact hK.out)
    have HF := toHid hf
    have cr := hI.out.rb.cell
    have fr := hI.out.rb.frozen
    have k3 : Kept (fun b => b = gr) W (W.setCell ⟨gr, 0, none⟩ (.int .i64 0)) := (Kept.refl (fun b => b = gr) _).setCell ⟨gr, 0, none⟩ (fun _ => rfl) _
    have hDD2 := (k3.block D (lt_of_block hDD) (by have := HG.out; omega)).trans hDD
    have HBR : Hid (Boxed ((W.setCell ⟨gr, 0, none⟩ (.int .i64 0)).putObj D (.deferred none)) gr 3 (.int .i64 0)) := boxed_put (hI.out.rb.set (.int .i64 0)) _ (by have := HG.out; omega)
    have HKO : Hid (Kept Nought w ((W.setCell ⟨gr, 0, none⟩ (.int .i64 0)).putObj D (.deferred none))) := kept_turn (kept_new hI.out.old k3 (by have := HG.out; omega)) D _ (by have := HG.out; omega)
    have HD2 := toHid hDD2
    clear hf hK hI k3 hDD2 hDD HB b0 hs
    go_wp2_with fail
    refine ⟨by simp, .inl ⟨_, _, rfl, run_takeDeferred HD2.out, ?_⟩⟩
    have q1 := HBR.out.cell
    rw [← HM.out]
    refine ⟨.int .i64 0, ?_, 0, rfl, HF.out, HKO.out⟩
    simp [results, Tryz.f57, go_sem, q1]
  case stop =>
    rintro D c s W hD ⟨rfl, R, hf, hb, hk⟩ hDD
    have HF := toHid hf
    have HBR : Hid (Boxed (W.putObj D (.deferred none)) gr 3 (.int .i64 (R : Int))) := boxed_put hb _ (by have := HG.out; omega)
    have HKO : Hid (Kept Nought w (W.putObj D (.deferred none))) := kept_turn hk D _ (by have := HG.out; omega)
    clear hf hb hk
    gi_wp2
    refine ⟨by simp, .inl ⟨_, _, rfl, run_takeDeferred hDD, ?_⟩⟩
    have q1 := HBR.out.cell
    rw [← HM.out]
    refine ⟨.int .i64 (R : Int), ?_, R, rfl, HF.out, HKO.out⟩
    simp [results, Tryz.f57, go_sem, q1]

end Go.Proofs.YtcjaafmlflonhaaGreatDoor
