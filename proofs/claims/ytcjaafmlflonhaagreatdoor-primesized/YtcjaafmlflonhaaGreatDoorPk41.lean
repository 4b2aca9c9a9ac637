/- Put together of: PrF PrG Siv3 Siv5 Pro3. -/
import Derived.Test.YtcjaafmlflonhaaGreatDoorPk1
import Derived.Test.YtcjaafmlflonhaaGreatDoorPk7
import Derived.Test.YtcjaafmlflonhaaGreatDoorPk8
import Derived.Test.YtcjaafmlflonhaaGreatDoorPk11
import Derived.Test.YtcjaafmlflonhaaGreatDoorPk19
import Derived.Test.YtcjaafmlflonhaaGreatDoorPk24
import Derived.Test.YtcjaafmlflonhaaGreatDoorPk39
import Derived.Test.YtcjaafmlflonhaaGreatDoorPk40
import Derived.StillTailTactics
import Derived.BigRegion
import Derived.Deep.OwnRows

/- Package product: Small. -/
namespace Go.Proofs.YtcjaafmlflonhaaGreatDoor
open Go.RowKit

theorem drop_consB {B : Nat} {zs : List Nat} {j : Nat} (h : j < zs.length) : val B (zs.drop j) = zs.getD j 0 + B * val B (zs.drop (j + 1)) := by
  rw [List.drop_eq_getElem_cons h, List.getD_eq_getElem?_getD, List.getElem?_eq_getElem h]
  rfl

theorem small_step {B D : Nat} {zs : List Nat} {j : Nat} (h : j < zs.length) : val B (zs.drop j) % D = (val B (zs.drop (j + 1)) % D * B + zs.getD j 0) % D := by
  rw [drop_consB h, Nat.add_comm, Nat.mul_comm B, Nat.add_mod (val B (zs.drop (j + 1)) % D * B), Nat.mod_mul_mod, ← Nat.add_mod]

set_option maxRecDepth 20000 in
set_option maxHeartbeats 2000000 in
/-- What Small attempts. -/
theorem pSmall1 (ao : Option Addr) (L cap : Nat) (xs : List Nat) (D : Nat) (hD : D < 18446744073709551616) (bA bD bR : Nat) (w : World) (hu : Row .u64 w (.slice ao L cap) xs) (hdx : Digs 18446744073709551616 xs) (hL : L ≤ 1000000)
    (hA : Box w bA (.slice ao L cap) 31) (hBD : Box w bD (.int .u64 (D : Nat)) 23) (hR : Box w bR (.int .u64 0) 23) (hAR : bA ≠ bR) (hDR : bD ≠ bR) (hap : xs ≠ [] → ∀ b, (Value.slice ao L cap).ownBlock = some b → b ≠ bR) :
    Calls Tryz.prog 60 #[.pointer (some ⟨bD, 0, none⟩), .pointer (some ⟨bA, 0, none⟩), .pointer (some ⟨bR, 0, none⟩)] w fun e w' =>
      (D ≠ 0 ∧ e = .returned (.tuple #[]) ∧ Kept (fun b => b = bR) w w' ∧ Box w' bR (.int .u64 (val 18446744073709551616 xs % D : Nat)) 23) ∨ (D = 0 ∧ e = .panicked [refusal 1] ∧ w' = w) := by
  have cA := hA.cell
  have cD := hBD.cell
  have cR := hR.cell
  have fR := hR.free
  by_cases h0 : D = 0
  · subst h0
    have hY := pRefuseYes 1 w
    clear hu hdx
    go_enter Tryz.func60, Tryz.ntmps60
    go_wp2_with fail
    refine hY.mono ?_
    rintro e w' ⟨rfl, rfl⟩
    exact ⟨rfl, .inr ⟨by first | rfl | trivial, rfl, rfl⟩⟩
  · have hN := pRefuseNo 1 w
    have g0 : ((D : Int) == 0) = false := by simp; omega
    obtain ⟨_, _, _, e1, hLx, _, _, _, _⟩ := hu.open
    cases e1
    have eL := toHid hLx.out
    have HA := toHid hA
    have HBD := toHid hBD
    have HR := toHid hR
    have HU := toHid hu
    have hxb : Hid (∀ k, xs.getD k 0 < 18446744073709551616) := fun k => hdx.getD (by omega) _
    have hD0 : 0 < D := by omega
    clear hu hdx hLx hA hBD hR h0
    go_enter Tryz.func60, Tryz.ntmps60
    go_wp2_with fail
    refine hN.mono ?_
    rintro e w1 ⟨rfl, rfl⟩
    clear hN
    go_wp2_with fail
    go_loopw [9] (fun i wr => ∃ (k : Nat), k ≤ L ∧ i = .int .i64 (k : Int) ∧ Kept (fun b => b = bR) w1 wr ∧ Box wr bR (.int .u64 (val 18446744073709551616 (xs.drop (L - k)) % D : Nat)) 23) (fun i _ => L - (intOf i).toNat)
    case atStart => exact ⟨0, Nat.zero_le _, rfl, Kept.refl _ _, by rw [Nat.sub_zero, List.drop_of_length_le (by have := eL.out; omega)]; simpa [val] using HR.out⟩
    case round =>
      clear cA cD cR fR
      obtain ⟨k, hk, rfl, hkp, hbR⟩ := hrel
      by_cases hkn : k < L
      · have hk0 : (0 : Int) ≤ (k : Int) := Int.natCast_nonneg _
        have hk1 : (k : Int) < (L : Int) := by omega
        have cA := (HA.out.kept hkp hAR).cell
        have cD := (HBD.out.kept hkp hDR).cell
        have cR := hbR.cell
        obtain ⟨j, hj⟩ : ∃ j, j = L - 1 - k := ⟨_, rfl⟩
        obtain ⟨_, _, _, e2, _, _, _, _, hnum⟩ := (HU.out.kept' hkp hap).open
        cases e2
        obtain ⟨b2, off2, rfl, hc2⟩ := hnum j (by omega)
        have hst := small_step (B := 18446744073709551616) (D := D) (zs := xs) (j := j) (by have := eL.out; omega)
        rw [show j + 1 = L - k by omega] at hst
        have hx := hxb.out j
        obtain ⟨r, hr⟩ : ∃ r, r = val 18446744073709551616 (xs.drop (L - k)) % D := ⟨_, rfl⟩
        rw [← hr] at hst cR hbR
        obtain ⟨r2, hr2⟩ : ∃ r2, r2 = val 18446744073709551616 (xs.drop j) % D := ⟨_, rfl⟩
        rw [← hr2] at hst
        have hRem := fun W => bRem r (xs.getD j 0) D r2 hx hD hD0 hst W
        obtain ⟨L1, hL1⟩ : ∃ L1, L1 = L - 1 := ⟨_, rfl⟩
        have gw1 : IntKind.i64.wrap ((L : Int) - 1) = (L1 : Int) := by rw [IntKind.wrap_i64]; omega
        have gw2 : IntKind.i64.wrap ((L1 : Int) - (k : Int)) = (j : Int) := by rw [IntKind.wrap_i64]; omega
        have gj2 : (j : Int) < (L : Int) := by omega
        have HJ : Hid (r2 = val 18446744073709551616 (xs.drop (L - (k + 1))) % D) := by unfold Hid; rw [hr2, show L - (k + 1) = j by omega]
        have HBR := toHid hbR
        have fR := hbR.free
        clear hst hr hr2 hj hnum hbR hxb hL1
        generalize xs.getD j 0 = x at *
        go_wp2_with fail
        go_still_tail 10, (by kernel_rfl)
        change wpList _ _ _ _ _ wr.drew
        go_wp2_with fail
        refine (hRem _).mono ?_
        rintro e w7 ⟨rfl, m, rfl⟩
        have HB7 := toHid (HBR.out.drew.grew ((Kept.refl Nought wr.drew).drewN m))
        have c7 := HB7.out.cell
        have f7 := HB7.out.free
        have k7 := toHid (hkp.drew.drewN m)
        generalize wr.drew.drewN m = W7 at *
        go_wp2_with fail
        go_roundw
        case rel => exact ⟨k + 1, by omega, by go_num, k7.out.trans (kept_box _ _ _), by rw [← HJ.out]; exact HB7.out.set _⟩
        case measure => simp [intOf]; omega
      · have hk1 : ¬ (k : Int) < (L : Int) := by omega
        obtain rfl : k = L := by omega
        rw [Nat.sub_self, List.drop_zero] at hbR
        clear hxb
        go_wp2_with fail
        go_end0
        exact .inl ⟨by omega, rfl, hkp, hbR⟩

end Go.Proofs.YtcjaafmlflonhaaGreatDoor


/- Package product: Small. -/
namespace Go.Proofs.YtcjaafmlflonhaaGreatDoor
open Go.RowKit

set_option maxRecDepth 20000 in
set_option maxHeartbeats 2000000 in
/-- Small. -/
theorem pSmall (ao : Option Addr) (L cap : Nat) (xs : List Nat) (D R E : Nat) (hD : D < 18446744073709551616) (hR : R = if D = 0 then 0 else val 18446744073709551616 xs % D) (hE : E = if D = 0 then 1 else 0) (w : World) (hu : Row .u64 w (.slice ao L cap) xs) (hdx : Digs 18446744073709551616 xs) (hL : L ≤ 1000000) :
    Calls Tryz.prog 31 #[.slice ao L cap, .int .u64 (D : Nat)] w fun e w' => e = .returned (.tuple #[.int .u64 (R : Nat), .int .i64 (E : Nat)]) ∧ Kept Nought w w' := by
  have hmf : ∀ (fn : Fn) (first cap : Array Value) (w : World), (Instr.makeFunc fn first cap).run Tryz.prog w = .ok (.func fn first cap) w := fun _ _ _ _ => rfl
  have hbx := boxes3 w (.slice ao L cap) (.int .u64 (D : Nat)) (.int .u64 0) 31 23 23
  have he : ∀ args w, (callFunc 60 args).run Tryz.prog w = .ok (.enter 60 args) w := fun _ _ => by simp [go_sem]
  have HR := toHid hR
  have HE := toHid hE
  clear hR hE
  go_enter Tryz.func31, Tryz.ntmps31
  go_wp2_with fail
  generalize ((w.alloc (.cells #[.slice ao L cap] 31)).alloc (.cells #[.int .u64 (D : Nat)] 23)).alloc (.cells #[.int .u64 0] 23) = W at *
  obtain ⟨k0, x1, x2, x3, hs⟩ := hbx
  have k1 := k0.alloc (.cells #[.int .i64 0] 32)
  have xe := Box.new W (.int .i64 0) 32
  have hAr : xs ≠ [] → ∀ b, (Value.slice ao L cap).ownBlock = some b → b ≠ w.heap.size + 1 + 1 := fun h b hb e => by have := hu.lt h b hb; omega
  have h1 := pSmall1 ao L cap xs D hD _ _ _ _ (hu.grew k1) hdx hL (x1.alloc _) (x2.alloc _) (x3.alloc (.cells #[.int .i64 0] 32)) (by omega) (by omega) hAr
  refine (pAttempt 60 _ W (fun n W' => n = (E : Int) ∧ Kept Nought w W' ∧ Box W' (w.heap.size + 1 + 1) (.int .u64 (R : Nat)) 23) he (h1.mono ?_)).mono ?_
  · rintro e w' (⟨hl, rfl, hk, hb⟩ | ⟨hl, rfl, rfl⟩)
    · have e1 := HR.out
      have e2 := HE.out
      rw [if_neg hl] at e1 e2
      rw [← e1] at hb
      exact ⟨xe.kept hk (by omega), .inl ⟨rfl, by rw [e2]; rfl, k1.next hk (fun x hx e => by omega), hb⟩⟩
    · have e1 := HR.out
      have e2 := HE.out
      rw [if_pos hl] at e1 e2
      exact ⟨xe, .inr ⟨1, rfl, by rw [e2]; rfl, k1, by rw [e1]; exact x3.alloc _⟩⟩
  · rintro e w' ⟨n, w1, rfl, ⟨⟨rfl, hk, hb⟩, hbe⟩, rfl⟩
    have hbx2 := hb.other ⟨W.heap.size, 0, none⟩ (by show _ ≠ W.heap.size; omega) (.int .i64 (E : Int))
    have c1 := hbx2.cell
    have f1 := hbx2.free
    have c3 := (hbx2.set (.int .u64 (R : Nat))).cell
    have k2 := (hk.next (kept_box w1 W.heap.size (.int .i64 (E : Int))) (fun x hx e => by omega)).next (kept_box _ (w.heap.size + 1 + 1) (.int .u64 (R : Nat))) (fun x hx e => by omega)
    have HK := toHid k2
    generalize w1.setCell ⟨W.heap.size, 0, none⟩ (.int .i64 (E : Int)) = W2 at *
    clear h1 hb hbx2 hk k2 hbe hu x1 x2 x3 xe k0 k1 hAr he hmf
    go_wp2_with fail
    refine bodyPost_ret (v := .tuple #[.int .u64 (R : Nat), .int .i64 (E : Nat)]) (by simp [results, Tryz.results31, go_sem, c3]) rfl ?_
    exact ⟨rfl, HK.out⟩

end Go.Proofs.YtcjaafmlflonhaaGreatDoor


/- Package sieve: Primes, divides, Factor. -/
namespace Go.Proofs.YtcjaafmlflonhaaGreatDoor
open Go.RowKit Go.Shelf

attribute [local go_sem] Oper.semAt_some

theorem boxed_put {W : World} {b l : Nat} {t : TypeId} {v : Value} (h : Boxed W b t v) (o : Obj) (hne : b ≠ l) : Boxed (W.putObj l o) b t v := (World.putObj_heap_other (fun e => hne e)).trans h

theorem kept_turn {w W : World} (k : Kept Nought w W) (l : Nat) (o : Obj) (hl : w.heap.size ≤ l) : Kept Nought w (W.putObj l o) := k.next (kept_put W l o) (fun x hx e => by
  have e' : x = l := e
  omega)

/-- divides. -/
theorem sDivides (ao : Option Addr) (L cap : Nat) (xs : List Nat) (p : Nat) (hp : 1 ≤ p) (hpb : p ≤ 10000) (R : Bool) (hR : R = decide (val 18446744073709551616 xs % p = 0)) (w : World) (hu : Row .u64 w (.slice ao L cap) xs) (hdx : Digs 18446744073709551616 xs) (hL : L ≤ 1000000) :
    Calls Tryz.prog 87 #[.int .i64 (p : Nat), .slice ao L cap] w fun e w' => e = .returned (.bool R) ∧ Kept Nought w w' := by
  obtain ⟨r, hr⟩ : ∃ r, r = val 18446744073709551616 xs % p := ⟨_, rfl⟩
  have J := pSmall ao L cap xs p r 0 (by omega) (by rw [if_neg (by omega)]; exact hr) (by rw [if_neg (by omega)]) w hu hdx hL
  have gc : IntKind.u64.wrap (p : Int) = (p : Int) := by rw [IntKind.wrap_u64]; omega
  rw [← hr] at hR
  have HR : Hid (R = ((r : Int) == 0)) := by
    unfold Hid
    rw [hR]
    by_cases h : r = 0
    · subst h; rfl
    · rw [decide_eq_false h]
      symm
      simpa using h
  clear hR hr hu hdx hL
  go_enter Tryz.func87, Tryz.ntmps87
  go_wp2_with fail
  refine J.mono ?_
  rintro e w1 ⟨rfl, k1⟩
  clear J
  go_wp2_with fail
  go_ret
  exact ⟨by rw [HR.out]; rfl, k1⟩

theorem fac_hit {X m p : Nat} (hp : PrimeN p) (hm : p ≤ m) (hd : X % p = 0) (h : ∀ q ∈ primesTo (p - 1), X % q ≠ 0) : IsFac X m p :=
  .inr ⟨hp, hm, hd, fun q hq hlt => h q (primesTo_mem.2 ⟨hq, by omega⟩)⟩

theorem fac_miss {X m : Nat} (h : ∀ q ∈ primesTo m, X % q ≠ 0) : IsFac X m 0 := .inl ⟨rfl, fun q hq hle => h q (primesTo_mem.2 ⟨hq, hle⟩)⟩

/-- What stands between two rounds of Factor: the number's box, the answer's box. -/
structure BtwF (w W : World) (gx gr : Nat) (v : Value) : Prop where
  xb : Boxed W gx 31 v
  rb : Boxed W gr 3 (.int .i64 0)
  old : Kept Nought w W

theorem BtwF.kept {S : Nat → Prop} {w W W' : World} {gx gr : Nat} {v : Value} (b : BtwF w W gx gr v) (k : Kept S W W') (h0 : ¬ S gx) (h1 : ¬ S gr) (ho : ∀ x, x < w.heap.size → ¬ S x) : BtwF w W' gx gr v :=
  ⟨boxed_but b.xb k h0, boxed_but b.rb k h1, b.old.next k (fun x hx e => (ho x hx e).elim)⟩

set_option maxRecDepth 100000 in
set_option maxHeartbeats 4000000 in
/-- Factor. -/
theorem sFactor (ao : Option Addr) (L cap : Nat) (xs : List Nat) (N : Int) (w : World) (hu : Row .u64 w (.slice ao L cap) xs) (hdx : Digs 18446744073709551616 xs) (hL : L ≤ 1000000) :
    Calls Tryz.prog 57 #[.slice ao L cap, .int .i64 N] w fun e w' => ∃ R : Nat, e = .returned (.int .i64 (R : Int)) ∧ IsFac (val 18446744073709551616 xs) (upTo N) R ∧ Kept Nought w w' := by
  obtain ⟨X, hX⟩ : ∃ X, X = val 18446744073709551616 xs := ⟨_, rfl⟩
  have JD : Hid (∀ (p : Nat) (R : Bool) (W : World), 1 ≤ p → p ≤ 10000 → R = decide (X % p = 0) → Kept Nought w W → Calls Tryz.prog 87 #[.int .i64 (p : Nat), .slice ao L cap] W fun e w' => e = .returned (.bool R) ∧ Kept Nought W w') := fun p R W h1 h2 h3 k => sDivides ao L cap xs p h1 h2 R (by rw [← hX]; exact h3) W (hu.grew k) hdx hL
  rw [← hX]
  obtain ⟨m, hm⟩ : ∃ m, m = upTo N := ⟨_, rfl⟩
  have hm4 : m ≤ 10000 := by rw [hm]; exact upTo_le N
  clear hX hu hdx hL
  refine (callsIn_wide (n := 9)).1 ?_
  refine callsIn_of_wp_marks Tryz.func57 rfl trivial ?_ rfl
  simp only [Tryz.ntmps57, List.size_toArray, List.length_cons, List.length_nil, Nat.reduceAdd, Nat.reduceSub, Array.replicate_succ, Array.replicate_zero, List.push_toArray, List.append_toArray, List.nil_append, List.cons_append]
  refine wpIn_wide.2 ?_
  have bX := (Boxed.new w 31 (.slice ao L cap)).alloc (.cells #[.int .i64 0] 3)
  have bR := Boxed.new (w.alloc (.cells #[.slice ao L cap] 31)) 3 (.int .i64 0)
  have kA : Kept Nought w ((w.alloc (.cells #[.slice ao L cap] 31)).alloc (.cells #[.int .i64 0] 3)) := ((Kept.refl Nought w).alloc _).alloc _
  have sA : ((w.alloc (.cells #[.slice ao L cap] 31)).alloc (.cells #[.int .i64 0] 3)).heap.size = w.heap.size + 2 := by simp
  simp only [World.size_alloc] at bR
  have JP := sPrimes N ((w.alloc (.cells #[.slice ao L cap] 31)).alloc (.cells #[.int .i64 0] 3))
  rw [sA] at JP
  go_wp2_with fail
  refine JP.mono ?_
  rintro e W2 ⟨rfl, b0, k2, s2⟩
  have HB : Hid (BtwF w W2 w.heap.size (w.heap.size + 1) (.slice ao L cap)) := ⟨boxed_grew bX k2, boxed_grew bR k2, kA.trans k2⟩
  clear JP bX bR kA sA k2
  obtain ⟨gx, hgx⟩ : ∃ gx, gx = w.heap.size := ⟨_, rfl⟩
  obtain ⟨gr, hgr⟩ : ∃ gr, gr = w.heap.size + 1 := ⟨_, rfl⟩
  obtain ⟨gl, hgl⟩ : ∃ gl, gl = w.heap.size + 2 := ⟨_, rfl⟩
  have HG : Hid (gx = w.heap.size ∧ gr = w.heap.size + 1 ∧ gl = w.heap.size + 2 ∧ W2.heap.size = w.heap.size + 3) := ⟨hgx, hgr, hgl, by omega⟩
  rw [← hgl] at b0 ⊢
  rw [← hgr] at HB ⊢
  rw [← hgx] at HB ⊢
  have HM := toHid hm
  clear hgx hgr hgl s2 hm
  go_wp2_with fail
  refine (wpIn_wide (n := 9)).1 ?_
  refine wpIn_range_new (n := 9) (by omega) (gf := 124) (lb := #[.pointer (some ⟨gl, 0, none⟩)]) rfl (enters_of Tryz.func124 (by kernel_rfl) rfl)
    (sPrimes1 8 (by omega) gl N W2 (fun b => b = gr) b0 ?q0 ?q1) (fun _ => rfl) ?hSb ?hT (fun _ _ _ _ _ o' hx hl ho => ⟨hx.1, hx.2.1, hx.2.2.1, by rw [World.putObj_size]; exact hx.2.2.2⟩)
    (fun pre W => Hid (∀ q ∈ pre, X % q ≠ 0) ∧ Hid (BtwF w W gx gr (.slice ao L cap))) (fun c _ W => c = .ret ∧ ∃ R : Nat, IsFac X m R ∧ Boxed W gr 3 (.int .i64 (R : Int)) ∧ Kept Nought w W)
    ?low ?turn ?lowx ?lows ⟨fun q hq => (by cases hq), HB.out⟩ ?act ?assign ?body ?done ?stop
  case q0 => have := HG.out; omega
  case q1 => have := HG.out; omega
  case hSb => have := HG.out; constructor <;> omega
  case hT => constructor <;> omega
  case low =>
    rintro s A C ⟨h1, h2⟩ k
    have := HG.out
    exact ⟨h1, h2.out.kept k (by omega) (by omega) (fun x hx => by omega)⟩
  case turn =>
    rintro s A l o o' ⟨h1, h2⟩ hl hA ho
    have := HG.out
    exact ⟨h1, boxed_put h2.out.xb o' (by omega), boxed_put h2.out.rb o' (by omega), kept_turn h2.out.old l o' (by omega)⟩
  case lowx =>
    rintro c s A l o o' ⟨h1, R, h2, h3, h4⟩ hl hA ho
    have := HG.out
    exact ⟨h1, R, h2, boxed_put h3 o' (by omega), kept_turn h4 l o' (by omega)⟩
  case lows =>
    rintro s A l o o' h1 hl hA ho
    exact h1
  case assign =>
    intro l x W K hK
    gi_wp2
    exact hK
  case body =>
    rintro l pre p W ⟨hK, hI⟩ ⟨hpre, hP, hpm, hsz⟩
    have hpm' : p ≤ m := by rw [HM.out]; exact hpm
    have hp2 := hP.1
    have cx := hI.out.xb.cell
    by_cases hd : X % p = 0
    · have J := JD.out p true W (by omega) (by omega) (by rw [decide_eq_true hd]) hI.out.old
      have HF : Hid (IsFac X m p) := fac_hit hP hpm' hd (by rw [← hpre]; exact hK.out)
      clear hd hP hpre hK hpm hsz
      gi_wp2_with fail
      refine ⟨trivial, ?_⟩
      refine (CallsIn.inRound l (callsIn_wide.2 J)).mono ?_
      rintro e w1 ⟨rfl, k1⟩
      have I1 := hI.out.kept k1 (fun f => f) (fun f => f) (fun _ _ f => f)
      have cr := I1.rb.cell
      have fr := I1.rb.frozen
      have HKS : Hid (Kept (fun b => b = gr) W (w1.setCell ⟨gr, 0, none⟩ (.int .i64 (p : Int)))) := (k1.any (S := fun b => b = gr)).setCell ⟨gr, 0, none⟩ (fun _ => rfl) _
      have HKO : Hid (Kept Nought w (w1.setCell ⟨gr, 0, none⟩ (.int .i64 (p : Int)))) := kept_new I1.old ((Kept.refl (fun b => b = gr) _).setCell ⟨gr, 0, none⟩ (fun _ => rfl) _) (by have := HG.out; omega)
      have HBR : Hid (Boxed (w1.setCell ⟨gr, 0, none⟩ (.int .i64 (p : Int))) gr 3 (.int .i64 (p : Int))) := I1.rb.set (.int .i64 (p : Int))
      clear J hI I1 k1 cx
      gi_wp2_with fail
      exact ⟨HKS.out, rfl, p, HF.out, HBR.out, HKO.out⟩
    · have J := JD.out p false W (by omega) (by omega) (by rw [decide_eq_false hd]) hI.out.old
      have HN : Hid (∀ q ∈ pre ++ [p], X % q ≠ 0) := fun q hq => by
        rcases List.mem_append.1 hq with h | h
        · exact hK.out q h
        · rw [List.mem_singleton] at h
          subst h
          exact hd
      clear hd hP hpre hK hpm hsz
      gi_wp2_with fail
      refine ⟨trivial, ?_⟩
      refine (CallsIn.inRound l (callsIn_wide.2 J)).mono ?_
      rintro e w1 ⟨rfl, k1⟩
      have I1 := toHid (hI.out.kept k1 (fun f => f) (fun f => f) (fun _ _ f => f))
      have HK1 := toHid (k1.any (S := fun b => b = gr))
      clear J hI k1 cx
      gi_wp2_with fail
      exact ⟨HK1.out, HN, I1⟩
  case done =>
    rintro D s W hD hs ⟨hK, hI⟩ hDD
    have hf : IsFac X m 0 := fac_miss (by rw [HM.out, ← (show s = primesTo (upTo N) from hs)]; exact hK.out)
    have HF := toHid hf
    have cr := hI.out.rb.cell
    have fr := hI.out.rb.frozen
    have k3 : Kept (fun b => b = gr) W (W.setCell ⟨gr, 0, none⟩ (.int .i64 0)) := (Kept.refl (fun b => b = gr) _).setCell ⟨gr, 0, none⟩ (fun _ => rfl) _
    have hDD2 := (k3.block D (lt_of_block hDD) (by have := HG.out; omega)).trans hDD
    have HBR : Hid (Boxed ((W.setCell ⟨gr, 0, none⟩ (.int .i64 0)).putObj D (.deferred none)) gr 3 (.int .i64 0)) := boxed_put (hI.out.rb.set (.int .i64 0)) _ (by have := HG.out; omega)
    have HKO : Hid (Kept Nought w ((W.setCell ⟨gr, 0, none⟩ (.int .i64 0)).putObj D (.deferred none))) := kept_turn (kept_new hI.out.old k3 (by have := HG.out; omega)) D _ (by have := HG.out; omega)
    have HD2 := toHid hDD2
    clear hf hK hI k3 hDD2 hDD HB b0 hs
    go_wp2_with fail
    refine ⟨by simp, .inl ⟨_, _, rfl, run_takeDeferred HD2.out, ?_⟩⟩
    have q1 := HBR.out.cell
    rw [← HM.out]
    refine ⟨.int .i64 0, ?_, 0, rfl, HF.out, HKO.out⟩
    simp [results, Tryz.f57, go_sem, q1]
  case stop =>
    rintro D c s W hD ⟨rfl, R, hf, hb, hk⟩ hDD
    have HF := toHid hf
    have HBR : Hid (Boxed (W.putObj D (.deferred none)) gr 3 (.int .i64 (R : Int))) := boxed_put hb _ (by have := HG.out; omega)
    have HKO : Hid (Kept Nought w (W.putObj D (.deferred none))) := kept_turn hk D _ (by have := HG.out; omega)
    clear hf hb hk
    gi_wp2
    refine ⟨by simp, .inl ⟨_, _, rfl, run_takeDeferred hDD, ?_⟩⟩
    have q1 := HBR.out.cell
    rw [← HM.out]
    refine ⟨.int .i64 (R : Int), ?_, R, rfl, HF.out, HKO.out⟩
    simp [results, Tryz.f57, go_sem, q1]

end Go.Proofs.YtcjaafmlflonhaaGreatDoor


/- Package sieve: Passes. -/
namespace Go.Proofs.YtcjaafmlflonhaaGreatDoor
open Go.RowKit

theorem val_word {x : Nat} (hx : x < 18446744073709551616) : val 18446744073709551616 (digs 18446744073709551616 x (clampN 1)) = x := by
  rw [show clampN 1 = 1 from rfl, val_digs, Nat.pow_one, Nat.mod_eq_of_lt hx]

set_option maxRecDepth 20000 in
set_option maxHeartbeats 1000000 in
/-- Passes. -/
theorem sPasses (ao : Option Addr) (L cap : Nat) (xs : List Nat) (R : Bool) (hR : R = true ↔ passN (val 18446744073709551616 xs)) (w : World) (hu : Row .u64 w (.slice ao L cap) xs) (hdx : Digs 18446744073709551616 xs) (hL : L ≤ 1000000) :
    Calls Tryz.prog 28 #[.slice ao L cap] w fun e w' => e = .returned (.bool R) ∧ Kept Nought w w' := by
  have JC : Hid (∀ (y : Nat) (u : Value) W, y < 18446744073709551616 → Kept Nought w W → Row .u64 W u (digs 18446744073709551616 y (clampN 1)) → Calls Tryz.prog 56 #[.slice ao L cap, u] W fun e w' => e = .returned (.int .i64 (cmpN (val 18446744073709551616 xs) y)) ∧ Kept Nought W w') := fun y u W hy k hr => by
    have := nCompare (.slice ao L cap) u xs _ W (hu.grew k) hr hdx (digs_digs (by omega) y (clampN 1))
    rw [val_word hy] at this
    exact this
  have JF : Hid (∀ W, Kept Nought w W → Calls Tryz.prog 57 #[.slice ao L cap, .int .i64 1000] W fun e w' => ∃ F : Nat, e = .returned (.int .i64 (F : Int)) ∧ IsFac (val 18446744073709551616 xs) 1000 F ∧ Kept Nought W w') := fun W k => sFactor ao L cap xs 1000 W (hu.grew k) hdx hL
  have HR := toHid hR
  clear hR hu hdx hL
  generalize val 18446744073709551616 xs = X at *
  have hW := nWord 1 (by omega) 1 w
  go_enter Tryz.func28, Tryz.ntmps28
  go_wp2_with fail
  refine hW.mono ?_
  rintro e w1 ⟨v1, rfl, hr1, k1⟩
  have hC := JC.out 1 v1 w1 (by omega) k1 hr1
  have HK1 := toHid k1
  obtain ⟨xo, xn, xc, rfl, _⟩ := hr1.open
  clear hW hr1 k1
  by_cases h2 : 2 ≤ X
  · rw [cmpN_gt (show 1 < X by omega)] at hC
    go_wp2_with fail
    refine hC.mono ?_
    rintro e w2 ⟨rfl, k2⟩
    have HK2 := toHid (HK1.out.trans k2)
    have hF := JF.out w2 HK2.out
    clear hC k2 HK1
    go_wp2_with fail
    refine hF.mono ?_
    rintro e w3 ⟨F, rfl, hfac, k3⟩
    have HK3 := toHid (HK2.out.trans k3)
    have hFle := hfac.le
    clear hF k3 HK2
    by_cases hF0 : F = 0
    · subst hF0
      have HT : Hid (R = true) := HR.out.2 ⟨h2, 0, hfac, .inl rfl⟩
      clear hfac
      go_wp2_with fail
      go_ret
      exact ⟨by rw [HT.out]; rfl, HK3.out⟩
    · have gF : ¬ (F : Int) = 0 := by omega
      have gc : IntKind.u64.wrap (F : Int) = (F : Int) := by rw [IntKind.wrap_u64]; omega
      have hW2 := nWord F (by omega) 1 w3
      have HFAC := toHid hfac
      clear hfac
      go_wp2_with fail
      refine hW2.mono ?_
      rintro e w4 ⟨v4, rfl, hr4, k4⟩
      have HK4 := toHid (HK3.out.trans k4)
      have hC2 := JC.out F v4 w4 (by omega) HK4.out hr4
      obtain ⟨yo, yn, yc, rfl, _⟩ := hr4.open
      clear hW2 hr4 k4
      by_cases hXF : X = F
      · have HT : Hid (R = true) := HR.out.2 ⟨h2, F, HFAC.out, .inr hXF⟩
        rw [cmpN_eq hXF] at hC2
        clear hXF
        go_wp2_with fail
        refine hC2.mono ?_
        rintro e w6 ⟨rfl, k6⟩
        go_wp2_with fail
        go_ret
        exact ⟨by rw [HT.out]; rfl, HK4.out.trans k6⟩
      · have HT : Hid (R = false) := by
          unfold Hid
          cases h : R with
          | false => rfl
          | true =>
            obtain ⟨_, G, hG, hG2⟩ := HR.out.1 h
            have := hG.uniq HFAC.out
            subst this
            rcases hG2 with h3 | h3
            · exact absurd h3 hF0
            · exact absurd h3 hXF
        have hc2 := cmpNne hXF
        generalize cmpN X F = cd at *
        clear hXF
        go_wp2_with fail
        refine hC2.mono ?_
        rintro e w6 ⟨rfl, k6⟩
        go_wp2_with fail
        go_ret
        exact ⟨by rw [HT.out]; show Ending.returned (Value.bool ((F : Int) == 0 || cd == 0)) = _; rw [show ((F : Int) == 0) = false by simp; omega, show (cd == 0) = false by simpa using hc2]; rfl, HK4.out.trans k6⟩
  · have HT : Hid (R = false) := by
      unfold Hid
      cases h : R with
      | false => rfl
      | true => exact absurd (HR.out.1 h).1 h2
    have g1 : cmpN X 1 ≤ 0 := by
      unfold cmpN
      split
      · omega
      · split <;> omega
    generalize cmpN X 1 = cd at *
    go_wp2_with fail
    refine hC.mono ?_
    rintro e w2 ⟨rfl, k2⟩
    go_wp2_with fail
    go_ret
    exact ⟨by rw [HT.out]; rfl, HK1.out.trans k2⟩

end Go.Proofs.YtcjaafmlflonhaaGreatDoor


/- Melted of: PrH BitA PrI PrJ. -/

/- Package product: bringDown, divideByBits. -/
namespace Go.Proofs.YtcjaafmlflonhaaGreatDoor
open Go.RowKit

end Go.Proofs.YtcjaafmlflonhaaGreatDoor

/- Division bit by bit: plain mathematics. -/
namespace Go.Proofs.YtcjaafmlflonhaaGreatDoor
open Go.RowKit

end Go.Proofs.YtcjaafmlflonhaaGreatDoor

/- Package product: divideByBits. -/
namespace Go.Proofs.YtcjaafmlflonhaaGreatDoor
open Go.RowKit

theorem made_map (n : Nat) : madeCells #[Value.int .u64 0] n = ((List.replicate n 0).map fun z : Nat => Value.int .u64 (z : Int)).toArray := by
  have := zeros_map .u64 n
  rw [Nat.mul_one] at this
  rw [← this]
  rfl

/-- Two rows of noughts, made one behind the other. -/
theorem two_made (w : World) (A B : Nat) (CA CB : Array Value) (hA : CA = madeCells #[.int .u64 0] A) (hB : CB = madeCells #[.int .u64 0] B) (lA : A ≤ 1000000) (lB : B ≤ 1000000) :
    OwnN .u64 23 ((w.alloc (.cells CA 23)).alloc (.cells CB 23)).drew w.heap.size (.slice (some ⟨w.heap.size, 0, none⟩) A A) A (List.replicate A 0) ∧ OwnN .u64 23 ((w.alloc (.cells CA 23)).alloc (.cells CB 23)).drew w.heap.size (.slice (some ⟨w.heap.size + 1, 0, none⟩) B B) B (List.replicate B 0) ∧ Kept Nought w ((w.alloc (.cells CA 23)).alloc (.cells CB 23)).drew := by
  subst hA hB
  rw [made_map, made_map]
  refine ⟨own_of_block (heapAt_drew (heapAt_alloc (heap_alloc_new _ _))) (by simp) (by unfold maxLen; omega) (Nat.le_refl _), own_of_block (heapAt_drew ?_) (by simp) (by unfold maxLen; omega) (by omega), (((Kept.refl Nought w).alloc _).alloc _).drew⟩
  have := heap_alloc_new (w.alloc (.cells ((List.replicate A 0).map fun z : Nat => Value.int .u64 (z : Int)).toArray 23)) (.cells ((List.replicate B 0).map fun z : Nat => Value.int .u64 (z : Int)).toArray 23)
  simpa using this

end Go.Proofs.YtcjaafmlflonhaaGreatDoor

/- Package product: what Divide attempts. -/
namespace Go.Proofs.YtcjaafmlflonhaaGreatDoor
open Go.RowKit

end Go.Proofs.YtcjaafmlflonhaaGreatDoor

