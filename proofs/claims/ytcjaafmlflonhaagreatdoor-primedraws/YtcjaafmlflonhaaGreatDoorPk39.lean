/- Put together of: Arr0 Siv2. -/
import Derived.Test.YtcjaafmlflonhaaGreatDoorPk1
import Derived.Test.YtcjaafmlflonhaaGreatDoorPk38
import Derived.Lib.MinMax
import Derived.WalkMore
import Derived.Scope

/- An array of numbers in memory. -/
namespace Go.Proofs.YtcjaafmlflonhaaGreatDoor
open Go.RowKit

/-- Block b is an array that holds the numbers zs. -/
def Arr (k : IntKind) (t : TypeId) (w : World) (b : Nat) (zs : List Nat) : Prop := w.heap[b]? = some (.cells (zs.map fun z => Value.int k (z : Nat)).toArray t (0, 0))

theorem Arr.cell {k : IntKind} {t : TypeId} {w : World} {b : Nat} {zs : List Nat} (h : Arr k t w b zs) (i : Nat) (hi : i < zs.length) : w.cell? ⟨b, i, none⟩ = some (.int k (zs.getD i 0 : Nat)) := by
  rw [cell_of_row w b i _ _ _ h]
  simp [List.getElem?_eq_getElem hi]

theorem Arr.free {k : IntKind} {t : TypeId} {w : World} {b : Nat} {zs : List Nat} (h : Arr k t w b zs) (i : Nat) : w.frozen? ⟨b, i, none⟩ = false := by
  unfold Arr at h
  simp [World.frozen?, h]

theorem Arr.set {k : IntKind} {t : TypeId} {w : World} {b : Nat} {zs : List Nat} (h : Arr k t w b zs) (i z : Nat) : Arr k t (w.setCell ⟨b, i, none⟩ (.int k (z : Nat))) b (zs.set i z) := by
  have := heap_setCell_same w b i _ t (.int k (z : Nat)) h
  unfold Arr
  rw [this, List.map_set]
  simp

theorem Arr.kept {S : Nat → Prop} {k : IntKind} {t : TypeId} {w w' : World} {b : Nat} {zs : List Nat} (h : Arr k t w b zs) (kk : Kept S w w') (hs : ¬ S b) : Arr k t w' b zs := (kk.block b (lt_of_block h) hs).trans h

theorem Arr.grew {k : IntKind} {t : TypeId} {w w' : World} {b : Nat} {zs : List Nat} (h : Arr k t w b zs) (kk : Kept Nought w w') : Arr k t w' b zs := h.kept kk (fun f => f)

theorem Arr.other {k : IntKind} {t : TypeId} {w : World} {b : Nat} {zs : List Nat} (h : Arr k t w b zs) (a : Addr) (hne : b ≠ a.block) (u : Value) : Arr k t (w.setCell a u) b zs := heapAt_set h hne u

end Go.Proofs.YtcjaafmlflonhaaGreatDoor


/- Package sieve: primes, as a range over a function hands them out. -/
namespace Go.Proofs.YtcjaafmlflonhaaGreatDoor
open Go.RowKit Go.Shelf

attribute [local go_sem] Oper.semAt_some

/-- What is handed out. -/
def PriX (m B : Nat) (pre : List Nat) (p : Nat) (A : World) : Prop := pre = primesTo (p - 1) ∧ PrimeN p ∧ p ≤ m ∧ B + 3 ≤ A.heap.size

theorem upTo_min (n : Int) : upTo n = (min n 10000).toNat := by unfold upTo; split <;> omega

/-- primes. -/
theorem sPrimes (n : Int) (w : World) :
    Calls Tryz.prog 86 #[.int .i64 n] w fun e w' => e = .returned (.func (.func 124) #[] #[.pointer (some ⟨w.heap.size, 0, none⟩)]) ∧ Boxed w' w.heap.size 3 (.int .i64 (min n 10000)) ∧ Kept Nought w w' ∧ w'.heap.size = w.heap.size + 1 := by
  go_enter Tryz.func86, Tryz.ntmps86
  go_wp2
  go_ret
  exact ⟨rfl, Boxed.new w 3 (.int .i64 (min n 10000)), (Kept.refl Nought w).alloc _, by simp⟩

/-- What stands between two rounds: the places at block G, the last number's box. -/
structure BtwS (wr : World) (G bl m p : Nat) (N : Int) : Prop where
  arr : ∃ zs, StkL m p zs ∧ Arr .u8 157 wr G zs
  lb : Boxed wr bl 3 (.int .i64 N)
  size : G + 1 ≤ wr.heap.size

theorem BtwS.kept {S : Nat → Prop} {wr w' : World} {G bl m p : Nat} {N : Int} (b : BtwS wr G bl m p N) (k : Kept S wr w') (h0 : ¬ S G) (h1 : ¬ S bl) : BtwS w' G bl m p N := by
  obtain ⟨⟨zs, h2, h3⟩, h4, h5⟩ := b
  exact ⟨⟨zs, h2, h3.kept k h0⟩, boxed_but h4 k h1, Nat.le_trans h5 k.size⟩

theorem BtwS.skip {wr : World} {G bl m p : Nat} {N : Int} (b : BtwS wr G bl m p N) (hp : ¬ PrimeN p) : BtwS wr G bl m (p + 1) N := by
  obtain ⟨⟨zs, h2, h3⟩, h4, h5⟩ := b
  exact ⟨⟨zs, h2.skip hp, h3⟩, h4, h5⟩

/-- What stands while multiples are struck out. -/
structure BtwT (wr : World) (G bl m p t : Nat) (N : Int) : Prop where
  arr : ∃ zs, StkM m p t zs ∧ Arr .u8 157 wr G zs
  lb : Boxed wr bl 3 (.int .i64 N)
  size : G + 1 ≤ wr.heap.size

theorem BtwS.into {wr : World} {G bl m p : Nat} {N : Int} (b : BtwS wr G bl m p N) : BtwT wr G bl m p (p * p) N := by
  obtain ⟨⟨zs, h2, h3⟩, h4, h5⟩ := b
  exact ⟨⟨zs, h2.into, h3⟩, h4, h5⟩

theorem BtwT.out {wr : World} {G bl m p t : Nat} {N : Int} (b : BtwT wr G bl m p t N) (ht : m < t) (hp : PrimeN p) : BtwS wr G bl m (p + 1) N := by
  obtain ⟨⟨zs, h2, h3⟩, h4, h5⟩ := b
  exact ⟨⟨zs, h2.out ht hp, h3⟩, h4, h5⟩

theorem BtwT.put {wr : World} {G bl m p t : Nat} {N : Int} (b : BtwT wr G bl m p t N) (hne : bl ≠ G) (hm : m ≤ 10000) (ht : t ≤ m) (hp : p * p ≤ t) (hd : t % p = 0) (h0 : 0 < p) :
    BtwT (wr.setCell ⟨G, t, none⟩ (.int .u8 1)) G bl m p (t + p) N ∧ Kept (fun x => x = G) wr (wr.setCell ⟨G, t, none⟩ (.int .u8 1)) := by
  obtain ⟨⟨zs, h2, h3⟩, h4, h5⟩ := b
  have k : Kept (fun x => x = G) wr (wr.setCell ⟨G, t, none⟩ (.int .u8 1)) := (Kept.refl (fun x => x = G) _).setCell ⟨G, t, none⟩ (fun _ => rfl) _
  exact ⟨⟨⟨zs.set t 1, h2.set hm ht hp hd h0, h3.set t 1⟩, boxed_but h4 k hne, Nat.le_trans h5 k.size⟩, k⟩

set_option maxRecDepth 100000 in
set_option maxHeartbeats 2000000 in
/-- primes' value, as a range over it wants it. -/
theorem sPrimes1 (n : Nat) (hn : 1 ≤ n) (bl : Nat) (N : Int) (w : World) (Sb : Nat → Prop) (hb : Boxed w bl 3 (.int .i64 (min N 10000))) (hs0 : ¬ Sb bl) (hs1 : ¬ Sb (w.heap.size + 2)) :
    SeqU n Tryz.prog 124 #[.pointer (some ⟨bl, 0, none⟩)] (fun p : Nat => #[.int .i64 (p : Int)]) (PriX (upTo N) w.heap.size) Sb (fun x => x = w.heap.size + 2) (fun s _ => s = primesTo (upTo N)) w := by
  rintro l J Jx W hkW hlW hsW hJ hY h0
  obtain ⟨cs, hcs, hzv⟩ := zero16
  have hcn : ¬ cs = #[] := by
    rw [hcs]
    intro e
    have := congrArg Array.size e
    simp at this
  obtain ⟨m, hm⟩ : ∃ m, m = upTo N := ⟨_, rfl⟩
  have hm4 : m ≤ 10000 := by rw [hm]; exact upTo_le N
  have HM : Hid (∀ p : Nat, 2 ≤ p → ((p : Int) ≤ min N 10000 ↔ p ≤ m)) := fun p hp => by rw [hm, upTo_min]; omega
  rw [← hm] at hY ⊢
  generalize min N 10000 = I at *
  obtain ⟨G, hG⟩ : ∃ G, G = w.heap.size + 2 := ⟨_, rfl⟩
  have hGW : W.heap.size = G := by omega
  have hbl := hb.lt
  have hne : bl ≠ G := by omega
  have lbW := boxed_grew hb hkW
  have kA : Kept Nought W (W.alloc (.cells cs 157)) := (Kept.refl Nought W).alloc _
  have HA : Hid (Arr .u8 157 (W.alloc (.cells cs 157)) G (List.replicate 10001 0)) := by
    unfold Hid Arr
    rw [← hcs, ← hGW]
    exact heap_alloc_new W _
  have H0 : Hid (BtwS (W.alloc (.cells cs 157)) G bl m 2 I) := ⟨⟨_, stk_zero m, HA.out⟩, boxed_grew lbW kA, by simp; omega⟩
  have HJ0 : Hid (J [] (W.alloc (.cells cs 157))) := hJ _ _ _ h0 kA.any
  have HJ := toHid hJ
  have HG : Hid (G = w.heap.size + 2 ∧ l = w.heap.size + 1 ∧ bl < w.heap.size) := ⟨hG, hlW, hbl⟩
  have HS0 := toHid hs0
  have HS1 := toHid hs1
  clear hb hkW h0 hlW hsW lbW kA HA hJ hG hbl hs0 hs1 hcs hm
  refine callsIn_of_wp Tryz.func124 rfl trivial ?_ rfl
  simp only [Tryz.ntmps124, List.size_toArray, List.length_cons, List.length_nil, Nat.reduceAdd, Nat.reduceSub, Array.replicate_succ, Array.replicate_zero, List.push_toArray, List.append_toArray, List.nil_append, List.cons_append]
  refine wpIn_wide.2 ?_
  go_step3
  go_wp2_with fail
  go_step3
  go_wp2_with fail
  generalize W.alloc (.cells cs 157) = W1 at *
  refine (wpIn_wide (n := n)).1 ?_
  gi_loopw [4] (fun iv wr => ∃ p : Nat, 2 ≤ p ∧ p ≤ 10001 ∧ (p ≤ m + 1 ∨ p = 2) ∧ iv = .int .i64 (p : Int) ∧ Hid (J (primesTo (p - 1)) wr) ∧ Hid (BtwS wr G bl m p I)) (fun iv _ => 10002 - (intOf iv).toNat)
  case atStart => exact ⟨2, by omega, by omega, .inr rfl, rfl, HJ0.out, H0.out⟩
  case round =>
    clear HJ0 H0
    obtain ⟨p, hp2, hp4, hpm, rfl, hJp, hB⟩ := hrel
    have clb := hB.out.lb.cell
    by_cases hin : p ≤ m
    · have g1 := (HM.out p hp2).2 hin
      obtain ⟨zs, hst, hA⟩ := hB.out.arr
      have cp := hA.cell p (by rw [hst.1]; omega)
      have hzp := hst.2 p
      obtain ⟨z, hz⟩ : ∃ z, z = zs.getD p 0 := ⟨_, rfl⟩
      rw [← hz] at cp hzp
      have hp0 : (0 : Int) ≤ (p : Int) := by omega
      have hp9 : (p : Int) < 10001 := by omega
      clear hz hA hst
      by_cases hP : PrimeN p
      · have hz1 : ¬ (z : Int) = 1 := fun e => (stk_prime hp2 hin).2 hP (hzp.1 (by omega))
        have HP := toHid hP
        have hx : PriX m w.heap.size (primesTo (p - 1)) p wr := ⟨rfl, hP, hin, by have := hB.out.size; have := HG.out; omega⟩
        obtain ⟨fn, tmps, assign, body, hy, hR⟩ := hY _ p wr hJp.out hx
        clear hx hzp hP
        gi_wp2_with fail
        refine hR.mono ?_
        rintro e w5 (⟨rfl, hJ5, k5⟩ | ⟨rfl, hJx5⟩)
        · have B5 := toHid (hB.out.kept k5 (by
            have := HG.out
            rintro (e | e | e)
            · exact HS1.out (by have h9 : G = w.heap.size + 2 := HG.out.1; rw [← h9]; exact e)
            · omega
            · omega) (by
            have := HG.out
            rintro (e | e | e)
            · exact HS0.out e
            · omega
            · omega)).into
          rw [primesTo_step (by omega) HP.out] at hJ5
          have HJ5 := toHid hJ5
          have hpp : p * p ≤ 10001 * 10001 := Nat.mul_le_mul hp4 hp4
          obtain ⟨q, hq⟩ : ∃ q, q = p * p := ⟨_, rfl⟩
          have hw : IntKind.i64.wrap ((p : Int) * (p : Int)) = (q : Int) := by
            have e : (p : Int) * (p : Int) = ((p * p : Nat) : Int) := by simp
            rw [e, ← hq, IntKind.wrap_i64]
            omega
          have HQ := toHid hq
          rw [← hq] at hpp
          have HQD : Hid (q % p = 0) := by unfold Hid; rw [hq]; exact Nat.mul_mod_right p p
          have B6 : Hid (BtwT w5 G bl m p q I) := by unfold Hid; rw [hq]; exact B5.out
          clear hR hy hJ5 k5 hB hJp clb cp hq B5
          gi_wp2_with fail
          refine wpIn_wide.2 ?_
          go_loopw [5] (fun mv wr2 => ∃ t : Nat, q ≤ t ∧ t ≤ 100030000 ∧ mv = .int .i64 (t : Int) ∧ Hid (t % p = 0) ∧ Hid (J (primesTo p) wr2) ∧ Hid (BtwT wr2 G bl m p t I)) (fun mv _ => 10001 - (intOf mv).toNat)
          case atStart => exact ⟨q, Nat.le_refl _, by omega, rfl, HQD.out, HJ5.out, B6.out⟩
          case round =>
            clear B6 HJ5 HQD
            obtain ⟨t, hqt, ht, rfl, HTD, HJt, HBt⟩ := hrel
            have clb := HBt.out.lb.cell
            by_cases htm : t ≤ m
            · have g2 : ¬ (t : Int) > I := fun e => by
                have := (HM.out t (by have h3 : 2 * p ≤ p * p := Nat.mul_le_mul_right p hp2; have := HQ.out; omega)).2 htm
                omega
              have g2' : ¬ I < (t : Int) := g2
              have ht0 : (0 : Int) ≤ (t : Int) := by omega
              have ht9 : (t : Int) < 10001 := by omega
              obtain ⟨zs, hst, hA⟩ := HBt.out.arr
              have ct := hA.cell t (by rw [hst.1]; omega)
              have ft := hA.free t
              obtain ⟨b7, k7⟩ := HBt.out.put hne hm4 htm (by rw [← HQ.out]; exact hqt) HTD.out (by omega)
              have B7 := toHid b7
              have HJ7 := toHid (HJ.out _ _ _ HJt.out (k7.mono (fun x _ e => by have := HG.out; have e' : x = G := e; omega)))
              have HD7 : Hid ((t + p) % p = 0) := by unfold Hid; rw [Nat.add_mod_right]; exact HTD.out
              clear hst hA b7 k7
              go_wp2_with fail
              go_roundw
              case rel => exact ⟨t + p, by omega, by omega, by go_num, HD7.out, HJ7.out, B7.out⟩
              case measure => simp [intOf]; omega
            · have g2 : (t : Int) > I := by
                rcases Int.lt_or_le I (t : Int) with e | e
                · exact e
                · exact absurd ((HM.out t (by have h3 : 2 * p ≤ p * p := Nat.mul_le_mul_right p hp2; have := HQ.out; omega)).1 e) htm
              have g2' : I < (t : Int) := g2
              have B8 := toHid (HBt.out.out (by omega) HP.out)
              go_wp2_with fail
              gi_wp2_with fail
              go_roundw
              case rel => exact ⟨p + 1, by omega, by omega, .inl (by omega), by go_num, by rw [Nat.add_sub_cancel]; exact HJt, B8⟩
              case measure => simp [intOf]; omega
        · gi_wp2_with fail
          try rw [Exit.noGoto_ret]
          refine bodyPost_ret (results_none rfl _ _ _) rfl ?_
          exact ⟨⟨_, rfl⟩, .inr ⟨_, hJx5⟩⟩
      · have hz1 : z = 1 := by
          rw [hzp]
          by_cases hs : Struck m p p
          · exact hs
          · exact absurd ((stk_prime hp2 hin).1 hs) hP
        subst hz1
        have B8 := toHid (hB.out.skip hP)
        have HJ8 : Hid (J (primesTo (p + 1 - 1)) wr) := by unfold Hid; rw [Nat.add_sub_cancel, ← primesTo_skip (by omega) hP]; exact hJp.out
        clear hP hzp
        gi_wp2_with fail
        go_roundw
        case rel => exact ⟨p + 1, by omega, by omega, .inl (by omega), by go_num, HJ8, B8⟩
        case measure => simp [intOf]; omega
    · have g1 : ¬ (p : Int) ≤ I := fun e => hin ((HM.out p hp2).1 e)
      have HE : Hid (primesTo (p - 1) = primesTo m) := by
        unfold Hid
        rcases hpm with h | h
        · rw [show p - 1 = m by omega]
        · subst h
          rw [primesTo_low (show 2 - 1 ≤ 1 by omega), primesTo_low (show m ≤ 1 by omega)]
      gi_wp2_with fail
      try rw [Exit.noGoto_normal]
      refine bodyPost_end (results_none rfl _ _ _) rfl ?_
      exact ⟨⟨_, rfl⟩, .inl (by rw [← HE.out]; exact hJp.out)⟩

end Go.Proofs.YtcjaafmlflonhaaGreatDoor

