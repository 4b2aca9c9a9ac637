/- Put together of: Mir7 Mir8 Key1. -/
import Derived.Test.YtcjaafmlflonhaaGreatDoorPk9
import Derived.Test.YtcjaafmlflonhaaGreatDoorPk17
import Derived.Test.YtcjaafmlflonhaaGreatDoorPk36

/- Package miller: Rounds. -/
namespace Go.Proofs.YtcjaafmlflonhaaGreatDoor
open Go.RowKit

theorem Bases.keptS {S : Nat → Prop} {w w' : World} {base : Nat} {out : Value} {L : Nat} {acc : List (List Nat)} (h : Bases w base out L acc) (k : Kept S w w') (hb : ∀ x, base ≤ x → ¬ S x) (hap : ∀ v zs, Row .u64 w v zs → zs ≠ [] → ∀ x, v.ownBlock = some x → ¬ S x) : Bases w' base out L acc := by
  obtain ⟨h1, A, C, h2, h3⟩ := h
  refine ⟨h1, A, C, k.own h2 (fun x hx => hb x (World.ownsRow.lt h2 x hx).1), fun j hj => ⟨?_, (h3 j hj).2⟩⟩
  exact (h3 j hj).1.kept' k (fun hne x hx => hap _ _ (h3 j hj).1 hne x hx)

/-- What stands between two rounds, as numbers. -/
def RndSt (xs : List Nat) (k : Nat) (r : Bool × List (List Nat) × Nat × List Nat) (pb : Bool) (acc : List (List Nat)) (ds : List Nat) : Prop :=
  (pb = true ∧ ∃ g, ds.length < g ∧ rndF xs k g acc.length ds acc = r) ∨ (pb = false ∧ (false, acc, 0, ds) = r)

theorem RndNext.st {xs : List Nat} {X k i : Nat} {acc : List (List Nat)} {r : Bool × List (List Nat) × Nat × List Nat} {x ds : List Nat} (h : RndNext xs X k i acc r x ds) (hi : acc.length = i) : RndSt xs k r (strongB X (val 18446744073709551616 x)) (acc ++ [x]) ds := by
  obtain ⟨_, f, h1, h2⟩ := h
  cases hb : strongB X (val 18446744073709551616 x) with
  | true =>
    rw [hb, if_pos rfl] at h2
    exact .inl ⟨rfl, f, h1, by rw [List.length_append, hi]; exact h2⟩
  | false =>
    rw [hb, if_neg (by decide)] at h2
    exact .inr ⟨rfl, h2⟩

/-- What Rounds attempts comes to. -/
def RndAns (w : World) (p : Option Addr) (B L bI bR : Nat) (r1 : Bool) (r2 : List (List Nat)) (r3 : Nat) (r4 : List Nat) (e : Ending) (w' : World) : Prop :=
  (r3 = 0 ∧ e = .returned (.tuple #[]) ∧ ∃ v w1, Bases w1 w.heap.size v L r2 ∧ Lsc w1 p B r4 ∧ Kept (ofP p) w w1 ∧ w' = (w1.setCell ⟨bI, 0, none⟩ (.bool r1)).setCell ⟨bR, 0, none⟩ v) ∨
  (r3 ≠ 0 ∧ e = .panicked [refusal (r3 : Nat)] ∧ r1 = false ∧ r2 = [] ∧ Lsc w' p B r4 ∧ Kept (ofP p) w w')

set_option maxRecDepth 40000 in
set_option maxHeartbeats 4000000 in
/-- What Rounds attempts. -/
theorem yRounds1 (co p : Option Addr) (L cap B bN bK bS bI bR : Nat) (k : Int) (xs cs : List Nat) (r1 : Bool) (r2 : List (List Nat)) (r3 : Nat) (r4 : List Nat) (hRN : rndAll xs k cs = (r1, r2, r3, r4)) (hk0 : -9223372036854775808 ≤ k) (hk1 : k ≤ 9223372036854775807) (w : World)
    (hu : Row .u64 w (.slice co L cap) xs) (hd : Digs 18446744073709551616 xs) (hL : L ≤ 1000000) (hs : Lsc w p B cs) (hcd : Digs 256 cs) (lN : B ≤ bN) (lK : B ≤ bK) (lS : B ≤ bS) (lI : B ≤ bI) (lR : B ≤ bR) (nIR : bI ≠ bR)
    (hbN : Box w bN (.slice co L cap) 31) (hbK : Box w bK (.int .i64 k) 3) (hbS : Box w bS (.pointer p) 25) (hbI : Box w bI (.bool false) 4) (hbR : Box w bR (.slice none 0 0) 62) :
    Calls Tryz.prog 70 #[.pointer (some ⟨bN, 0, none⟩), .pointer (some ⟨bK, 0, none⟩), .pointer (some ⟨bS, 0, none⟩), .pointer (some ⟨bI, 0, none⟩), .pointer (some ⟨bR, 0, none⟩)] w fun e w' => RndAns w p B L bI bR r1 r2 r3 r4 e w' := by
  obtain ⟨i0, hi0, hz0, hz1, hz2⟩ := info_parts Tryz.infoN31
  obtain ⟨X, hX⟩ : ∃ X, X = val 18446744073709551616 xs := ⟨_, rfl⟩
  unfold rndAll at hRN
  rw [← hX] at hRN
  obtain ⟨O, hO⟩ : ∃ O, O = oddE X := ⟨_, rfl⟩
  rw [← hO] at hRN
  have HOP : Hid (∀ x, ofP p x → x < B) := fun x hx => (hs.inP hx).1
  have hno : ∀ b, B ≤ b → ¬ ofP p b := fun b hb e => by have := HOP.out b e; omega
  have hRef := yRefuseNumber co L cap xs O (by rw [hO, hX]) w hu hd hL
  have JB : Hid (∀ W, Kept (ofP p) w W → W.cell? ⟨bN, 0, none⟩ = some (.slice co L cap) ∧ W.cell? ⟨bK, 0, none⟩ = some (.int .i64 k) ∧ W.cell? ⟨bS, 0, none⟩ = some (.pointer p)) := fun W kk => ⟨(hbN.kept kk (hno _ lN)).cell, (hbK.kept kk (hno _ lK)).cell, (hbS.kept kk (hno _ lS)).cell⟩
  have JO : Hid (∀ W, Kept (ofP p) w W → Box W bI (.bool false) 4 ∧ Box W bR (.slice none 0 0) 62) := fun W kk => ⟨hbI.kept kk (hno _ lI), hbR.kept kk (hno _ lR)⟩
  have HBw : Hid (B ≤ w.heap.size) := Nat.le_of_lt (Nat.lt_of_le_of_lt lN hbN.lt)
  have HIR := toHid nIR
  have HS := toHid hs
  have HU := toHid hu
  have HO := toHid hO
  have HX := toHid hX
  have HCD := toHid hcd
  obtain ⟨b0, b1, b2⟩ := JB.out _ (Kept.refl _ w)
  obtain ⟨_, _, _, e1, hLx, _⟩ := hu.open
  cases e1
  have HLX := toHid hLx.out
  have hRf1 := yRefuseYes 1 w
  have hRf0 := yRefuseNo 1 w
  clear hno hs hu hO hX hcd lN lK lS lI lR nIR hbN hbK hbS hbI hbR hLx
  by_cases hO0 : O = 0
  · subst hO0
    have hOX : oddE X = 0 := HO.out.symm
    rw [if_neg (by omega)] at hRN
    have hRef' : Calls Tryz.prog 71 #[.slice co L cap] w fun e w' => e = .returned (.tuple #[]) ∧ w' = w := by
      refine hRef.mono ?_
      rintro e w' ⟨⟨_, rfl⟩ | ⟨h, _⟩, rfl⟩
      · exact ⟨rfl, rfl⟩
      · exact absurd rfl h
    clear hRef
    by_cases hkb : k < 0 ∨ 100 < k
    · rw [if_pos hkb] at hRN
      simp only [Prod.mk.injEq] at hRN
      obtain ⟨rfl, rfl, rfl, rfl⟩ := hRN
      clear hRf0
      by_cases hkn : k < 0
      · clear hkb
        go_enter Tryz.func70, Tryz.ntmps70
        go_wp2_with fail
        refine hRef'.mono ?_
        rintro e w1 ⟨rfl, rfl⟩
        go_wp2_with fail
        refine hRf1.mono ?_
        rintro e w2 ⟨rfl, rfl⟩
        exact ⟨rfl, .inr ⟨by omega, rfl, rfl, rfl, HS.out, Kept.refl _ _⟩⟩
      · have hkh : 100 < k := by omega
        have q1 : decide (k < 0) = false := decide_eq_false hkn
        clear hkb
        go_enter Tryz.func70, Tryz.ntmps70
        go_wp2_with fail
        refine hRef'.mono ?_
        rintro e w1 ⟨rfl, rfl⟩
        go_wp2_with fail
        refine hRf1.mono ?_
        rintro e w2 ⟨rfl, rfl⟩
        exact ⟨rfl, .inr ⟨by omega, rfl, rfl, rfl, HS.out, Kept.refl _ _⟩⟩
    · rw [if_neg hkb] at hRN
      obtain ⟨n, rfl⟩ : ∃ n : Nat, k = (n : Int) := ⟨k.toNat, by omega⟩
      rw [Int.toNat_natCast] at hRN
      have hn : n ≤ 100 := by omega
      have q1 : ¬ (n : Int) < 0 := by omega
      have q2 : ¬ (n : Int) > 100 := by omega
      have q2' : ¬ (100 : Int) < (n : Int) := by omega
      have d1 : decide ((n : Int) < 0) = false := decide_eq_false q1
      have d2 : decide ((n : Int) > 100) = false := decide_eq_false q2
      have d2' : decide ((100 : Int) < (n : Int)) = false := decide_eq_false q2'
      have hSp := ySplit co L cap xs X HX.out hOX w HU.out hd hL
      have HRN := toHid hRN
      clear hkb hk0 hk1 hRN hRf1 hOX
      go_enter Tryz.func70, Tryz.ntmps70
      go_wp2_with fail
      refine hRef'.mono ?_
      rintro e w1 ⟨rfl, rfl⟩
      clear hRef'
      go_wp2_with fail
      try rw [d1]
      refine hRf0.mono ?_
      rintro e w2 ⟨rfl, rfl⟩
      clear hRf0 q1 q2 q2' d1 d2 d2'
      go_wp2_with fail
      refine hSp.mono ?_
      rintro e w3 ⟨no, ro, lo, oo, m, mc, rc, lc, oc, K, s, rfl, hN, k3⟩
      obtain ⟨W3, hW3⟩ : ∃ W3, W3 = w3.alloc (.cells (numV no ro lo oo m mc rc lc oc K s) 111) := ⟨_, rfl⟩
      have k4 : Kept Nought w3 W3 := by rw [hW3]; exact (Kept.refl Nought w3).alloc _
      have hb3 : W3.heap[w3.heap.size]? = some (.cells (numV no ro lo oo m mc rc lc oc K s) 111 (0, 0)) := by rw [hW3]; exact heap_alloc_new _ _
      have HK3 := toHid (k3.trans k4)
      have HSz : Hid (B ≤ w3.heap.size) := Nat.le_trans HBw.out k3.size
      have JC : Hid (∀ W', Kept (ofP p) W3 W' → W'.cell? ⟨w3.heap.size, 0, none⟩ = some (.slice no m mc) ∧ W'.cell? ⟨w3.heap.size, 1, none⟩ = some (.int .u64 (K : Nat)) ∧ W'.cell? ⟨w3.heap.size, 2, none⟩ = some (.slice ro m rc) ∧ W'.cell? ⟨w3.heap.size, 3, none⟩ = some (.slice lo m lc) ∧ W'.cell? ⟨w3.heap.size, 4, none⟩ = some (.slice oo m oc) ∧ W'.cell? ⟨w3.heap.size, 5, none⟩ = some (.int .i64 (s : Nat))) := fun W' kk => cells6 ((kk.block _ (lt_of_block hb3) (fun e => by have := HOP.out _ e; have := HSz.out; omega)).trans hb3)
      have HS3 := toHid (HS.out.grew HK3.out)
      have HN3 := toHid (hN.grew k4)
      have HU3 := toHid (HU.out.grew HK3.out)
      have HNP : Hid (∀ W', Kept (ofP p) W3 W' → Num17 W' X no ro lo oo m mc rc lc oc K s) := fun W' kk => HN3.out.scr HS3.out kk
      have HUP : Hid (∀ W', Kept (ofP p) W3 W' → Row .u64 W' (.slice co L cap) xs) := fun W' kk => HU3.out.kept' kk (fun hne => HS3.out.apart HU3.out hne)
      have HW3 := toHid hW3
      have hX3 := hN.big
      have hL0 : 0 < L := by
        rcases Nat.eq_zero_or_pos L with e | e
        · have h1 := HLX.out
          rw [e] at h1
          have h2 := List.length_eq_zero_iff.1 h1
          have h3 := HX.out
          rw [h2] at h3
          have h4 : val 18446744073709551616 [] = 0 := rfl
          omega
        · exact e
      unfold numV at HW3 ⊢
      clear hSp hN k3 k4 hb3 hW3 b0 b1 b2 HS HU
      go_wp2_with (rw [← HW3.out])
      go_loopw [6, 7] (fun pv tv wr => ∃ (pb : Bool) (i : Nat) (qo : Option Addr) (tc : Nat) (acc : List (List Nat)) (ds : List Nat), pv = .bool pb ∧ tv = .slice qo i tc ∧ i ≤ n ∧ Hid (acc.length = i) ∧ Hid (RndSt xs n (r1, r2, r3, r4) pb acc ds) ∧ Hid (Bases wr W3.heap.size (.slice qo i tc) L acc) ∧ Hid (Lsc wr p B ds) ∧ Hid (Digs 256 ds) ∧ Hid (Kept (ofP p) W3 wr)) (fun _ _ wr => lscLen p wr)
      case atStart => exact ⟨true, 0, none, 0, [], cs, rfl, rfl, Nat.zero_le _, rfl, .inl ⟨rfl, cs.length + 1, by omega, HRN.out⟩, Bases.nil _ _ _, HS3.out, HCD.out, Kept.refl _ _⟩
      case round =>
        clear HS3 HRN
        obtain ⟨pb, i, qo, tc, acc, ds, rfl, rfl, hin, HAL, HST, HBS, HSC, HDD, HKP⟩ := hrel
        have KW := HK3.out.any.trans HKP.out
        obtain ⟨c0, c1, c2⟩ := JB.out _ KW
        have HKW := toHid KW
        clear KW
        have HEnd : Hid ((r1, r2, r3, r4) = (pb, acc, 0, ds) → RndAns w2 p B L bI bR r1 r2 r3 r4 (.returned (.tuple #[])) ((wr.setCell ⟨bI, 0, none⟩ (.bool pb)).setCell ⟨bR, 0, none⟩ (.slice qo i tc))) := fun e => by
          simp only [Prod.mk.injEq] at e
          obtain ⟨rfl, rfl, rfl, rfl⟩ := e
          exact .inl ⟨rfl, rfl, _, wr, HBS.out.base HK3.out.size, HSC.out, HKW.out, rfl⟩
        have hBx := JO.out _ HKW.out
        have cI := hBx.1.cell
        have fI := hBx.1.free
        have hR2 := hBx.2.other ⟨bI, 0, none⟩ (fun e => HIR.out e.symm) (.bool pb)
        have cR := hR2.cell
        have fR := hR2.free
        have cR0 := hBx.2.cell
        have fR0 := hBx.2.free
        clear hBx hR2
        rcases HST.out with ⟨hpb, g, hg, heq⟩ | ⟨hpb, heq⟩
        · subst hpb
          by_cases hik : i < n
          · have gik : (i : Int) < (n : Int) := by omega
            have hDr := yDrawn no ro lo oo co p m mc rc lc oc K s X L cap B n i g xs ds acc (r1, r2, r3, r4) HX.out hik hg (by rw [← HAL.out]; exact heq) wr (HNP.out _ HKP.out) (HUP.out _ HKP.out) hd hL HSC.out (Nat.le_trans HBw.out HKW.out.size) HDD.out
            obtain ⟨p0, p1, p2, p3, p4, p5⟩ := JC.out _ HKP.out
            unfold numV at hDr
            have HLEN := toHid HSC.out.left
            have HAPP := toHid (fun v zs (h : Row .u64 wr v zs) hne => HSC.out.apart h hne)
            have HTO : Hid (∀ y, (Value.slice qo i tc).ownBlock = some y → W3.heap.size ≤ y ∧ y < wr.heap.size) := fun y hy => by
              obtain ⟨_, _, _, hGG⟩ := HBS.out
              exact World.ownsRow.lt hGG.1 y hy
            clear heq hg cI fI cR fR cR0 fR0 HEnd
            go_wp2_with fail
            refine hDr.mono ?_
            rintro e w5 (⟨v, x, ds', rfl, ⟨hrv, hnv⟩, hnx, hs5, hd5, hlt5, k5⟩ | ⟨E, ds', rfl, hE0, heq, hs5, k5⟩)
            · have hxl : x.length = L := hnx.1.1.trans HLX.out
              obtain ⟨uo, uc, rfl⟩ := row_slice hrv hxl
              have HNX := toHid hnx
              have HS5 := toHid hs5
              have HD5 := toHid hd5
              have HLT5 := toHid hlt5
              have KEP := HKP.out.trans k5
              have BAS := HBS.out.keptS k5 (fun y hy e => by have := HOP.out y e; have := HK3.out.size; have := HBw.out; omega) HAPP.out
              have hsz5 := k5.size
              have RU := hrv
              have hnu9 : ∀ y, (Value.slice uo L uc).ownBlock = some y → wr.heap.size ≤ y := hnv
              obtain ⟨hal, GA, GC, hG⟩ := BAS
              have hGa := hG.grew ((Kept.refl Nought w5).alloc (.cells #[.slice uo L uc] 31))
              have hout := World.ownsRow.lt hG.1
              have ho9 := hGa.1
              have HRa := toHid (RU.grew ((Kept.refl Nought w5).alloc (.cells #[.slice uo L uc] 31)))
              have hne' : x ≠ [] := fun e => by subst e; simp at hxl; omega
              rw [HAL.out] at ho9
              have HKEP := toHid KEP
              have HZ5 : Hid (wr.heap.size ≤ w5.heap.size ∧ W3.heap.size ≤ w5.heap.size) := ⟨hsz5, KEP.size⟩
              have hsz3 : W3.heap.size ≤ w5.heap.size := KEP.size
              clear hDr hrv hnv hnx hs5 hd5 hlt5 k5 RU KEP p0 p1 p2 p3 p4 p5
              go_wp2_with (at_builtin; refine wpList_append_lies _ rfl _ _ 62 rfl W3.heap.size 31 i0 _ 1 24 Tryz.underlying62 hi0 hz0 hz1 hz2 rfl (by omega) _ _ _ rfl ho9 ⟨w5.heap.size, 0, none⟩ 1 1 [.slice uo L uc] rfl rfl (new1_cells w5 _ _) (by simp [Value.oneCell']) (by omega) (by unfold maxLen; omega) (by omega) (by simp; omega) (w5.heap.size + 1) (by simp) ?_; intro gg c' w10 ho10 hg hat hgl; have K10 : Hid (Kept (ofP p) W3 w10) := (HKEP.out.alloc _).grown hg (fun y hy hlt => by have := (hout y hy).1; omega); obtain ⟨p0, p1, p2, p3, p4, p5⟩ := JC.out _ K10.out)
              have hg' : (w5.alloc (.cells #[.slice uo L uc] 31)).grownBy w10 (Value.slice qo i tc).ownBlock := hg
              have hat' : (Value.slice qo i tc).ownBlock = some gg ∨ gg = (w5.alloc (.cells #[.slice uo L uc] 31)).heap.size := (show (Value.slice qo i tc).ownBlock = some gg ∨ gg = w5.heap.size + 1 from hat).imp id (fun h => by simpa using h)
              have ho10' : w10.ownsRow W3.heap.size 31 1 (.slice (some ⟨gg, 0, none⟩) (acc.length + 1) c') (acc.length + 1) (((List.range acc.length).map fun j => .slice (GA j) L (GC j)) ++ [.slice uo L uc]) := by rw [HAL.out]; exact ho10
              have hya : ∀ y, (Value.slice uo L uc).ownBlock = some y → (Value.slice qo i tc).ownBlock ≠ some y := fun y hy e => by have := hnu9 y hy; have := (HTO.out y e).2; omega
              have BAS10 := toHid (Bases.push hL0 hal hGa hxl HRa.out hya ho10' hg' hat')
              have kout : Kept (fun y => (Value.slice qo i tc).ownBlock = some y) (w5.alloc (.cells #[.slice uo L uc] 31)) w10 := (Kept.refl _ _).grown hg' (fun y e _ => e)
              have SCR10 := toHid ((HS5.out.grew ((Kept.refl Nought w5).alloc (.cells #[.slice uo L uc] 31))).kept kout (fun y hy e => by have := (hout y e).1; have := HK3.out.size; have := HBw.out; omega))
              have hrx := (append_apart (n := i + 1) (cap := c') HRa.out hne' hya hg' hat').1
              have hPs := yPasses no ro lo oo uo m mc rc lc oc K s X L uc (val 18446744073709551616 x) x (strongB X (val 18446744073709551616 x)) rfl (by have := HNX.out.1.2.2.2; omega) (strongB_iff _ _) w10 (HNP.out _ K10.out) hrx HNX.out.1.2.1
              unfold numV at hPs
              have HST2 := toHid (HNX.out.st HAL.out)
              rw [HAL.out] at BAS10
              generalize strongB X (val 18446744073709551616 x) = pb2 at *
              clear hg hat ho10 hg' hat' ho10' hya kout hrx hGa hG hout ho9 HRa HKEP hnu9 hal hgl c0 c1 c2
              refine hPs.mono ?_
              rintro e w11 ⟨rfl, k11⟩
              have BF := toHid (BAS10.out.grew k11)
              have SF := toHid (SCR10.out.grew k11)
              have KF := toHid (K10.out.trans k11.any)
              have HM : Hid (lscLen p w11 < lscLen p wr) := by unfold Hid; rw [SF.out.left, HLEN.out]; exact HLT5.out
              clear hPs k11 p0 p1 p2 p3 p4 p5
              go_wp2_with fail
              go_roundw
              case rel => exact ⟨pb2, i + 1, some ⟨gg, 0, none⟩, c', acc ++ [x], ds', rfl, rfl, by omega, by unfold Hid; rw [List.length_append, HAL.out]; rfl, HST2, BF, SF, HD5, KF⟩
              case measure => exact HM.out
            · simp only [Prod.mk.injEq] at heq
              obtain ⟨rfl, rfl, rfl, rfl⟩ := heq
              exact ⟨rfl, .inr ⟨hE0, rfl, rfl, rfl, hs5, HKW.out.trans k5⟩⟩
          · have gik : ¬ (i : Int) < (n : Int) := by omega
            have he : (r1, r2, r3, r4) = (true, acc, 0, ds) := by
              obtain ⟨g', rfl⟩ : ∃ g', g = g' + 1 := ⟨g - 1, by omega⟩
              rw [HAL.out] at heq
              unfold rndF at heq
              rw [if_pos (by omega)] at heq
              exact heq.symm
            have HF := toHid (HEnd.out he)
            clear HEnd he heq hg
            go_wp2_with fail
            go_end0
            exact HF.out
        · subst hpb
          have HF := toHid (HEnd.out heq.symm)
          clear HEnd heq
          go_wp2_with fail
          go_end0
          exact HF.out
  · rw [if_pos hO0] at hRN
    simp only [Prod.mk.injEq] at hRN
    obtain ⟨rfl, rfl, rfl, rfl⟩ := hRN
    have hRef' : Calls Tryz.prog 71 #[.slice co L cap] w fun e w' => e = .panicked [refusal (O : Nat)] ∧ w' = w := by
      refine hRef.mono ?_
      rintro e w' ⟨⟨h, _⟩ | ⟨_, rfl⟩, rfl⟩
      · exact absurd h hO0
      · exact ⟨rfl, rfl⟩
    clear hRef hRf1 hRf0
    go_enter Tryz.func70, Tryz.ntmps70
    go_wp2_with fail
    refine hRef'.mono ?_
    rintro e w1 ⟨rfl, rfl⟩
    exact ⟨rfl, .inr ⟨hO0, rfl, rfl, rfl, HS.out, Kept.refl _ _⟩⟩

end Go.Proofs.YtcjaafmlflonhaaGreatDoor


/- Package miller: Rounds, from outside. -/
namespace Go.Proofs.YtcjaafmlflonhaaGreatDoor
open Go.RowKit

theorem Bases.box {w : World} {base b L : Nat} {out u : Value} {t : TypeId} {acc : List (List Nat)} (h : Bases w base out L acc) (hb : Box w b u t) (hu : ∀ z, u ≠ .int .u64 z) (hlt : b < base) (x : Value) : Bases (w.setCell ⟨b, 0, none⟩ x) base out L acc :=
  h.keptS (kept_box w b x) (fun y hy e => by have e' : y = b := e; omega) (fun v zs hr hne y hy e => by
    have e' : y = b := e
    subst e'
    exact row_apart hb (fun q hq z => by simp at hq; rw [hq]; exact hu z) hr hne hy)

theorem Lsc.box {w : World} {p : Option Addr} {B b : Nat} {bs : List Nat} (h : Lsc w p B bs) (hB : B ≤ b) (x : Value) : Lsc (w.setCell ⟨b, 0, none⟩ x) p B bs := h.kept (kept_box w b x) (fun y hy e => by have e' : y = b := e; omega)

set_option maxRecDepth 20000 in
set_option maxHeartbeats 2000000 in
/-- Rounds. -/
theorem yRounds (co p : Option Addr) (L cap B : Nat) (k : Int) (xs cs : List Nat) (r1 : Bool) (r2 : List (List Nat)) (r3 : Nat) (r4 : List Nat) (hRN : rndAll xs k cs = (r1, r2, r3, r4)) (hk0 : -9223372036854775808 ≤ k) (hk1 : k ≤ 9223372036854775807) (w : World)
    (hu : Row .u64 w (.slice co L cap) xs) (hd : Digs 18446744073709551616 xs) (hL : L ≤ 1000000) (hs : Lsc w p B cs) (hB : B ≤ w.heap.size) (hcd : Digs 256 cs) :
    Calls Tryz.prog 40 #[.pointer p, .slice co L cap, .int .i64 k] w fun e w' => ∃ v', e = .returned (.tuple #[.bool r1, v', .int .i64 (r3 : Int)]) ∧ Bases w' w.heap.size v' L r2 ∧ Lsc w' p B r4 ∧ Kept (ofP p) w w' := by
  have hmf : ∀ (fn : Fn) (first cap : Array Value) (w : World), (Instr.makeFunc fn first cap).run Tryz.prog w = .ok (.func fn first cap) w := fun _ _ _ _ => rfl
  have he : ∀ args w, (callFunc 70 args).run Tryz.prog w = .ok (.enter 70 args) w := fun _ _ => by simp [go_sem]
  obtain ⟨W, hW⟩ : ∃ W, W = ((((w.alloc (.cells #[.pointer p] 25)).alloc (.cells #[.slice co L cap] 31)).alloc (.cells #[.int .i64 k] 3)).alloc (.cells #[.bool false] 4)).alloc (.cells #[.slice none 0 0] 62) := ⟨_, rfl⟩
  obtain ⟨k0, x0, x1, x2, x3, x4, hsz⟩ := boxes5 w (.pointer p) (.slice co L cap) (.int .i64 k) (.bool false) (.slice none 0 0) 25 31 3 4 62
  rw [← hW] at k0 x0 x1 x2 x3 x4 hsz
  have k1 := k0.alloc (.cells #[.int .i64 0] 32)
  have xe := Box.new W (.int .i64 0) 32
  have hsz1 : (W.alloc (.cells #[.int .i64 0] 32)).heap.size = W.heap.size + 1 := by simp
  have hno : ∀ b, B ≤ b → ¬ ofP p b := fun b hb e => by have := (hs.inP e).1; omega
  have h1 := yRounds1 co p L cap B (w.heap.size + 1) (w.heap.size + 1 + 1) w.heap.size (w.heap.size + 1 + 1 + 1) (w.heap.size + 1 + 1 + 1 + 1) k xs cs r1 r2 r3 r4 hRN hk0 hk1 _ (hu.grew k1) hd hL (hs.grew k1) hcd (by omega) (by omega) (by omega) (by omega) (by omega) (by omega) (x1.alloc _) (x2.alloc _) (x0.alloc _) (x3.alloc _) (x4.alloc _)
  have hAt := yAttempt 70 #[.pointer (some ⟨w.heap.size + 1, 0, none⟩), .pointer (some ⟨w.heap.size + 1 + 1, 0, none⟩), .pointer (some ⟨w.heap.size, 0, none⟩), .pointer (some ⟨w.heap.size + 1 + 1 + 1, 0, none⟩), .pointer (some ⟨w.heap.size + 1 + 1 + 1 + 1, 0, none⟩)] W
    (fun c W' => c = (r3 : Nat) ∧ Kept (ofP p) w W' ∧ Lsc W' p B r4 ∧ ∃ v, Bases W' (W.heap.size + 1) v L r2 ∧ Box W' (w.heap.size + 1 + 1 + 1) (.bool r1) 4 ∧ Box W' (w.heap.size + 1 + 1 + 1 + 1) v 62) he (h1.mono (by
    rintro e w' (⟨h2, rfl, v, w1, hbs, hsc, kk, rfl⟩ | ⟨h2, rfl, rfl, rfl, hsc, kk⟩)
    · rw [hsz1] at hbs
      have hE1 : Box w1 W.heap.size (.int .i64 0) 32 := xe.kept kk (hno _ (by omega))
      have hI1 := (x3.alloc (.cells #[.int .i64 0] 32)).kept kk (hno _ (by omega))
      have hR1 := (x4.alloc (.cells #[.int .i64 0] 32)).kept kk (hno _ (by omega))
      have hbs2 := hbs.box hI1 (fun z e => by cases e) (by omega) (.bool r1)
      have hI2 := hI1.set (.bool r1)
      have hR2 := hR1.other ⟨w.heap.size + 1 + 1 + 1, 0, none⟩ (by show w.heap.size + 1 + 1 + 1 + 1 ≠ w.heap.size + 1 + 1 + 1; omega) (.bool r1)
      have hE2 := hE1.other ⟨w.heap.size + 1 + 1 + 1, 0, none⟩ (by show W.heap.size ≠ w.heap.size + 1 + 1 + 1; omega) (.bool r1)
      have hbs3 := hbs2.box hR2 (fun z e => by cases e) (by omega) v
      have hI3 := hI2.other ⟨w.heap.size + 1 + 1 + 1 + 1, 0, none⟩ (by show w.heap.size + 1 + 1 + 1 ≠ w.heap.size + 1 + 1 + 1 + 1; omega) v
      have hR3 := hR2.set v
      have hE3 := hE2.other ⟨w.heap.size + 1 + 1 + 1 + 1, 0, none⟩ (by show W.heap.size ≠ w.heap.size + 1 + 1 + 1 + 1; omega) v
      refine ⟨hE3, .inl ⟨rfl, by rw [h2]; rfl, ?_, (hsc.box (by omega) _).box (by omega) _, v, hbs3, hI3, hR3⟩⟩
      exact ((k1.any.trans kk).next (kept_box w1 (w.heap.size + 1 + 1 + 1) (.bool r1)) (fun x hx e => by omega)).next (kept_box _ (w.heap.size + 1 + 1 + 1 + 1) v) (fun x hx e => by omega)
    · have hE1 : Box w' W.heap.size (.int .i64 0) 32 := xe.kept kk (hno _ (by omega))
      have hI1 := (x3.alloc (.cells #[.int .i64 0] 32)).kept kk (hno _ (by omega))
      have hR1 := (x4.alloc (.cells #[.int .i64 0] 32)).kept kk (hno _ (by omega))
      exact ⟨hE1, .inr ⟨_, rfl, rfl, k1.any.trans kk, hsc, .slice none 0 0, Bases.nil _ _ _, hI1, hR1⟩⟩))
  have HW := toHid hW
  have HSZ := toHid hsz
  have HB := toHid hB
  clear h1 hu hd hL hs hB hcd hRN hk0 hk1 hW k0 k1 x0 x1 x2 x3 x4 xe he hsz hsz1 hno
  go_enter Tryz.func40, Tryz.ntmps40
  go_wp2_with (rw [← HW.out])
  refine hAt.mono ?_
  rintro e w' ⟨c, w1, rfl, ⟨⟨rfl, k2, hsc, v, hbs, hI, hR⟩, hbe⟩, rfl⟩
  have hbe' : Box w1 W.heap.size (.int .i64 0) 32 := hbe
  have hs6 : W.heap.size = w.heap.size + 1 + 1 + 1 + 1 + 1 := HSZ.out
  have k4 := k2.next (kept_box w1 W.heap.size (.int .i64 (r3 : Nat))) (fun x hx e => by omega)
  have hbs2 := hbs.box hbe' (fun z e => by cases e) (by omega) (.int .i64 (r3 : Nat))
  have hsc2 := hsc.box (b := W.heap.size) (by have := HB.out; omega) (.int .i64 (r3 : Nat))
  have hI2 := hI.other ⟨W.heap.size, 0, none⟩ (by show w.heap.size + 1 + 1 + 1 ≠ W.heap.size; omega) (.int .i64 (r3 : Nat))
  have hR2 := hR.other ⟨W.heap.size, 0, none⟩ (by show w.heap.size + 1 + 1 + 1 + 1 ≠ W.heap.size; omega) (.int .i64 (r3 : Nat))
  generalize w1.setCell ⟨W.heap.size, 0, none⟩ (.int .i64 (r3 : Nat)) = w2 at *
  obtain ⟨vo, vc, rfl⟩ := hbs2.slice
  have c1 := hI2.cell
  have f1 := hI2.free
  have c2 := hR2.cell
  have f2 := hR2.free
  have hI3 := hI2.set (.bool r1)
  have hR3 := hR2.other ⟨w.heap.size + 1 + 1 + 1, 0, none⟩ (by show w.heap.size + 1 + 1 + 1 + 1 ≠ w.heap.size + 1 + 1 + 1; omega) (.bool r1)
  have hI4 := hI3.other ⟨w.heap.size + 1 + 1 + 1 + 1, 0, none⟩ (by show w.heap.size + 1 + 1 + 1 ≠ w.heap.size + 1 + 1 + 1 + 1; omega) (.slice vo r2.length vc)
  have hR4 := hR3.set (.slice vo r2.length vc)
  have c3 := hI4.cell
  have c4 := hR4.cell
  have HBS := toHid (((hbs2.box hI2 (fun z e => by cases e) (by omega) (.bool r1)).box hR3 (fun z e => by cases e) (by omega) (.slice vo r2.length vc)).base (show w.heap.size ≤ W.heap.size + 1 by omega))
  have HSC := toHid ((hsc2.box (b := w.heap.size + 1 + 1 + 1) (by have := HB.out; omega) (.bool r1)).box (b := w.heap.size + 1 + 1 + 1 + 1) (by have := HB.out; omega) (.slice vo r2.length vc))
  have HK := toHid ((k4.next (kept_box w2 (w.heap.size + 1 + 1 + 1) (.bool r1)) (fun x hx e => by omega)).next (kept_box _ (w.heap.size + 1 + 1 + 1 + 1) (.slice vo r2.length vc)) (fun x hx e => by omega))
  clear hAt hbs hbs2 hsc hsc2 hI hR hI2 hR2 hI3 hR3 hI4 hR4 k2 k4 hbe hbe' hs6
  generalize hr2l : r2.length = ln at *
  clear hr2l
  go_wp2_with fail
  go_region
  all_goals
    go_wp2
    exact bodyPost_ret (v := .tuple #[.bool r1, .slice vo ln vc, .int .i64 (r3 : Nat)]) (by simp [results, Tryz.results40, go_sem, c3, c4]) rfl ⟨_, rfl, HBS.out.grew (Kept.refl _ _).drew, HSC.out.grew (Kept.refl _ _).drew, HK.out.trans (Kept.refl Nought _).drew.any⟩

end Go.Proofs.YtcjaafmlflonhaaGreatDoor


/- The plain side of layers 18 and 19 (package sconceref18): one, Size, Good, Common. -/
namespace Go.Proofs.YtcjaafmlflonhaaGreatDoor
open Go.RowKit

theorem r18one (w : World) : Calls Tryz.prog 45 #[] w fun r w' => ∃ v', r = .returned v' ∧ IsBig w' v' 1 ∧ (∀ b, v'.ownBlock = some b → w.heap.size ≤ b) ∧ Kept Nought w w' := by
  have h := rSmall 1 (by omega) w
  go_enter Tryz.func45, Tryz.ntmps45
  go_wp2_with fail
  refine h.mono ?_
  rintro e w1 ⟨v1, rfl, h1, h2, h3⟩
  go_wp2_with fail
  go_ret
  exact ⟨_, rfl, h1, h2, h3⟩

end Go.Proofs.YtcjaafmlflonhaaGreatDoor

