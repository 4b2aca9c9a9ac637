/- Put together of: Prm5 Src1 Seq2. -/
import Derived.Test.YtcjaafmlflonhaaGreatDoorPk22
import Derived.Test.YtcjaafmlflonhaaGreatDoorPk27
import Derived.Test.YtcjaafmlflonhaaGreatDoorPk29

/- The plain side of layer 17 (package sconceref16): Rounds. -/
namespace Go.Proofs.YtcjaafmlflonhaaGreatDoor
open Go.RowKit

/-- A slice of numbers that a call has made: their words are acc. -/
def Bases (w : World) (base : Nat) (out : Value) (L : Nat) (acc : List (List Nat)) : Prop := (∀ x ∈ acc, x.length = L) ∧ ∃ A C, Grows w base out L acc.length A C (fun j => acc.getD j (List.replicate L 0))

theorem Bases.grew {w w' : World} {base : Nat} {out : Value} {L : Nat} {acc : List (List Nat)} (h : Bases w base out L acc) (k : Kept Nought w w') : Bases w' base out L acc := by
  obtain ⟨h1, A, C, h2⟩ := h
  exact ⟨h1, A, C, h2.grew k⟩

theorem Bases.nil (w : World) (base L : Nat) : Bases w base (.slice none 0 0) L [] := ⟨(fun x hx => by cases hx), fun _ => none, fun _ => 0, Grows.nil _ _ _ _ _ _⟩

theorem Bases.base {w : World} {base base' : Nat} {out : Value} {L : Nat} {acc : List (List Nat)} (h : Bases w base out L acc) (hb : base' ≤ base) : Bases w base' out L acc := by
  obtain ⟨h1, A, C, h2⟩ := h
  exact ⟨h1, A, C, h2.base hb⟩

theorem Bases.kept {w w' : World} {base b : Nat} {out : Value} {L : Nat} {acc : List (List Nat)} (h : Bases w base out L acc) (k : Kept (fun x => x = b) w w') (hb : b < base) (hap : ∀ v zs, Row .u64 w v zs → zs ≠ [] → ∀ x, v.ownBlock = some x → x ≠ b) : Bases w' base out L acc := by
  obtain ⟨h1, A, C, h2, h3⟩ := h
  refine ⟨h1, A, C, k.own h2 (fun x hx e => ?_), fun j hj => ⟨?_, (h3 j hj).2⟩⟩
  · have := (World.ownsRow.lt h2 x hx).1
    omega
  · refine (h3 j hj).1.kept' k (fun hne x hx e => ?_)
    exact hap _ _ (h3 j hj).1 hne x hx e

theorem Bases.push {W w4 : World} {base : Nat} {out : Value} {L g cap : Nat} {acc : List (List Nat)} {x : List Nat} {yo : Option Addr} {yc : Nat} (hL : 0 < L) (h1 : ∀ x ∈ acc, x.length = L) {A : Nat → Option Addr} {C : Nat → Nat} (h2 : Grows W base out L acc.length A C (fun j => acc.getD j (List.replicate L 0))) (hx : x.length = L)
    (hy : Row .u64 W (.slice yo L yc) x) (hya : ∀ b, (Value.slice yo L yc).ownBlock = some b → out.ownBlock ≠ some b)
    (ho : w4.ownsRow base 31 1 (.slice (some ⟨g, 0, none⟩) (acc.length + 1) cap) (acc.length + 1) (((List.range acc.length).map fun j => .slice (A j) L (C j)) ++ [.slice yo L yc])) (hg : W.grownBy w4 out.ownBlock) (hat : out.ownBlock = some g ∨ g = W.heap.size) :
    Bases w4 base (.slice (some ⟨g, 0, none⟩) (acc.length + 1) cap) L (acc ++ [x]) := by
  refine ⟨fun z hz => ?_, fun j => if j = acc.length then yo else A j, fun j => if j = acc.length then yc else C j, ?_⟩
  · rcases List.mem_append.1 hz with h | h
    · exact h1 z h
    · rw [List.mem_singleton.1 h]; exact hx
  · have hne : ∀ z : List Nat, z.length = L → z ≠ [] := fun z hz e => by subst e; simp at hz; omega
    have h2' : Grows W base out L acc.length A C (fun j => (acc ++ [x]).getD j (List.replicate L 0)) := ⟨h2.1, fun j hj => by
      have := h2.2 j hj
      dsimp only
      rw [List.getD_eq_getElem?_getD, List.getElem?_append_left hj, ← List.getD_eq_getElem?_getD]
      exact this⟩
    have := h2'.push (fun j => hne _ (by
      rw [List.getD_eq_getElem?_getD]
      by_cases hj : j < (acc ++ [x]).length
      · rw [List.getElem?_eq_getElem hj, Option.getD_some]
        rcases List.mem_append.1 (List.getElem_mem hj) with h | h
        · exact h1 _ h
        · rw [List.mem_singleton.1 h]; exact hx
      · rw [List.getElem?_eq_none (by omega), Option.getD_none, List.length_replicate])) (yo := yo) (yc := yc) (by
        rw [List.getD_eq_getElem?_getD, List.getElem?_append_right (Nat.le_refl _), Nat.sub_self]
        exact hy) hya ho hg hat
    rw [List.length_append]
    exact this

set_option maxRecDepth 20000 in
set_option maxHeartbeats 4000000 in
/-- Rounds. -/
theorem r16Rounds (b B : Nat) (bs xs : List Nat) (ao : Option Addr) (L cap : Nat) (k : Int) (r1 : Bool) (r2 : List (List Nat)) (r3 : Nat) (r4 : List Nat) (hRN : rndAll xs k bs = (r1, r2, r3, r4)) (hk0 : -9223372036854775808 ≤ k) (hk1 : k ≤ 9223372036854775807) (w : World) (h : ScrAt w b B bs) (hB : B ≤ w.heap.size) (hbd : Digs 256 bs) (hbl : bs.length ≤ 1000000) (hu : Row .u64 w (.slice ao L cap) xs) (hdx : Digs 18446744073709551616 xs) (hLb : L ≤ 1000000) :
    Calls Tryz.prog 26 #[.pointer (some ⟨b, 0, none⟩), .slice ao L cap, .int .i64 k] w fun e w' => ∃ v', e = .returned (.tuple #[.bool r1, v', .int .i64 (r3 : Int)]) ∧ Bases w' w.heap.size v' L r2 ∧ ScrAt w' b B r4 ∧ Kept (fun x => x = b) w w' := by
  obtain ⟨i0, hi0, hz0, hz1, hz2⟩ := info_parts Tryz.infoN31
  obtain ⟨_, _, _, e1, hL, _, _, _, _⟩ := hu.open
  cases e1
  have hO := r16odd ao L cap xs _ rfl w hu hdx hLb
  have JX : Hid (∀ W, Kept Nought w W → Calls Tryz.prog 11 #[.slice ao L cap] W fun r w' => ∃ v', r = .returned v' ∧ IsBig w' v' (val 18446744073709551616 xs) ∧ (∀ b, v'.ownBlock = some b → W.heap.size ≤ b) ∧ Kept Nought W w') := fun W k => rOf _ xs W (hu.grew k) hdx (by rw [hL.out]; omega)
  have HS := toHid h
  have hbB : b < w.heap.size := h.lt
  unfold rndAll at hRN
  have HL := toHid hL
  clear h hL
  obtain ⟨O, hOe⟩ : ∃ O, O = oddE (val 18446744073709551616 xs) := ⟨_, rfl⟩
  rw [← hOe] at hO hRN
  have HO := toHid hOe
  clear hOe
  by_cases hO0 : O = 0
  · subst hO0
    rw [if_neg (by omega)] at hRN
    by_cases hkb : k < 0 ∨ 100 < k
    · rw [if_pos hkb] at hRN
      cases hRN
      by_cases hkn : k < 0
      · clear hkb
        go_enter Tryz.func26, Tryz.ntmps26
        go_wp2_with fail
        refine hO.mono ?_
        rintro e w1 ⟨rfl, k1⟩
        clear hO
        go_wp2_with fail
        exact bodyPost_ret (v := .tuple #[.bool false, .slice none 0 0, .int .i64 1]) (by simp [results, Tryz.results26, go_sem]) rfl ⟨_, rfl, Bases.nil _ _ _, HS.out.grew k1, k1.any⟩
      · have hkh : 100 < k := by omega
        clear hkb
        go_enter Tryz.func26, Tryz.ntmps26
        go_wp2_with fail
        refine hO.mono ?_
        rintro e w1 ⟨rfl, k1⟩
        clear hO
        go_wp2_with fail
        exact bodyPost_ret (v := .tuple #[.bool false, .slice none 0 0, .int .i64 1]) (by simp [results, Tryz.results26, go_sem]) rfl ⟨_, rfl, Bases.nil _ _ _, HS.out.grew k1, k1.any⟩
    · rw [if_neg hkb] at hRN
      obtain ⟨n, rfl⟩ : ∃ n : Nat, k = (n : Int) := ⟨k.toNat, by omega⟩
      rw [Int.toNat_natCast] at hRN
      have hn : n ≤ 100 := by omega
      obtain ⟨hX3, hX2, nw, hnw, hXb⟩ := oddE_ok HO.out.symm
      have hdl : dlen (val 18446744073709551616 xs) ≤ 260 := by
        have : dlen (val 18446744073709551616 xs) ≤ 2 * nw := (dlen_le _ _).2 (by rw [Nat.pow_mul]; exact hXb)
        omega
      have hne : xs ≠ [] := fun e => by subst e; simp [val] at hX3
      have hL0 : 0 < L := by
        rcases Nat.eq_zero_or_pos L with e | e
        · exact absurd (List.length_eq_zero_iff.1 (HL.out.out.trans e)) hne
        · exact e
      have HU := toHid hu
      have HAp := toHid (scr_apart HS.out hu hne)
      clear hkb hk0 hk1 hXb hnw hu
      obtain ⟨X, hX⟩ : ∃ X, X = val 18446744073709551616 xs := ⟨_, rfl⟩
      rw [← hX] at JX hX3 hX2 hdl
      have HXe := toHid hX
      clear hX
      go_enter Tryz.func26, Tryz.ntmps26
      go_wp2_with fail
      refine hO.mono ?_
      rintro e w1 ⟨rfl, k1⟩
      have h1 := JX.out _ k1
      clear hO
      go_wp2_with fail
      refine h1.mono ?_
      rintro e w2 ⟨v2, rfl, hb2, hn2, k2⟩
      have K2 := k1.trans k2
      have h2 := rSmall 1 (by omega) w2
      clear h1
      go_wp2_with fail
      refine h2.mono ?_
      rintro e w3 ⟨v3, rfl, hb3, _, k3⟩
      have K3 := K2.trans k3
      have h3 := rSub v2 v3 X 1 w3 (hb2.grew k3) hb3 (by omega)
      clear h2
      go_wp2_with fail
      refine h3.mono ?_
      rintro e w4 ⟨v4, rfl, hb4, hn4, k4⟩
      have HK4 := toHid (K3.trans k4)
      have HL4 := toHid hb4
      have HNW4 : Hid (∀ x, v4.ownBlock = some x → w.heap.size ≤ x) := fun x hx => Nat.le_trans K3.size (hn4 x hx)
      have HS4 := toHid (HS.out.grew HK4.out)
      have HU4 := toHid (HU.out.grew HK4.out)
      have HRN := toHid hRN
      have HBD := toHid hbd
      clear h3 hb2 hb3 hb4 hn2 hn4 k1 k2 k3 k4 K2 K3 hRN hbd HU HS JX
      go_wp2_with fail
      go_loopw [12, 13] (fun ov iv wr => ∃ (cs : List Nat) (acc : List (List Nat)) (f : Nat), iv = .int .i64 (acc.length : Int) ∧ acc.length ≤ n ∧ cs.length < f ∧ cs.length ≤ bs.length ∧ Hid (Digs 256 cs) ∧ Hid (ScrAt wr b B cs) ∧ Hid (Bases wr w4.heap.size ov L acc) ∧ Hid (Kept (fun x => x = b) w4 wr) ∧ Hid (rndF xs n f acc.length cs acc = (r1, r2, r3, r4))) (fun _ _ wr => scrLen b wr)
      case atStart => exact ⟨bs, [], bs.length + 1, rfl, Nat.zero_le _, by omega, Nat.le_refl _, HBD.out, HS4.out, Bases.nil _ _ _, Kept.refl _ _, HRN.out⟩
      case round =>
        obtain ⟨cs, acc, f, rfl, hacc, hcf, hcb, hcd, hsc, hba, hkp, heq⟩ := hrel
        obtain ⟨g, rfl⟩ : ∃ g, f = g + 1 := ⟨f - 1, by omega⟩
        have HLEN := toHid hsc.out.len
        have heq' := heq.out
        unfold rndF at heq'
        generalize hal : acc.length = i at *
        have HAL := toHid hal
        clear hal
        by_cases hin : n ≤ i
        · obtain rfl : i = n := by omega
          rw [if_pos (Nat.le_refl _)] at heq'
          simp only [Prod.mk.injEq] at heq'
          obtain ⟨rfl, rfl, rfl, rfl⟩ := heq'
          go_wp2_with fail
          go_ret3
          exact ⟨_, rfl, hba.out.base HK4.out.size, hsc.out, HK4.out.any.trans hkp.out⟩
        · have gin : (i : Int) < (n : Int) := by omega
          rw [if_neg hin] at heq'
          have hr : Row .u64 wr (.slice ao L cap) xs := HU4.out.kept' hkp.out (fun _ x hx e => HAp.out x hx e)
          by_cases h300 : L ≤ 300
          · by_cases hE0 : belE xs cs = 0
            · have hBl := r15Below b B cs xs (.slice ao L cap) wr hsc.out hcd.out (by omega) hr hdx (by rw [HL.out.out]; exact h300) (by rw [← HXe.out]; omega)
              rw [hE0] at hBl
              rw [if_neg (by omega)] at heq'
              have hlt := bel_less hE0
              have hxl := bel_len hE0
              have hxd : Digs 18446744073709551616 (belX xs cs) := by unfold belX; rw [if_pos hE0]; exact digs_digs (by omega) _ _
              have hrd : Hid (Digs 256 (belR xs cs)) := by
                obtain ⟨m, hm⟩ := bel_rest xs cs
                unfold Hid
                rw [hm]
                exact hcd.out.drop m
              rw [HL.out.out] at hxl
              have hval := bel_val hdx hE0
              rw [← HXe.out] at hval
              generalize belK xs cs = kk at *
              generalize belX xs cs = x at *
              generalize belR xs cs = cs' at *
              clear hE0 heq
              obtain ⟨a, ha⟩ : ∃ a, a = val 18446744073709551616 x := ⟨_, rfl⟩
              rw [← ha] at hval heq'
              rw [← HXe.out] at heq'
              have HAe := toHid ha
              clear ha
              have hLw : IsBig wr v4 (X - 1) := HL4.out.kept hkp.out (fun y hy e => by have := HNW4.out y hy; omega)
              have HOUT : Hid (∀ y, u12.ownBlock = some y → y < wr.heap.size) := fun y hy => by
                obtain ⟨_, _, _, hGG⟩ := hba.out
                exact (World.ownsRow.lt hGG.1 y hy).2
              have HAPP := toHid (fun v zs (h : Row .u64 wr v zs) hne => scr_apart hsc.out h hne)
              go_wp2_with fail
              refine hBl.mono ?_
              rintro e w5 ⟨u, rfl, hru, hnu, hs5, k5⟩
              obtain ⟨uo, uc, rfl⟩ := row_slice hru hxl
              have HB5 := toHid (hba.out.kept k5 (Nat.lt_of_lt_of_le hbB HK4.out.size) HAPP.out)
              have hL5 : IsBig w5 v4 (X - 1) := hLw.kept k5 (fun y hy e => by have := HNW4.out y hy; omega)
              have K5 := toHid (hkp.out.trans k5)
              have HS5 := toHid hs5
              have HRU := toHid hru
              have h5 := rOf _ x w5 hru hxd (by rw [hxl]; omega)
              rw [← HAe.out] at h5
              clear hBl hLw hs5 hru hr hba hsc hkp
              go_wp2_with fail
              refine h5.mono ?_
              rintro e w6 ⟨v6, rfl, hb6, _, k6⟩
              have h6 := rSmall 1 (by omega) w6
              clear h5
              go_wp2_with fail
              refine h6.mono ?_
              rintro e w7 ⟨v7, rfl, hb7, _, k7⟩
              have h7 := rCmp v6 v7 a 1 w7 (hb6.grew k7) hb7
              have k57 := k6.trans k7
              have hL7 := hL5.grew k57
              have hb67 := hb6.grew k7
              clear h6 hb6 hb7 k6 k7 hL5
              by_cases ha1 : a = 1
              · rw [if_pos (.inl ha1)] at heq'
                rw [cmpN_eq ha1] at h7
                go_wp2_with fail
                refine h7.mono ?_
                rintro e w8 ⟨rfl, m8, rfl⟩
                have kd := k57.trans ((Kept.refl Nought w7).drewN m8)
                have SCR := HS5.out.grew kd
                have BAS := HB5.out.grew kd
                have KEP := K5.out.trans kd.any
                clear h7 hL7 hb67
                go_wp2_with fail
                go_roundw
                case rel => exact ⟨cs', acc, g, by rw [HAL.out], by rw [HAL.out]; omega, by omega, by omega, hrd.out, SCR, BAS, KEP, by unfold Hid; rw [HAL.out]; exact heq'⟩
                case measure => rw [HLEN.out, (show ScrAt _ b B cs' from SCR).len]; exact hlt
              · have hc7 := cmpNne ha1
                generalize cmpN a 1 = c7 at *
                go_wp2_with fail
                refine h7.mono ?_
                rintro e w8' ⟨rfl, m8, rfl⟩
                have kd := (Kept.refl Nought w7).drewN m8
                obtain ⟨w8, hw8⟩ : ∃ w8, w8 = w7.drewN m8 := ⟨_, rfl⟩
                rw [← hw8] at kd ⊢
                have k58 := k57.trans kd
                have h8 := rCmp v6 v4 a (X - 1) w8 (hb67.grew kd) (hL7.grew kd)
                clear h7 hL7 hb67 kd k57 hw8
                by_cases haX : a = X - 1
                · rw [if_pos (.inr haX)] at heq'
                  rw [cmpN_eq haX] at h8
                  go_wp2_with fail
                  refine h8.mono ?_
                  rintro e w9 ⟨rfl, m9, rfl⟩
                  have kd := k58.trans ((Kept.refl Nought w8).drewN m9)
                  have SCR := HS5.out.grew kd
                  have BAS := HB5.out.grew kd
                  have KEP := K5.out.trans kd.any
                  clear h8
                  go_wp2_with fail
                  go_roundw
                  case rel => exact ⟨cs', acc, g, by rw [HAL.out], by rw [HAL.out]; omega, by omega, by omega, hrd.out, SCR, BAS, KEP, by unfold Hid; rw [HAL.out]; exact heq'⟩
                  case measure => rw [HLEN.out, (show ScrAt _ b B cs' from SCR).len]; exact hlt
                · have hc8 := cmpNne haX
                  rw [if_neg (by omega)] at heq'
                  generalize cmpN a (X - 1) = c8 at *
                  go_wp2_with fail
                  refine h8.mono ?_
                  rintro e w9' ⟨rfl, m9, rfl⟩
                  have kd := k58.trans ((Kept.refl Nought w8).drewN m9)
                  obtain ⟨w9, hw9⟩ : ∃ w9, w9 = w8.drewN m9 := ⟨_, rfl⟩
                  rw [← hw9] at kd ⊢
                  have SCR := HS5.out.grew kd
                  have BAS := HB5.out.grew kd
                  have KEP := K5.out.trans kd.any
                  have RU := HRU.out.grew kd
                  have hnu9 : ∀ y, (Value.slice uo L uc).ownBlock = some y → wr.heap.size ≤ y := hnu
                  clear h8 hw9 HS5 HB5 K5 HRU k58
                  obtain ⟨hal, GA, GC, hG⟩ := BAS
                  have hGa := hG.grew ((Kept.refl Nought w9).alloc (.cells #[.slice uo L uc] 31))
                  have hout := World.ownsRow.lt hG.1
                  have ho9 := hGa.1
                  have hsz4 : w4.heap.size ≤ w9.heap.size := KEP.size
                  have hszr : wr.heap.size ≤ w9.heap.size := Nat.le_trans k5.size kd.size
                  have houtr : ∀ y, u12.ownBlock = some y → y < wr.heap.size := HOUT.out
                  have HRa := toHid (RU.grew ((Kept.refl Nought w9).alloc (.cells #[.slice uo L uc] 31)))
                  have hne' : x ≠ [] := fun e => by subst e; simp at hxl; omega
                  rw [HAL.out] at ho9
                  have HKEP := toHid KEP
                  have HSCR := toHid SCR
                  have q7 : (c7 == 0) = false := by simpa using hc7
                  have q8 : (c8 == 0) = false := by simpa using hc8
                  rw [q7]
                  go_wp2_with (at_builtin; refine wpList_append_lies _ rfl _ _ 62 rfl w4.heap.size 31 i0 _ 1 24 Tryz.underlying62 hi0 hz0 hz1 hz2 rfl (by omega) _ _ _ rfl ho9 ⟨w9.heap.size, 0, none⟩ 1 1 [.slice uo L uc] rfl rfl (new1_cells w9 _ _) (by simp [Value.oneCell']) (by omega) (by unfold maxLen; omega) (by omega) (by simp; omega) (w9.heap.size + 1) (by simp) ?_; intro gg c' w10 ho10 hg hat hgl)
                  have hg' : (w9.alloc (.cells #[.slice uo L uc] 31)).grownBy w10 u12.ownBlock := hg
                  have hat' : u12.ownBlock = some gg ∨ gg = (w9.alloc (.cells #[.slice uo L uc] 31)).heap.size := (show u12.ownBlock = some gg ∨ gg = w9.heap.size + 1 from hat).imp id (fun h => by simpa using h)
                  have ho10' : w10.ownsRow w4.heap.size 31 1 (.slice (some ⟨gg, 0, none⟩) (acc.length + 1) c') (acc.length + 1) (((List.range acc.length).map fun j => .slice (GA j) L (GC j)) ++ [.slice uo L uc]) := by rw [HAL.out]; exact ho10
                  have hya : ∀ y, (Value.slice uo L uc).ownBlock = some y → u12.ownBlock ≠ some y := fun y hy e => by have := hnu9 y hy; have := houtr y e; omega
                  have BAS10 := toHid (Bases.push hL0 hal hGa hxl HRa.out hya ho10' hg' hat')
                  have K10 : Hid (Kept (fun x => x = b) w4 w10) := (HKEP.out.alloc _).grown hg' (fun y hy hlt => by have := (hout y hy).1; omega)
                  have kout : Kept (fun y => u12.ownBlock = some y) (w9.alloc (.cells #[.slice uo L uc] 31)) w10 := (Kept.refl _ _).grown hg' (fun y e _ => e)
                  have SCR10 := toHid ((HSCR.out.grew ((Kept.refl Nought w9).alloc (.cells #[.slice uo L uc] 31))).kept kout (fun y hy e => by have := (hout y e).1; have := HK4.out.size; omega))
                  have hrn : Row .u64 w10 (.slice ao L cap) xs := HU4.out.kept' K10.out (fun _ y hy e => HAp.out y hy e)
                  have hrx := (append_apart (n := i + 1) (cap := c') HRa.out hne' hya hg' hat').1
                  have hSt := r16Strong ao uo L L cap uc xs x 0 (strongB X a) (by
                    unfold strE
                    rw [← HXe.out, ← HAe.out, show oddE X = 0 by rw [HXe.out]; exact HO.out.symm, if_neg (by omega), if_neg (by omega)]) (by rw [strongB_iff, ← HXe.out, ← HAe.out]; simp) w10 hrn hrx hdx hxd hLb hLb
                  clear hg hat ho10 hg' hat' ho10' hya kout hrn hrx hGa hG hout ho9 RU SCR KEP HRa HKEP HSCR hnu9 houtr hal
                  cases hsb : strongB X a
                  · rw [hsb] at hSt
                    rw [hsb, if_neg (by decide)] at heq'
                    simp only [Prod.mk.injEq] at heq'
                    obtain ⟨rfl, rfl, rfl, rfl⟩ := heq'
                    refine hSt.mono ?_
                    rintro e w11 ⟨rfl, k11⟩
                    have BF := toHid ((BAS10.out.grew k11).base HK4.out.size)
                    have SF := toHid (SCR10.out.grew k11)
                    have KF := toHid (HK4.out.any.trans (K10.out.trans k11.any))
                    clear hSt
                    go_wp2_with fail
                    go_ret3
                    refine ⟨_, rfl, ?_, SF.out, KF.out⟩
                    have := BF.out
                    rw [HAL.out] at this
                    exact this
                  · rw [hsb] at hSt
                    rw [hsb, if_pos rfl] at heq'
                    refine hSt.mono ?_
                    rintro e w11 ⟨rfl, k11⟩
                    have BF := toHid (BAS10.out.grew k11)
                    have SF := toHid (SCR10.out.grew k11)
                    have KF := toHid (K10.out.trans k11.any)
                    have HQ := toHid heq'
                    rw [HAL.out] at BF
                    clear hSt heq'
                    go_wp2_with fail
                    go_roundw
                    case rel => exact ⟨cs', acc ++ [x], g, by rw [List.length_append, HAL.out]; go_num, by rw [List.length_append, HAL.out]; simp; omega, by omega, by omega, hrd.out, SF.out, BF.out, KF.out, by unfold Hid; rw [List.length_append, HAL.out]; exact HQ.out⟩
                    case measure => rw [HLEN.out, SF.out.len]; exact hlt
            · have hBl := r15Below b B cs xs (.slice ao L cap) wr hsc.out hcd.out (by omega) hr hdx (by rw [HL.out.out]; exact h300) (by rw [← HXe.out]; omega)
              rw [if_pos hE0] at heq'
              simp only [Prod.mk.injEq] at heq'
              obtain ⟨rfl, rfl, rfl, rfl⟩ := heq'
              have hE1 : ¬ ((belE xs cs : Nat) : Int) = 0 := by omega
              generalize hEE : belE xs cs = EE at *
              have HEE := toHid hEE
              clear hEE
              generalize belK xs cs = kk at *
              go_wp2_with fail
              refine hBl.mono ?_
              rintro e w5 ⟨u, rfl, hru, hnu, hs5, k5⟩
              obtain ⟨uo, un, uc, rfl, _, _, _, _, _⟩ := hru.open
              have HKf := toHid (HK4.out.any.trans (hkp.out.trans k5))
              clear hBl
              go_wp2_with fail
              go_ret3
              exact ⟨_, by rw [HEE.out]; rfl, Bases.nil _ _ _, hs5, HKf.out⟩
          · have hBl := r15BelowBad b B cs xs (.slice ao L cap) wr hsc.out hr hdx (by rw [HL.out.out]; omega) (.inl (by rw [HL.out.out]; omega))
            have hE2 : belE xs cs = 2 := by unfold belE; rw [if_pos (by rw [HL.out.out]; omega)]
            have hR2 : belR xs cs = cs := by unfold belR; rw [if_pos (.inl (by rw [HL.out.out]; omega))]
            rw [if_pos (by omega), hE2, hR2] at heq'
            simp only [Prod.mk.injEq] at heq'
            obtain ⟨rfl, rfl, rfl, rfl⟩ := heq'
            rw [hE2] at hBl
            go_wp2_with fail
            refine hBl.mono ?_
            rintro e w5 ⟨rfl, hs5, k5⟩
            have HKf := toHid (HK4.out.any.trans (hkp.out.trans k5.any))
            clear hBl
            go_wp2_with fail
            go_ret3
            exact ⟨_, rfl, Bases.nil _ _ _, hs5, HKf.out⟩
  · rw [if_pos hO0] at hRN
    simp only [Prod.mk.injEq] at hRN
    obtain ⟨rfl, rfl, rfl, rfl⟩ := hRN
    have g0 : ¬ (O : Int) = 0 := by omega
    go_enter Tryz.func26, Tryz.ntmps26
    go_wp2_with fail
    refine hO.mono ?_
    rintro e w1 ⟨rfl, k1⟩
    clear hO
    go_wp2_with fail
    exact bodyPost_ret (v := .tuple #[.bool false, .slice none 0 0, .int .i64 (O : Int)]) (by simp [results, Tryz.results26, go_sem]) rfl ⟨_, rfl, Bases.nil _ _ _, HS.out.grew k1, k1.any⟩

theorem Bases.slice {w : World} {base : Nat} {out : Value} {L : Nat} {acc : List (List Nat)} (h : Bases w base out L acc) : ∃ ao cap, out = .slice ao acc.length cap := by
  obtain ⟨_, A, C, h2, _⟩ := h
  exact own_slice h2

end Go.Proofs.YtcjaafmlflonhaaGreatDoor


/- What a copy of a row reads. -/
namespace Go.Proofs.YtcjaafmlflonhaaGreatDoor
open Go.RowKit

/-- What a copy reads. -/
theorem row_src {k : IntKind} {w W : World} {ao : Option Addr} {n cap : Nat} {zs : List Nat} (h : Row k w (.slice ao n cap) zs) (kk : Kept Nought w W) (hp : 0 < (zs.map fun z : Nat => Value.int k (z : Int)).length) : ∃ ad, ao = some ad ∧ ∀ j u, (zs.map fun z : Nat => Value.int k (z : Int))[j]? = some u → W.cell? (ad.add j) = some u := by
  rw [List.length_map] at hp
  obtain ⟨ao', n', cap', e, hL, _, _, _, hn⟩ := h.open
  cases e
  obtain ⟨b, off, rfl, _⟩ := hn 0 (by have := hL.out; omega)
  exact ⟨_, rfl, news_row h kk⟩

end Go.Proofs.YtcjaafmlflonhaaGreatDoor


/- A range over a function whose iterator has memory of its own, which it writes between two rounds: what the caller keeps through it speaks of memory that lay ahead of the loop alone. -/
namespace Go.Proofs.YtcjaafmlflonhaaGreatDoor
open Go.RowKit Go.Shelf

/-- How a round ends: of memory only the blocks of Sb were written, and new ones. -/
def leftC {α : Type} (Sb : Nat → Prop) (I : List α → World → Prop) (Ix : Code → List α → World → Prop) (s : List α) (W : World) : Exit → Act → World → Prop
  | .normal, _, W' => Kept Sb W W' ∧ I s W'
  | .ret, _, W' => Kept Sb W W' ∧ Ix .ret s W'
  | .exit i, _, W' => Kept Sb W W' ∧ Ix (.exit i) s W'
  | .goto t, _, W' => Kept Sb W W' ∧ Ix (.goto t) s W'
  | .panic _, _, _ => False
  | .outgrown, _, _ => False

theorem low_put {W : World} {B l : Nat} (o : Obj) (h : B ≤ l) : Below B W (W.putObj l o) :=
  ⟨rfl, rfl, rfl, by simp, fun _ hk => World.putObj_heap_other (by omega)⟩

theorem kept_put (W : World) (l : Nat) (o : Obj) : Kept (fun b => b = l) W (W.putObj l o) :=
  ⟨rfl, rfl, rfl, by simp, fun _ _ hk => World.putObj_heap_other hk⟩

theorem row_put {k : IntKind} {W : World} {l : Nat} {o : Obj} {v : Value} {zs : List Nat} (o' : Obj) (h : Row k W v zs) (hl : W.heap[l]? = some o) (ho : o.isCells = false) : Row k (W.putObj l o') v zs := by
  obtain ⟨ao, cap, rfl, h1, h2, h3, h4⟩ := h
  refine ⟨ao, cap, rfl, h1, h2, h3, fun i hi => ?_⟩
  obtain ⟨b, off, rfl, hc⟩ := h4 i hi
  exact ⟨b, off, rfl, cell_kept hc (grownBy_putObj' W l o') (fun r e => by cases e; exact ⟨o, hl, ho⟩)⟩

theorem boxed_grew {w w' : World} {b : Nat} {t : TypeId} {v : Value} (h : Boxed w b t v) (k : Kept Nought w w') : Boxed w' b t v := (k.block _ h.lt (fun f => f)).trans h

theorem boxed_but {S : Nat → Prop} {w w' : World} {b : Nat} {t : TypeId} {v : Value} (h : Boxed w b t v) (k : Kept S w w') (hs : ¬ S b) : Boxed w' b t v := (k.block _ h.lt hs).trans h

/-- The loop's two books: at d the rounds' deferred calls (none), behind it the loop's own. -/
def Books (d : Nat) (r : Loop) (W : World) : Prop := W.heap[d + 1]? = some (.loop r) ∧ W.heap[d]? = some (.deferred (some []))

theorem Books.low {d : Nat} {r : Loop} {A C : World} (h : Books d r A) (k : Below (d + 2) A C) : Books d r C :=
  ⟨(k.block _ (by omega)).trans h.1, (k.block _ (by omega)).trans h.2⟩

theorem Books.lt {d : Nat} {r : Loop} {A : World} (h : Books d r A) : d + 1 < A.heap.size := (Array.getElem?_eq_some_iff.1 h.1).1

theorem Books.put {d : Nat} {r : Loop} {A : World} (h : Books d r A) (r' : Loop) : Books d r' (A.putObj (d + 1) (.loop r')) :=
  ⟨World.putObj_heap_same h.lt, (World.putObj_heap_other (by omega)).trans h.2⟩

theorem Books.kept {d : Nat} {r : Loop} {A C : World} {Sb : Nat → Prop} (h : Books d r A) (k : Kept Sb A C) (hs : ∀ b, Sb b → b < d) : Books d r C := by
  have hl := h.lt
  exact ⟨(k.block _ hl (fun e => by have := hs _ e; omega)).trans h.1, (k.block _ (by omega) (fun e => by have := hs _ e; omega)).trans h.2⟩

end Go.Proofs.YtcjaafmlflonhaaGreatDoor

