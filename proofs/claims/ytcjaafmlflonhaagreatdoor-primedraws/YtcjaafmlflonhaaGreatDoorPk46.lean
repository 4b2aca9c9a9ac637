/- Put together of: Key7 Pri3. -/
import Derived.Test.YtcjaafmlflonhaaGreatDoorPk30
import Derived.Test.YtcjaafmlflonhaaGreatDoorPk37
import Derived.Test.YtcjaafmlflonhaaGreatDoorPk38
import Derived.Test.YtcjaafmlflonhaaGreatDoorPk45

/- The plain side of layer 18: Draw, a prime of a script. -/
namespace Go.Proofs.YtcjaafmlflonhaaGreatDoor
open Go.RowKit

/-- The words of a candidate of the next bytes. -/
def candL (bs : List Nat) (n : Nat) : List Nat := digs 18446744073709551616 (candN (bs.take ((n + 7) / 8)) n) ((n + 63) / 64)

/-- What Draw answers (the prime's words, how many candidates, the error, what is left), after f more candidates at most, the first of them being number k. -/
def DrawR (n e r : Nat) : Nat → List Nat → Nat → List Nat × Nat × Nat × List Nat → Prop
  | 0, bs, _, o => o = ([], 0, 180, bs)
  | f + 1, bs, k, o => (bs.length < (n + 7) / 8 ∧ o = ([], 0, 150, [])) ∨
    (¬ bs.length < (n + 7) / 8 ∧ ¬ goodN (candN (bs.take ((n + 7) / 8)) n) e ∧ DrawR n e r f (bs.drop ((n + 7) / 8)) (k + 1) o) ∨
    (¬ bs.length < (n + 7) / 8 ∧ goodN (candN (bs.take ((n + 7) / 8)) n) e ∧ ∃ is ls E rest, rndAll (candL bs n) (r : Int) (bs.drop ((n + 7) / 8)) = (is, ls, E, rest) ∧
      ((E ≠ 0 ∧ o = ([], 0, E, rest)) ∨ (E = 0 ∧ is = true ∧ o = (candL bs n, k, 0, rest)) ∨ (E = 0 ∧ is = false ∧ DrawR n e r f rest (k + 1) o)))

theorem DrawR.uniq {n e r : Nat} : ∀ {f : Nat} {bs : List Nat} {k : Nat} {o o' : List Nat × Nat × Nat × List Nat}, DrawR n e r f bs k o → DrawR n e r f bs k o' → o = o'
  | 0, _, _, _, _, h, h' => h.trans h'.symm
  | f + 1, bs, k, o, o', h, h' => by
    rcases h with ⟨h1, h2⟩ | ⟨h1, h2, h3⟩ | ⟨h1, h2, is, ls, E, rest, h3, h4⟩
    · rcases h' with ⟨g1, g2⟩ | ⟨g1, _⟩ | ⟨g1, _⟩
      · exact h2.trans g2.symm
      · exact absurd h1 g1
      · exact absurd h1 g1
    · rcases h' with ⟨g1, _⟩ | ⟨_, _, g3⟩ | ⟨_, g2, _⟩
      · exact absurd g1 h1
      · exact DrawR.uniq h3 g3
      · exact absurd g2 h2
    · rcases h' with ⟨g1, _⟩ | ⟨_, g2, _⟩ | ⟨_, _, is', ls', E', rest', g3, g4⟩
      · exact absurd g1 h1
      · exact absurd h2 g2
      · rw [h3] at g3
        obtain ⟨rfl, rfl, rfl, rfl⟩ : is = is' ∧ ls = ls' ∧ E = E' ∧ rest = rest' := by simpa using g3
        rcases h4 with ⟨a1, a2⟩ | ⟨a1, a2, a3⟩ | ⟨a1, a2, a3⟩
        · rcases g4 with ⟨_, b2⟩ | ⟨b1, _⟩ | ⟨b1, _⟩
          · exact a2.trans b2.symm
          · exact absurd b1 a1
          · exact absurd b1 a1
        · rcases g4 with ⟨b1, _⟩ | ⟨_, _, b3⟩ | ⟨_, b2, _⟩
          · exact absurd a1 b1
          · exact a3.trans b3.symm
          · rw [a2] at b2
            cases b2
        · rcases g4 with ⟨b1, _⟩ | ⟨_, b2, _⟩ | ⟨_, _, b3⟩
          · exact absurd a1 b1
          · rw [a2] at b2
            cases b2
          · exact DrawR.uniq a3 b3

theorem rndF_rest (xs : List Nat) (k : Nat) : ∀ f i bs acc, ∃ m, (rndF xs k f i bs acc).2.2.2 = bs.drop m
  | 0, _, bs, _ => ⟨0, rfl⟩
  | f + 1, i, bs, acc => by
    obtain ⟨m, hm⟩ := bel_rest xs bs
    unfold rndF
    split
    · exact ⟨0, rfl⟩
    · split
      · exact ⟨m, hm⟩
      · split
        · obtain ⟨m2, h2⟩ := rndF_rest xs k f i (belR xs bs) acc
          exact ⟨m + m2, by rw [h2, hm, List.drop_drop]⟩
        · split
          · obtain ⟨m2, h2⟩ := rndF_rest xs k f (i + 1) (belR xs bs) (acc ++ [belX xs bs])
            exact ⟨m + m2, by rw [h2, hm, List.drop_drop]⟩
          · exact ⟨m, hm⟩

theorem rndAll_rest (xs : List Nat) (k : Int) (bs : List Nat) : ∃ m, (rndAll xs k bs).2.2.2 = bs.drop m := by
  unfold rndAll
  split
  · exact ⟨0, rfl⟩
  · split
    · exact ⟨0, rfl⟩
    · exact rndF_rest _ _ _ _ _ _

theorem candN_lt {bs : List Nat} {n : Nat} (hn : 16 ≤ n) : candN bs n < 2 ^ n := by
  have h1 : bev bs % 2 ^ (n - 2) < 2 ^ (n - 2) := Nat.mod_lt _ (Nat.pow_pos (by omega))
  have h2 : 2 ^ n = 4 * 2 ^ (n - 2) := by
    rw [show n = (n - 2) + 2 by omega, Nat.pow_add]
    simp
    omega
  have h3 : 2 ^ (n - 2) % 2 = 0 := by
    rw [show n - 2 = (n - 3) + 1 by omega, Nat.pow_succ]
    omega
  unfold candN
  generalize bev bs % 2 ^ (n - 2) = x at *
  split
  · next h => omega
  · omega

set_option maxRecDepth 20000 in
set_option maxHeartbeats 1000000 in
/-- Draw of what it refuses. -/
theorem r18DrawBad (b : Nat) (n r : Int) (e : Nat) (he : e < 18446744073709551616) (w : World) (hbad : n < 16 ∨ 4096 < n ∨ e < 3 ∨ e % 2 = 0 ∨ r < 1 ∨ 100 < r) :
    Calls Tryz.prog 8 #[.pointer (some ⟨b, 0, none⟩), .int .i64 n, .int .u64 (e : Nat), .int .i64 r] w fun q w' => q = .returned (.tuple #[.slice none 0 0, .int .i64 0, .int .i64 1]) ∧ w' = w := by
  by_cases h1 : n < 16
  · clear hbad
    go_enter Tryz.func8, Tryz.ntmps8
    go_wp2_with fail
    refine bodyPost_ret (v := .tuple #[.slice none 0 0, .int .i64 0, .int .i64 1]) (by simp [results, Tryz.results8, go_sem]) rfl ?_
    exact ⟨rfl, rfl⟩
  · have g1 : ¬ n < 16 := h1
    by_cases h2 : 4096 < n
    · have g2 : n > 4096 := h2
      clear hbad
      go_enter Tryz.func8, Tryz.ntmps8
      go_wp2_with fail
      refine bodyPost_ret (v := .tuple #[.slice none 0 0, .int .i64 0, .int .i64 1]) (by simp [results, Tryz.results8, go_sem]) rfl ?_
      exact ⟨rfl, rfl⟩
    · have g2 : ¬ n > 4096 := h2
      by_cases h3 : e < 3
      · have g3 : (e : Int) < 3 := by omega
        clear hbad
        go_enter Tryz.func8, Tryz.ntmps8
        go_wp2_with fail
        refine bodyPost_ret (v := .tuple #[.slice none 0 0, .int .i64 0, .int .i64 1]) (by simp [results, Tryz.results8, go_sem]) rfl ?_
        exact ⟨rfl, rfl⟩
      · have g3 : ¬ (e : Int) < 3 := by omega
        by_cases h4 : e % 2 = 0
        · have g4 : (e : Int) % 2 = 0 := by omega
          clear hbad
          go_enter Tryz.func8, Tryz.ntmps8
          go_wp2_with fail
          refine bodyPost_ret (v := .tuple #[.slice none 0 0, .int .i64 0, .int .i64 1]) (by simp [results, Tryz.results8, go_sem]) rfl ?_
          exact ⟨rfl, rfl⟩
        · have g4 : ¬ (e : Int) % 2 = 0 := by omega
          by_cases h5 : r < 1
          · clear hbad
            go_enter Tryz.func8, Tryz.ntmps8
            go_wp2_with fail
            refine bodyPost_ret (v := .tuple #[.slice none 0 0, .int .i64 0, .int .i64 1]) (by simp [results, Tryz.results8, go_sem]) rfl ?_
            exact ⟨rfl, rfl⟩
          · skip
            have h6 : 100 < r := by omega
            have g6 : r > 100 := h6
            clear hbad
            go_enter Tryz.func8, Tryz.ntmps8
            go_wp2_with fail
            refine bodyPost_ret (v := .tuple #[.slice none 0 0, .int .i64 0, .int .i64 1]) (by simp [results, Tryz.results8, go_sem]) rfl ?_
            exact ⟨rfl, rfl⟩

/-- Draw's answer. -/
def DrawAns (w : World) (b B n e r : Nat) (bs : List Nat) (q : Ending) (w' : World) : Prop := ∃ v P K E R, q = .returned (.tuple #[v, .int .i64 (K : Nat), .int .i64 (E : Nat)]) ∧ DrawR n e r 100000 bs 1 (P, K, E, R) ∧ Row .u64 w' v P ∧ (∀ x, v.ownBlock = some x → w.heap.size ≤ x) ∧ ScrAt w' b B R ∧ (∃ m, R = bs.drop m) ∧ Kept (fun x => x = b) w w'

set_option maxRecDepth 20000 in
set_option maxHeartbeats 2000000 in
/-- Draw. -/
theorem r18Draw (b B : Nat) (bs : List Nat) (n e r : Nat) (hn : 16 ≤ n) (hn2 : n ≤ 4096) (he3 : 3 ≤ e) (he2 : e % 2 ≠ 0) (he : e < 18446744073709551616) (hr1 : 1 ≤ r) (hr2 : r ≤ 100) (w : World) (h : ScrAt w b B bs) (hB : B ≤ w.heap.size) (hbd : Digs 256 bs) (hbl : bs.length ≤ 1000000) :
    Calls Tryz.prog 8 #[.pointer (some ⟨b, 0, none⟩), .int .i64 (n : Nat), .int .u64 (e : Nat), .int .i64 (r : Nat)] w fun q w' => DrawAns w b B n e r bs q w' := by
  obtain ⟨z, hz⟩ : ∃ z, z = (n + 7) / 8 := ⟨_, rfl⟩
  have hz1 : ((n : Int) + 7).tdiv 8 = (z : Int) := by rw [Int.tdiv_eq_ediv_of_nonneg (by omega)]; omega
  have hz2 : ((n : Int) + 7) / 8 = (z : Int) := by omega
  have hzb : z ≤ 513 := by omega
  have hz0 : 0 < z := by omega
  have g1 : ¬ (n : Int) < 16 := by omega
  have g2 : ¬ (n : Int) > 4096 := by omega
  have g2' : ¬ (4096 : Int) < (n : Int) := by omega
  have g3 : ¬ (e : Int) < 3 := by omega
  have g4 : ¬ (e : Int) % 2 = 0 := by omega
  have g5 : ¬ (r : Int) < 1 := by omega
  have g6 : ¬ (r : Int) > 100 := by omega
  have g6' : ¬ (100 : Int) < (r : Int) := by omega
  have HS0 := toHid h
  have HBD := toHid hbd
  have HBL := toHid hbl
  have HZ := toHid hz
  have hbw : b < w.heap.size := h.lt
  have HN : Hid (16 ≤ n ∧ n ≤ 4096) := ⟨hn, hn2⟩
  have HE : Hid (e < 18446744073709551616) := he
  clear h hbd hbl hz he2 he3
  go_enter Tryz.func8, Tryz.ntmps8
  go_wp2_with fail
  go_loopw [11] (fun kv wr => ∃ (k f m : Nat) (rest : List Nat), kv = .int .i64 (k : Int) ∧ k ≤ 100001 ∧ k + f = 100001 ∧ Hid (∀ o, DrawR n e r f rest k o → DrawR n e r 100000 bs 1 o) ∧ Hid (rest = bs.drop m) ∧ Hid (ScrAt wr b B rest) ∧ Hid (Kept (fun x => x = b) w wr)) (fun kv _ => 100001 - (intOf kv).toNat)
  case atStart => exact ⟨1, 100000, 0, bs, rfl, by omega, by omega, fun _ h => h, rfl, HS0.out, Kept.refl _ _⟩
  case round =>
    clear HS0
    obtain ⟨k, f, m, rest, rfl, hk, hkf, HD, HR, HS, HK⟩ := hrel
    have hrl : rest.length ≤ 1000000 := by rw [HR.out, List.length_drop]; have := HBL.out; omega
    have hrd : Digs 256 rest := by rw [HR.out]; exact HBD.out.drop _
    have hsw := HK.out.size
    by_cases hk9 : k ≤ 100000
    · have g7 : (k : Int) ≤ 100000 := by omega
      obtain ⟨f, rfl⟩ : ∃ f', f = f' + 1 := ⟨f - 1, by omega⟩
      have J1 := r15Read b B rest (z : Int) wr HS.out (by omega)
      by_cases h1 : rest.length < z
      · have t1 : readE rest (z : Int) = 150 := by unfold readE; rw [if_neg (by omega), if_pos (by omega)]
        have t2 : readR rest (z : Int) = [] := by unfold readR; rw [if_neg (by omega)]; exact List.drop_of_length_le (by show _ ≤ ((z : Int)).toNat; omega)
        rw [t1, t2] at J1
        have HO := toHid (HD.out _ (.inl ⟨by rw [← HZ.out]; exact h1, rfl⟩))
        clear t1 t2
        go_wp2_with fail
        refine J1.mono ?_
        rintro q w1 ⟨u, rfl, hO, h2, k1⟩
        have HS1 := toHid h2
        have HK1 := toHid (HK.out.trans k1)
        obtain ⟨xo, xc, rfl⟩ := own_slice hO
        clear J1 hO h2 k1
        go_wp2_with fail
        refine bodyPost_ret (v := .tuple #[.slice none 0 0, .int .i64 0, .int .i64 150]) (by simp [results, Tryz.results8, go_sem]) rfl ?_
        exact ⟨_, [], 0, 150, [], rfl, HO.out, Row.nil _ _, (fun x hx => by cases hx), HS1.out, ⟨bs.length, by simp⟩, HK1.out⟩
      · have t1 : readE rest (z : Int) = 0 := by unfold readE; rw [if_neg (by omega), if_neg (by omega)]
        have t2 : readR rest (z : Int) = rest.drop z := by unfold readR; rw [if_neg (by omega)]; rfl
        have t3 : readL rest (z : Int) = rest.take z := by unfold readL; rw [t1]; rfl
        rw [t1, t2, t3] at J1
        have htl : (rest.take z).length = z := by rw [List.length_take]; omega
        have HTL := toHid htl
        have H1 : Hid (¬ rest.length < (n + 7) / 8) := by rw [← HZ.out]; exact h1
        have HRD := toHid hrd
        clear t1 t2 t3
        go_wp2_with fail
        refine J1.mono ?_
        rintro q w1 ⟨u, rfl, hO, h2, k1⟩
        have HS1 := toHid h2
        have HK1 := toHid (HK.out.trans k1)
        have hs1 := k1.size
        have hcE : candE (rest.take z) (n : Int) = 0 := by
          unfold candE
          rw [if_neg]
          have := HN.out
          have := HZ.out
          rw [htl]
          omega
        have J2 := r18Cand u (rest.take z) (n : Int) (by omega) (by omega) 0 (candL rest n) hcE.symm (by rw [if_pos rfl]; unfold candL; rw [← HZ.out]; rfl) w1 hO.row (HRD.out.take _) (by omega)
        obtain ⟨xo, xn, xc, rfl, hxn, _⟩ := hO.row.open
        obtain rfl : z = xn := by rw [← hxn.out, htl]
        clear J1 hO h2 k1 hcE htl hrd hxn
        go_wp2_with fail
        refine J2.mono ?_
        rintro q w2 ⟨v2, rfl, hr2', hf2, k2⟩
        have HS2 := toHid (HS1.out.grew k2)
        have HK2 := toHid (HK1.out.next k2 (fun _ _ f => f.elim))
        have hs2 := k2.size
        have hcl : (candL rest n).length = (n + 63) / 64 := digs_length _ _ _
        have hcd : Digs 18446744073709551616 (candL rest n) := digs_digs (by omega) _ _
        have hcv : val 18446744073709551616 (candL rest n) = candN (rest.take z) n := by
          unfold candL
          rw [val_digs, ← HZ.out]
          refine Nat.mod_eq_of_lt (Nat.lt_of_lt_of_le (candN_lt HN.out.1) ?_)
          rw [show (18446744073709551616 : Nat) = 2 ^ 64 from rfl, ← Nat.pow_mul]
          exact Nat.pow_le_pow_right (by omega) (by omega)
        obtain ⟨vo, vn, vc, rfl, hvn, hvc, hvm, _⟩ := hr2'.open
        have hvnb : vn ≤ 100 := by rw [← hvn.out, hcl]; have := HN.out; omega
        have HF2 : Hid (∀ x, (Value.slice vo vn vc).ownBlock = some x → w.heap.size ≤ x) := fun x hx => by
          have := hf2 x hx
          omega
        have HV2 := toHid hr2'
        by_cases hg : goodN (candN (rest.take z) n) e
        · have J3 := r18Good vo vn vc (candL rest n) e HE.out true (by rw [hcv]; simp [hg]) w2 hr2' hcd (by omega)
          have HG : Hid (goodN (candN (rest.take ((n + 7) / 8)) n) e) := by rw [← HZ.out]; exact hg
          have HCD := toHid hcd
          obtain ⟨is, ls, E, R, hRN⟩ : ∃ is ls E R, rndAll (candL rest n) (r : Int) (rest.drop z) = (is, ls, E, R) := ⟨_, _, _, _, rfl⟩
          obtain ⟨m2, hm2⟩ := rndAll_rest (candL rest n) (r : Int) (rest.drop z)
          rw [hRN] at hm2
          have HM2 : Hid (R = bs.drop (m + z + m2)) := by
            unfold Hid
            have e1 : R = (rest.drop z).drop m2 := hm2
            rw [e1, HR.out, List.drop_drop, List.drop_drop, Nat.add_assoc]
          have HRN : Hid (rndAll (candL rest n) (r : Int) (rest.drop ((n + 7) / 8)) = (is, ls, E, R)) := by rw [← HZ.out]; exact hRN
          have HRN2 := toHid hRN
          clear J2 hr2' hf2 k2 hcl hcd hcv hvn hg hm2 hRN
          go_wp2_with fail
          refine J3.mono ?_
          rintro q w3 ⟨rfl, k3⟩
          have HS3 := HS2.out.grew k3
          have HV3 := toHid (HV2.out.grew k3)
          have HK3 := toHid (HK2.out.next k3 (fun _ _ f => f.elim))
          have hs3 := k3.size
          have J4 := r16Rounds b B (rest.drop z) (candL rest n) vo vn vc (r : Int) is ls E R HRN2.out (by omega) (by omega) w3 HS3 (by omega) (HRD.out.drop _) (by rw [List.length_drop]; omega) HV3.out HCD.out (by omega)
          clear J3 k3 HS3 HRN2
          go_wp2_with fail
          refine J4.mono ?_
          rintro q w4 ⟨v4, rfl, hb4, h4, k4⟩
          have HS4 := toHid h4
          have HV4 := toHid (HV3.out.kept k4 (fun x hx f => by
            have f' : x = b := f
            have := HF2.out x hx
            omega))
          have HK4 := toHid (HK3.out.trans k4)
          obtain ⟨yo, yc, rfl⟩ := hb4.slice
          clear J4 hb4 h4 k4
          by_cases hE0 : E = 0
          · subst hE0
            cases is with
            | true =>
              have HO := toHid (HD.out _ (.inr (.inr ⟨H1.out, HG.out, _, _, _, _, HRN.out, .inr (.inl ⟨rfl, rfl, rfl⟩)⟩)))
              go_wp2_with fail
              refine bodyPost_ret (v := .tuple #[.slice vo vn vc, .int .i64 (k : Int), .int .i64 0]) (by simp [results, Tryz.results8, go_sem]) rfl ?_
              exact ⟨_, _, k, 0, R, rfl, HO.out, HV4.out, HF2.out, HS4.out, ⟨_, HM2.out⟩, HK4.out⟩
            | false =>
              have HO : Hid (∀ o, DrawR n e r f R (k + 1) o → DrawR n e r 100000 bs 1 o) := fun o ho => HD.out _ (.inr (.inr ⟨H1.out, HG.out, _, _, _, _, HRN.out, .inr (.inr ⟨rfl, rfl, ho⟩)⟩))
              go_wp2_with fail
              go_roundw
              case rel => exact ⟨k + 1, f, _, R, by go_num, by omega, by omega, HO.out, HM2.out, HS4.out, HK4.out⟩
              case measure => simp [intOf]; omega
          · have g8 : ¬ (E : Int) = 0 := by omega
            have HO := toHid (HD.out _ (.inr (.inr ⟨H1.out, HG.out, _, _, _, _, HRN.out, .inl ⟨hE0, rfl⟩⟩)))
            clear hE0
            go_wp2_with fail
            refine bodyPost_ret (v := .tuple #[.slice none 0 0, .int .i64 0, .int .i64 (E : Nat)]) (by simp [results, Tryz.results8, go_sem]) rfl ?_
            exact ⟨_, [], 0, E, R, rfl, HO.out, Row.nil _ _, (fun x hx => by cases hx), HS4.out, ⟨_, HM2.out⟩, HK4.out⟩
        · have J3 := r18Good vo vn vc (candL rest n) e HE.out false (by rw [hcv]; simp [hg]) w2 hr2' hcd (by omega)
          have HO : Hid (∀ o, DrawR n e r f (rest.drop z) (k + 1) o → DrawR n e r 100000 bs 1 o) := fun o ho => HD.out _ (.inr (.inl ⟨H1.out, by rw [← HZ.out]; exact hg, by rw [← HZ.out]; exact ho⟩))
          clear J2 hr2' hf2 k2 hcl hcd hcv hvn hg
          go_wp2_with fail
          refine J3.mono ?_
          rintro q w3 ⟨rfl, k3⟩
          have HS3 := toHid (HS2.out.grew k3)
          have HK3 := toHid (HK2.out.next k3 (fun _ _ f => f.elim))
          clear J3 k3
          go_wp2_with fail
          go_roundw
          case rel => exact ⟨k + 1, f, m + z, rest.drop z, by go_num, by omega, by omega, HO.out, by unfold Hid; rw [HR.out, List.drop_drop], HS3.out, HK3.out⟩
          case measure => simp [intOf]; omega
    · have g7 : ¬ (k : Int) ≤ 100000 := by omega
      obtain rfl : f = 0 := by omega
      have HO := toHid (HD.out _ rfl)
      go_wp2_with fail
      refine bodyPost_ret (v := .tuple #[.slice none 0 0, .int .i64 0, .int .i64 180]) (by simp [results, Tryz.results8, go_sem]) rfl ?_
      exact ⟨_, [], 0, 180, rest, rfl, HO.out, Row.nil _ _, (fun x hx => by cases hx), HS.out, ⟨_, HR.out⟩, HK.out⟩

end Go.Proofs.YtcjaafmlflonhaaGreatDoor


/- Package prime: attempt, refuse, step, passes, candidates. -/
namespace Go.Proofs.YtcjaafmlflonhaaGreatDoor
open Go.RowKit Go.Shelf

set_option maxHeartbeats 400000 in
/-- The deferred closure, where nothing was refused. -/
theorem oCatchIdle (p : Addr) (w : World) :
    CallsD Tryz.prog 35 #[.pointer (some p)] .returning w fun e u' w' => e = .returned (.tuple #[]) ∧ u' = .returning ∧ w' = w := by
  refine callsD_of_wpS Tryz.func35 rfl fun c₀ cs hu => ?_
  apply wpS_seq
  apply wpS_region
  simp [wpOpsS, go_sem, recoverD, hu, Tryz.ntmps35, Exit.thenS]
  apply wpS_seq
  apply wpS_seq
  apply wpS_region
  simp [wpOpsS, go_sem, Exit.thenS]
  refine wpS_cond (t := true) (by simp [Act.eval, Array.replicate]) ?_
  simp only [if_true]
  refine wpS_of_wp (wp_ret ?_)
  cases c₀
  simp_all [bodyPostS, results, Tryz.results35, Exit.thenS]

set_option maxHeartbeats 400000 in
/-- The deferred closure, where something was refused. -/
theorem oCatch (p : Addr) (x n : Int) (older : List PanicEntry) (w : World) (hc : w.cell? p = some (.int .i64 x)) (hz : w.frozen? p = false) :
    CallsD Tryz.prog 35 #[.pointer (some p)] (.panicking (refusal n :: older)) w fun e u' w' =>
      e = .returned (.tuple #[]) ∧ u' = .panicking ({ refusal n with recovered := true } :: older) ∧ w' = w.setCell p (.int .i64 n) := by
  refine callsD_of_wpS Tryz.func35 rfl fun c₀ cs hu => ?_
  apply wpS_seq
  apply wpS_region
  simp [wpOpsS, go_sem, recoverD, hu, Tryz.ntmps35, Exit.thenS]
  apply wpS_seq
  apply wpS_seq
  apply wpS_region
  simp [wpOpsS, go_sem, Exit.thenS]
  refine wpS_cond (t := false) (by simp [Act.eval, Array.replicate]) ?_
  simp only [Bool.false_eq_true, if_false]
  refine wpS_of_wp (wp_skip ?_)
  simp only [Exit.thenS]
  refine wpS_of_wp ?_
  have hta : ∀ w : World, (Instr.typeAssert (.iface 32 (.int .i64 n)) 20 32 true).run Tryz.prog w = .ok (.tuple #[.int .i64 n, .bool true]) w := fun w => by kernel_rfl
  have hnot : ∀ (x : Bool) (w : World), (Op.unary .not (.bool x)).run Tryz.prog w = .ok (.bool (!x)) w := fun _ _ => rfl
  have e : (#[Value.pointer (some p)] ++ ((((Array.replicate 15 undef).setIfInBounds 3 (Value.iface 32 (Value.int IntKind.i64 n))).setIfInBounds 0 (Value.iface 32 (Value.int IntKind.i64 n))).setIfInBounds 4 (Value.iface 32 (Value.int IntKind.i64 n))).setIfInBounds 5 (Value.bool false) : Array Value) = #[.pointer (some p), .iface 32 (.int .i64 n), undef, undef, .iface 32 (.int .i64 n), .iface 32 (.int .i64 n), .bool false, undef, undef, undef, undef, undef, undef, undef, undef, undef] := rfl
  rw [e]
  clear e
  go_wp2
  simp [bodyPostS, results, Tryz.results35]

set_option maxHeartbeats 400000 in
/-- attempt: what the closure does, and 0, or the number with which it was refused. -/
theorem oAttempt (f : Nat) (cap : Array Value) (w : World) (Q : Int → World → Prop) (he : ∀ args w, (callFunc f args).run Tryz.prog w = .ok (.enter f args) w)
    (h : Calls Tryz.prog f cap (w.alloc (.cells #[.int .i64 0] 32)) fun e w' => w'.heap[w.heap.size]? = some (.cells #[.int .i64 0] 32 (0, 0)) ∧
      ((e = .returned (.tuple #[]) ∧ Q 0 w') ∨ ∃ n, e = .panicked [refusal n] ∧ Q n w')) :
    Calls Tryz.prog 17 #[.func (.func f) #[] cap] w fun e w' => ∃ n w1, e = .returned (.int .i64 n) ∧ (Q n w1 ∧ w1.heap[w.heap.size]? = some (.cells #[.int .i64 0] 32 (0, 0))) ∧ w' = w1.setCell ⟨w.heap.size, 0, none⟩ (.int .i64 n) := by
  have hmf : ∀ (fn : Fn) (first cap : Array Value) (w : World), (Instr.makeFunc fn first cap).run Tryz.prog w = .ok (.func fn first cap) w := fun _ _ _ _ => rfl
  go_enter_defers Tryz.func17, Tryz.ntmps17
  go_wp2_with fail
  refine h.mono ?_
  rintro e w1 ⟨hb, (⟨rfl, hq⟩ | ⟨n, rfl, hq⟩)⟩
  · have hc : w1.cell? ⟨w.heap.size, 0, none⟩ = some (.int .i64 0) := by simp [World.cell?, hb]
    have hz : w1.frozen? ⟨w.heap.size, 0, none⟩ = false := by simp [World.frozen?, hb]
    clear h
    go_wp2_with fail
    refine leaves_cons (f := 35) (args := #[.pointer (some ⟨w.heap.size, 0, none⟩)]) (by simp) (by simp [go_sem]) ?_
    refine (oCatchIdle ⟨w.heap.size, 0, none⟩ _).mono ?_
    rintro e u' w'' ⟨rfl, rfl, rfl⟩
    have hc2 : (w1.setCell ⟨w.heap.size, 0, none⟩ (.int .i64 0)).cell? ⟨w.heap.size, 0, none⟩ = some (.int .i64 0) := World.cell?_setCell_same' _ _ _ (by rw [hc]; rfl)
    simp [Leaves, settle, results, Tryz.results17, go_sem, hc2]
    exact ⟨_, ⟨hq, hb⟩, rfl⟩
  · have hc : w1.cell? ⟨w.heap.size, 0, none⟩ = some (.int .i64 0) := by simp [World.cell?, hb]
    have hz : w1.frozen? ⟨w.heap.size, 0, none⟩ = false := by simp [World.frozen?, hb]
    clear h
    refine leaves_cons (f := 35) (args := #[.pointer (some ⟨w.heap.size, 0, none⟩)]) (by simp) (by simp [go_sem]) ?_
    refine (oCatch ⟨w.heap.size, 0, none⟩ 0 n [] _ hc hz).mono ?_
    rintro e u' w'' ⟨rfl, rfl, rfl⟩
    have hc2 : (w1.setCell ⟨w.heap.size, 0, none⟩ (.int .i64 n)).cell? ⟨w.heap.size, 0, none⟩ = some (.int .i64 n) := World.cell?_setCell_same' _ _ _ (by rw [hc]; rfl)
    simp [Leaves, settle, results, Tryz.results17, go_sem, hc2]
    exact ⟨_, ⟨hq, hb⟩, rfl⟩

set_option maxHeartbeats 400000 in
/-- refuse, where it is not so. -/
theorem oRefuseNo (n : Int) (w : World) : Calls Tryz.prog 19 #[.bool false, .int .i64 n] w fun e w' => e = .returned (.tuple #[]) ∧ w' = w := by
  go_enter Tryz.func19, Tryz.ntmps19
  go_wp2
  go_end0
  exact ⟨rfl, rfl⟩

set_option maxHeartbeats 400000 in
/-- refuse, where it is so. -/
theorem oRefuseYes (n : Int) (w : World) : Calls Tryz.prog 19 #[.bool true, .int .i64 n] w fun e w' => e = .panicked [refusal n] ∧ w' = w := by
  go_enter Tryz.func19, Tryz.ntmps19
  go_wp2
  exact ⟨rfl, rfl, rfl⟩

set_option maxHeartbeats 400000 in
/-- step, of no error. -/
theorem oStepB (ao : Option Addr) (n cap : Nat) (w : World) : Calls Tryz.prog 37 #[.slice ao n cap, .int .i64 0] w fun e w' => e = .returned (.slice ao n cap) ∧ w' = w := by
  have hR := oRefuseNo 0 w
  go_enter Tryz.func37, Tryz.ntmps37
  go_wp2_with fail
  refine hR.mono ?_
  rintro e w' ⟨rfl, rfl⟩
  go_wp2
  go_ret
  exact ⟨rfl, rfl⟩

set_option maxHeartbeats 400000 in
/-- step, of an error. -/
theorem oStepBE (ao : Option Addr) (n cap : Nat) (E : Nat) (hE : E ≠ 0) (w : World) : Calls Tryz.prog 37 #[.slice ao n cap, .int .i64 (E : Nat)] w fun e w' => e = .panicked [refusal (E : Nat)] ∧ w' = w := by
  have hR := oRefuseYes (E : Nat) w
  have hE1 : ¬ (E : Int) = 0 := by omega
  have hb : ((E : Int) != 0) = true := by simp; omega
  go_enter Tryz.func37, Tryz.ntmps37
  go_wp2_with fail
  try rw [hb]
  refine hR.mono ?_
  rintro e w' ⟨rfl, rfl⟩
  exact ⟨rfl, rfl, rfl⟩

set_option maxHeartbeats 400000 in
/-- step, of no error. -/
theorem oStepN (ao : Option Addr) (n cap : Nat) (w : World) : Calls Tryz.prog 39 #[.slice ao n cap, .int .i64 0] w fun e w' => e = .returned (.slice ao n cap) ∧ w' = w := by
  have hR := oRefuseNo 0 w
  go_enter Tryz.func39, Tryz.ntmps39
  go_wp2_with fail
  refine hR.mono ?_
  rintro e w' ⟨rfl, rfl⟩
  go_wp2
  go_ret
  exact ⟨rfl, rfl⟩

set_option maxHeartbeats 400000 in
/-- step, of no error. -/
theorem oStepL (r : Bool) (w : World) : Calls Tryz.prog 41 #[.bool r, .int .i64 0] w fun e w' => e = .returned (.bool r) ∧ w' = w := by
  have hR := oRefuseNo 0 w
  go_enter Tryz.func41, Tryz.ntmps41
  go_wp2_with fail
  refine hR.mono ?_
  rintro e w' ⟨rfl, rfl⟩
  go_wp2
  go_ret
  exact ⟨rfl, rfl⟩

set_option maxHeartbeats 400000 in
/-- step, of an error. -/
theorem oStepLE (r : Bool) (E : Nat) (hE : E ≠ 0) (w : World) : Calls Tryz.prog 41 #[.bool r, .int .i64 (E : Nat)] w fun e w' => e = .panicked [refusal (E : Nat)] ∧ w' = w := by
  have hR := oRefuseYes (E : Nat) w
  have hE1 : ¬ (E : Int) = 0 := by omega
  have hb : ((E : Int) != 0) = true := by simp; omega
  go_enter Tryz.func41, Tryz.ntmps41
  go_wp2_with fail
  try rw [hb]
  refine hR.mono ?_
  rintro e w' ⟨rfl, rfl⟩
  exact ⟨rfl, rfl, rfl⟩

set_option maxRecDepth 20000 in
set_option maxHeartbeats 1000000 in
/-- passes. -/
theorem oPasses (co p : Option Addr) (L cap B : Nat) (k : Int) (xs cs : List Nat) (r1 : Bool) (r2 : List (List Nat)) (r3 : Nat) (r4 : List Nat) (hRN : rndAll xs k cs = (r1, r2, r3, r4)) (hk0 : -9223372036854775808 ≤ k) (hk1 : k ≤ 9223372036854775807) (w : World)
    (hu : Row .u64 w (.slice co L cap) xs) (hd : Digs 18446744073709551616 xs) (hL : L ≤ 1000000) (hs : Lsc w p B cs) (hB : B ≤ w.heap.size) (hcd : Digs 256 cs) :
    Calls Tryz.prog 22 #[.pointer p, .slice co L cap, .int .i64 k] w fun e w' => ((r3 = 0 ∧ e = .returned (.bool r1)) ∨ (r3 ≠ 0 ∧ e = .panicked [refusal (r3 : Nat)])) ∧ Lsc w' p B r4 ∧ Kept (ofP p) w w' := by
  have J := yRounds co p L cap B k xs cs r1 r2 r3 r4 hRN hk0 hk1 w hu hd hL hs hB hcd
  clear hRN hk0 hk1 hu hd hL hs hB hcd
  by_cases hr : r3 = 0
  · subst hr
    go_enter Tryz.func22, Tryz.ntmps22
    go_wp2_with fail
    refine J.mono ?_
    rintro e w1 ⟨v, rfl, hbs, hsc, kk⟩
    obtain ⟨vo, vc, rfl⟩ := hbs.slice
    have J2 := oStepL r1 w1
    have HSC := toHid hsc
    have HK := toHid kk
    clear J hbs hsc kk
    go_wp2_with fail
    refine J2.mono ?_
    rintro e w2 ⟨rfl, rfl⟩
    clear J2
    go_wp2_with fail
    go_ret
    exact ⟨.inl ⟨trivial, rfl⟩, HSC.out, HK.out⟩
  · have HR := toHid hr
    go_enter Tryz.func22, Tryz.ntmps22
    go_wp2_with fail
    refine J.mono ?_
    rintro e w1 ⟨v, rfl, hbs, hsc, kk⟩
    obtain ⟨vo, vc, rfl⟩ := hbs.slice
    have J2 := oStepLE r1 r3 HR.out w1
    have HSC := toHid hsc
    have HK := toHid kk
    clear J hbs hsc kk
    go_wp2_with fail
    refine J2.mono ?_
    rintro e w2 ⟨rfl, rfl⟩
    exact ⟨rfl, .inr ⟨HR.out, rfl⟩, HSC.out, HK.out⟩

set_option maxRecDepth 20000 in
set_option maxHeartbeats 1000000 in
/-- candidates: two parameters are boxed; the function value holds the boxes. -/
theorem oCands (p : Option Addr) (t : Int) (w : World) :
    Calls Tryz.prog 21 #[.pointer p, .int .i64 t] w fun e w' => e = .returned (.func (.func 36) #[] #[.pointer (some ⟨w.heap.size, 0, none⟩), .pointer (some ⟨w.heap.size + 1, 0, none⟩)]) ∧
      Boxed w' w.heap.size 25 (.pointer p) ∧ Boxed w' (w.heap.size + 1) 3 (.int .i64 t) ∧ Kept Nought w w' ∧ w'.heap.size = w.heap.size + 2 := by
  have hmf : ∀ (fn : Fn) (first cap : Array Value) (w : World), (Instr.makeFunc fn first cap).run Tryz.prog w = .ok (.func fn first cap) w := fun _ _ _ _ => rfl
  have b0 := (Boxed.new w 25 (.pointer p)).alloc (.cells #[.int .i64 t] 3)
  have b1 := Boxed.new (w.alloc (.cells #[.pointer p] 25)) 3 (.int .i64 t)
  simp only [World.size_alloc] at b1
  have HB0 := toHid b0
  have HB1 := toHid b1
  clear b0 b1
  go_enter Tryz.func21, Tryz.ntmps21
  go_wp2_with fail
  go_ret
  exact ⟨rfl, HB0.out, HB1.out, ((Kept.refl Nought w).alloc _).alloc _, by simp⟩

end Go.Proofs.YtcjaafmlflonhaaGreatDoor

