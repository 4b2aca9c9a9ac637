/- The law InverseSeen, walked. -/
import Derived.Test.YtamkkmifbajdfaaLaw10
import Derived.Test.YtamkkmifbajdfaaRef7A
import Derived.Test.YtamkkmifbajdfaaDuo2
import Derived.Test.YtamkkmifbajdfaaOpenRow
namespace Go.Proofs.Ytamkkmifbajdfaa
open Go.RowKit

theorem evsK_len (n : Nat) : ∀ k, (evsK n k).length = 12 * k
  | 0 => rfl
  | k + 1 => by unfold evsK; rw [List.length_append, evsK_len n k, stEvs_length]; omega

theorem ofEvs_len {n : Nat} (h : n ≤ 130) : (ofEvs n).length ≤ 400000 ∧ 0 < (ofEvs n).length := by
  unfold ofEvs invEvs
  simp only [List.length_cons, List.length_append, List.length_replicate, evsK_len]
  unfold stp
  omega

/-- Of on the first trace. -/
theorem Duo.of10 {W0 W : World} {p q : Nat} {es et : List Ev} (h : Duo W0 W p q es et) (hlen : es.length + 400000 < 1000000000000) (ao bo xo : Option Addr) (n l K mcap rcap xc : Nat) (ms rs xs : List Nat)
    (hm : Row .u64 W0 (.slice ao n mcap) ms) (hr : Row .u64 W0 (.slice bo l rcap) rs) (hx : Row .u64 W0 (.slice xo n xc) xs) (hmd : Digs 18446744073709551616 ms) (hrd : Digs 18446744073709551616 rs) (hdx : Digs 18446744073709551616 xs) (hK : K < 18446744073709551616) (hn : n ≤ 130) (hok : okMod ms K rs) (h1 : val 18446744073709551616 xs < val 18446744073709551616 ms) :
    Calls Try.prog 11 #[.pointer (some ⟨p, 0, none⟩), .agg #[.slice ao n mcap, .int .u64 (K : Nat), .slice bo l rcap], .slice xo n xc] W fun e w' => ∃ x, e = .returned x ∧ Duo W0 w' p q (es ++ ofEvs n) et := by
  refine h.callB 400000 (args := fun t => #[t, .agg #[.slice ao n mcap, .int .u64 (K : Nat), .slice bo l rcap], .slice xo n xc]) hlen (ofEvs_len hn).1 (fun o ht hR => ?_)
  refine (iOf o ao bo xo n l K mcap rcap n xc ms rs xs W ht (hR _ _ hm) (hR _ _ hr) (hR _ _ hx) hmd hrd hdx hK (by omega) (.inl hok)).mono ?_
  rintro e w' ⟨v', is, c, rfl, zs, m, o', _, _, d, hp, _⟩
  obtain ⟨_, rfl, _⟩ := hp ⟨hok, rfl, h1⟩
  exact ⟨_, rfl, o', d⟩

set_option maxRecDepth 20000 in
set_option maxHeartbeats 4000000 in
theorem walkInverseSeen (u : Value) (ms : List Nat) (k : Int) (v : Value) (rs : List Nat) (u2 : Value) (os1 : List Nat) (k2' : Int) (v2 : Value) (ss : List Nat) (a : Value) (as1 : List Nat) (b : Value) (bs : List Nat) (w : World)
    (hu : Row .u64 w u ms) (hv : Row .u64 w v rs) (hu2 : Row .u64 w u2 os1) (hv2 : Row .u64 w v2 ss) (ha : Row .u64 w a as1) (hb : Row .u64 w b bs)
    (gm : Digs 18446744073709551616 ms) (gr : Digs 18446744073709551616 rs) (go : Digs 18446744073709551616 os1) (gs : Digs 18446744073709551616 ss) (ga : Digs 18446744073709551616 as1) (gb : Digs 18446744073709551616 bs) (hk : (Lit.int .u64 k).wf = true) (hk2 : (Lit.int .u64 k2').wf = true) :
    Calls Try.prog 5 #[.agg #[u, .int .u64 k, v], .agg #[u2, .int .u64 k2', v2], a, b] w fun e w' => e = .returned (.bool true) ∧ Below w.heap.size w w' := by
  obtain ⟨K, rfl, hK⟩ : ∃ D : Nat, k = (D : Int) ∧ D < 18446744073709551616 := by
    have := wf_u64 k hk
    exact ⟨k.toNat, by omega, by omega⟩
  obtain ⟨J, rfl, hJ⟩ : ∃ D : Nat, k2' = (D : Int) ∧ D < 18446744073709551616 := by
    have := wf_u64 k2' hk2
    exact ⟨k2'.toNat, by omega, by omega⟩
  obtain ⟨ao, L, cap, rfl, -, -, -, -, -⟩ := hu.open
  obtain ⟨bo, M, dap, rfl, -, -, -, -, -⟩ := hv.open
  obtain ⟨co, P, eap, rfl, -, -, -, -, -⟩ := hu2.open
  obtain ⟨fo, Q, fap, rfl, -, -, -, -, -⟩ := hv2.open
  obtain ⟨A2, N2, C2, rfl, -, -, -, -, -⟩ := ha.open
  obtain ⟨A3, N3, C3, rfl, -, -, -, -, -⟩ := hb.open
  obtain ⟨W, hW⟩ : ∃ W, W = (w.alloc (.cells #[.slice ao L cap, .int .u64 (K : Nat), .slice bo M dap] 29)).alloc (.cells #[.slice co P eap, .int .u64 (J : Nat), .slice fo Q fap] 29) := ⟨_, rfl⟩
  have k0 : Kept Nought w W := by rw [hW]; exact ((Kept.refl Nought w).alloc _).alloc _
  have hx0 : W.heap[w.heap.size]? = some (.cells #[.slice ao L cap, .int .u64 (K : Nat), .slice bo M dap] 29 (0, 0)) := by rw [hW]; exact heapAt_alloc (heap_alloc_new _ _)
  have hx1 : W.heap[w.heap.size + 1]? = some (.cells #[.slice co P eap, .int .u64 (J : Nat), .slice fo Q fap] 29 (0, 0)) := by
    rw [hW]
    have := heap_alloc_new (w.alloc (.cells #[.slice ao L cap, .int .u64 (K : Nat), .slice bo M dap] 29)) (.cells #[.slice co P eap, .int .u64 (J : Nat), .slice fo Q fap] 29)
    rwa [show (w.alloc (.cells #[.slice ao L cap, .int .u64 (K : Nat), .slice bo M dap] 29)).heap.size = w.heap.size + 1 by simp] at this
  have hA := f10Awake W
  have JC : Hid (∀ W', Kept Nought W W' → (W'.cell? ⟨w.heap.size, 0, none⟩ = some (.slice ao L cap) ∧ W'.cell? ⟨w.heap.size, 1, none⟩ = some (.int .u64 (K : Nat)) ∧ W'.cell? ⟨w.heap.size, 2, none⟩ = some (.slice bo M dap)) ∧ (W'.cell? ⟨w.heap.size + 1, 0, none⟩ = some (.slice co P eap) ∧ W'.cell? ⟨w.heap.size + 1, 1, none⟩ = some (.int .u64 (J : Nat)) ∧ W'.cell? ⟨w.heap.size + 1, 2, none⟩ = some (.slice fo Q fap))) := fun W' k => ⟨cells3 ((k.block _ (lt_of_block hx0) (fun f => f)).trans hx0), cells3 ((k.block _ (lt_of_block hx1) (fun f => f)).trans hx1)⟩
  have HW := toHid hW
  have HK0 := toHid k0
  obtain ⟨R, hR⟩ : ∃ R : Bool, R = decide (((L ≤ 40 ∧ M ≤ 40) ∧ N2 ≤ 40) ∧ L ≤ 10 ∧ ((0 : Nat) ≤ 6 ∨ (0 : Nat) = 301)) := ⟨_, rfl⟩
  obtain ⟨S, hS⟩ : ∃ R : Bool, R = decide (((P ≤ 40 ∧ Q ≤ 40) ∧ N3 ≤ 40) ∧ P ≤ 10 ∧ ((0 : Nat) ≤ 6 ∨ (0 : Nat) = 301)) := ⟨_, rfl⟩
  obtain ⟨R1, hR1⟩ := bool_of9 (okMod ms K rs ∧ (N2 = L ∧ val 18446744073709551616 as1 < val 18446744073709551616 ms))
  obtain ⟨S1, hS1⟩ := bool_of9 (okMod os1 J ss ∧ (N3 = P ∧ val 18446744073709551616 bs < val 18446744073709551616 os1))
  have JF : Hid (∀ W', Kept Nought W W' → Calls Try.prog 10 #[.agg #[.slice ao L cap, .int .u64 (K : Nat), .slice bo M dap], .slice A2 N2 C2, .slice none 0 0] W' fun r w' => r = .returned (.bool R) ∧ Kept Nought W w') := fun W' k => by
    refine (f8Few ao bo A2 none L M N2 0 cap dap C2 0 (K : Nat) W' R hR).mono ?_
    rintro e w' ⟨rfl, k'⟩
    exact ⟨rfl, k.trans k'⟩
  have JG : Hid (∀ W', Kept Nought W W' → Calls Try.prog 10 #[.agg #[.slice co P eap, .int .u64 (J : Nat), .slice fo Q fap], .slice A3 N3 C3, .slice none 0 0] W' fun r w' => r = .returned (.bool S) ∧ Kept Nought W w') := fun W' k => by
    refine (f8Few co fo A3 none P Q N3 0 eap fap C3 0 (J : Nat) W' S hS).mono ?_
    rintro e w' ⟨rfl, k'⟩
    exact ⟨rfl, k.trans k'⟩
  have JM : Hid (∀ W', Kept Nought W W' → L ≤ 40 → Calls Try.prog 14 #[.agg #[.slice ao L cap, .int .u64 (K : Nat), .slice bo M dap], .slice (some ⟨W'.heap.size, 0, none⟩) 1 1] (W'.alloc (.cells #[.slice A2 N2 C2] 26)) fun r w' => r = .returned (.bool R1) ∧ Kept Nought W w') := fun W' k hbd => by
    have kk := k0.trans (k.alloc (.cells #[.slice A2 N2 C2] 26))
    refine (q7Members ao bo L M cap dap K ms rs _ 1 1 (fun _ => A2) (fun _ => N2) (fun _ => C2) (fun _ => as1) R1 ?_ _ (hu.grew kk) (hv.grew kk) gm (by omega) (slot1_new W' _ A2 N2 C2 rfl) (fun _ _ => ha.grew kk) (fun _ _ => ga) (by omega)).mono ?_
    · rw [hR1]
      exact and_congr_right fun _ => ⟨fun h _ _ => h, fun h => h 0 (by omega)⟩
    · rintro e w' ⟨rfl, k'⟩
      exact ⟨rfl, (k.alloc _).trans k'⟩
  have JN : Hid (∀ W', Kept Nought W W' → P ≤ 40 → Calls Try.prog 14 #[.agg #[.slice co P eap, .int .u64 (J : Nat), .slice fo Q fap], .slice (some ⟨W'.heap.size, 0, none⟩) 1 1] (W'.alloc (.cells #[.slice A3 N3 C3] 26)) fun r w' => r = .returned (.bool S1) ∧ Kept Nought W w') := fun W' k hbd => by
    have kk := k0.trans (k.alloc (.cells #[.slice A3 N3 C3] 26))
    refine (q7Members co fo P Q eap fap J os1 ss _ 1 1 (fun _ => A3) (fun _ => N3) (fun _ => C3) (fun _ => bs) S1 ?_ _ (hu2.grew kk) (hv2.grew kk) go (by omega) (slot1_new W' _ A3 N3 C3 rfl) (fun _ _ => hb.grew kk) (fun _ _ => gb) (by omega)).mono ?_
    · rw [hS1]
      exact and_congr_right fun _ => ⟨fun h _ _ => h, fun h => h 0 (by omega)⟩
    · rintro e w' ⟨rfl, k'⟩
      exact ⟨rfl, (k.alloc _).trans k'⟩
  cases R
  · clear hu hv hu2 hv2 ha hb gm gr go gs ga gb hk hk2 hx0 hx1 hW k0 hK hJ hR hS hR1 hS1
    go_enter Try.func5, Try.ntmps5
    go_wp2_with (rw [← HW.out])
    refine hA.mono ?_
    rintro e w1 ⟨rfl, k1⟩
    obtain ⟨⟨p0, p1, p2⟩, p3, p4, p5⟩ := JC.out _ k1
    have hF := JF.out _ k1
    clear hA
    go_wp2_with fail
    refine hF.mono ?_
    rintro e w2 ⟨rfl, k2⟩
    go_wp2_with fail
    go_ret
    exact ⟨rfl, below_kept (HK0.out.trans k2) (Nat.le_refl _)⟩
  · cases S
    · clear hu hv hu2 hv2 ha hb gm gr go gs ga gb hk hk2 hx0 hx1 hW k0 hK hJ hR hS hR1 hS1
      go_enter Try.func5, Try.ntmps5
      go_wp2_with (rw [← HW.out])
      refine hA.mono ?_
      rintro e w1 ⟨rfl, k1⟩
      obtain ⟨⟨p0, p1, p2⟩, p3, p4, p5⟩ := JC.out _ k1
      have hF := JF.out _ k1
      clear hA
      go_wp2_with fail
      refine hF.mono ?_
      rintro e w2 ⟨rfl, k2⟩
      obtain ⟨⟨q0, q1, q2⟩, q3, q4, q5⟩ := JC.out _ k2
      have hG := JG.out _ k2
      clear hF p0 p1 p2 p3 p4 p5
      go_wp2_with fail
      refine hG.mono ?_
      rintro e w3 ⟨rfl, k3⟩
      obtain ⟨⟨r0, r1, r2⟩, r3, r4, r5⟩ := JC.out _ k3
      go_wp2_with fail
      go_ret
      exact ⟨rfl, below_kept (HK0.out.trans k3) (Nat.le_refl _)⟩
    · have h1 := of_decide_eq_true hR.symm
      have h2 := of_decide_eq_true hS.symm
      have HL4 : Hid (L ≤ 40 ∧ P ≤ 40) := ⟨h1.1.1.1, h2.1.1.1⟩
      by_cases h5 : L ≤ 4
      · have g5 : ¬ (L : Int) > 4 := by omega
        have g5b : decide ((L : Int) > 4) = false := decide_eq_false g5
        by_cases hLP : L = P
        · subst hLP
          cases R1
          · clear hu hv hu2 hv2 ha hb gm gr go gs ga gb hk hk2 hx0 hx1 hW k0 hK hJ hR hS hR1 hS1 h1 h2 h5
            go_enter Try.func5, Try.ntmps5
            go_wp2_with (rw [← HW.out])
            refine hA.mono ?_
            rintro e w1 ⟨rfl, k1⟩
            obtain ⟨⟨p0, p1, p2⟩, p3, p4, p5⟩ := JC.out _ k1
            have hF := JF.out _ k1
            clear hA
            go_wp2_with fail
            refine hF.mono ?_
            rintro e w2 ⟨rfl, k2⟩
            obtain ⟨⟨q0, q1, q2⟩, q3, q4, q5⟩ := JC.out _ k2
            have hG := JG.out _ k2
            clear hF p0 p1 p2 p3 p4 p5
            go_wp2_with fail
            refine hG.mono ?_
            rintro e w3 ⟨rfl, k3⟩
            obtain ⟨⟨r0, r1, r2⟩, r3, r4, r5⟩ := JC.out _ k3
            have hN := JM.out _ k3 HL4.out.1
            clear hG q0 q1 q2 q3 q4 q5
            go_wp2_with fail
            refine hN.mono ?_
            rintro e w4 ⟨rfl, k4⟩
            go_wp2_with fail
            go_ret
            exact ⟨rfl, below_kept (HK0.out.trans k4) (Nat.le_refl _)⟩
          · cases S1
            · clear hu hv hu2 hv2 ha hb gm gr go gs ga gb hk hk2 hx0 hx1 hW k0 hK hJ hR hS hR1 hS1 h1 h2 h5
              go_enter Try.func5, Try.ntmps5
              go_wp2_with (rw [← HW.out])
              refine hA.mono ?_
              rintro e w1 ⟨rfl, k1⟩
              obtain ⟨⟨p0, p1, p2⟩, p3, p4, p5⟩ := JC.out _ k1
              have hF := JF.out _ k1
              clear hA
              go_wp2_with fail
              refine hF.mono ?_
              rintro e w2 ⟨rfl, k2⟩
              obtain ⟨⟨q0, q1, q2⟩, q3, q4, q5⟩ := JC.out _ k2
              have hG := JG.out _ k2
              clear hF p0 p1 p2 p3 p4 p5
              go_wp2_with fail
              refine hG.mono ?_
              rintro e w3 ⟨rfl, k3⟩
              obtain ⟨⟨r0, r1, r2⟩, r3, r4, r5⟩ := JC.out _ k3
              have hN := JM.out _ k3 HL4.out.1
              clear hG q0 q1 q2 q3 q4 q5
              go_wp2_with fail
              refine hN.mono ?_
              rintro e w4 ⟨rfl, k4⟩
              obtain ⟨⟨s0, s1, s2⟩, s3, s4, s5⟩ := JC.out _ k4
              have hN2 := JN.out _ k4 HL4.out.2
              clear hN r0 r1 r2 r3 r4 r5
              go_wp2_with fail
              refine hN2.mono ?_
              rintro e w5 ⟨rfl, k5⟩
              go_wp2_with fail
              go_ret
              exact ⟨rfl, below_kept (HK0.out.trans k5) (Nat.le_refl _)⟩
            · obtain ⟨ok1, rfl, lt1⟩ := hR1.1 rfl
              obtain ⟨ok2, rfl, lt2⟩ := hS1.1 rfl
              have hn : N3 ≤ 130 := by omega
              have HT8 := toHid (ofEvs_len hn)
              have JX1 : Hid (∀ W0 W' p q es et, Kept Nought W W0 → Duo W0 W' p q es et → es.length ≤ 1000000000 → Calls Try.prog 11 #[.pointer (some ⟨p, 0, none⟩), .agg #[.slice ao N3 cap, .int .u64 (K : Nat), .slice bo M dap], .slice A2 N3 C2] W' fun e w' => ∃ x, e = .returned x ∧ Duo W0 w' p q (es ++ ofEvs N3) et) := fun W0 W' p q es et kk hD hl => hD.of10 (by omega) ao bo A2 N3 M K cap dap C2 ms rs as1 (hu.grew (k0.trans kk)) (hv.grew (k0.trans kk)) (ha.grew (k0.trans kk)) gm gr ga hK hn ok1 lt1
              have JX2 : Hid (∀ W0 W' p q es et, Kept Nought W W0 → Duo W0 W' p q es et → es.length ≤ 1000000000 → Calls Try.prog 11 #[.pointer (some ⟨p, 0, none⟩), .agg #[.slice co N3 eap, .int .u64 (J : Nat), .slice fo Q fap], .slice A3 N3 C3] W' fun e w' => ∃ x, e = .returned x ∧ Duo W0 w' p q (es ++ ofEvs N3) et) := fun W0 W' p q es et kk hD hl => hD.of10 (by omega) co fo A3 N3 Q J eap fap C3 os1 ss bs (hu2.grew (k0.trans kk)) (hv2.grew (k0.trans kk)) (hb.grew (k0.trans kk)) go gs gb hJ hn ok2 lt2
              clear hu hv hu2 hv2 ha hb gm gr go gs ga gb hk hk2 hx0 hx1 hW k0 hK hJ hR hS hR1 hS1 h1 h2 h5 ok1 ok2 lt1 lt2 hn
              go_enter Try.func5, Try.ntmps5
              go_wp2_with (rw [← HW.out])
              refine hA.mono ?_
              rintro e w1 ⟨rfl, k1⟩
              obtain ⟨⟨p0, p1, p2⟩, p3, p4, p5⟩ := JC.out _ k1
              have hF := JF.out _ k1
              clear hA
              go_wp2_with fail
              refine hF.mono ?_
              rintro e w2 ⟨rfl, k2⟩
              obtain ⟨⟨q0, q1, q2⟩, q3, q4, q5⟩ := JC.out _ k2
              have hG := JG.out _ k2
              clear hF p0 p1 p2 p3 p4 p5
              go_wp2_with fail
              refine hG.mono ?_
              rintro e w3 ⟨rfl, k3⟩
              obtain ⟨⟨r0, r1, r2⟩, r3, r4, r5⟩ := JC.out _ k3
              have hN := JM.out _ k3 HL4.out.1
              clear hG q0 q1 q2 q3 q4 q5
              go_wp2_with fail
              refine hN.mono ?_
              rintro e w4 ⟨rfl, k4⟩
              obtain ⟨⟨s0, s1, s2⟩, s3, s4, s5⟩ := JC.out _ k4
              have hN2 := JN.out _ k4 HL4.out.2
              clear hN r0 r1 r2 r3 r4 r5
              go_wp2_with fail
              refine hN2.mono ?_
              rintro e w5 ⟨rfl, k5⟩
              have hT1 := tNew w5
              have hT2 := tNew (w5.alloc newTr)
              rw [show (w5.alloc newTr).heap.size = w5.heap.size + 1 by simp] at hT2
              have DU := toHid (Duo.new w5)
              have K5 := toHid k5
              clear hN2 s0 s1 s2 s3 s4 s5
              go_wp2_with fail
              refine hT1.mono ?_
              rintro e w6 ⟨rfl, rfl⟩
              go_wp2_with fail
              refine hT2.mono ?_
              rintro e w7 ⟨rfl, rfl⟩
              obtain ⟨⟨t0, t1, t2⟩, t3, t4, t5⟩ := JC.out _ (K5.out.trans DU.out.1)
              have hE1 := JX1.out w5 _ w5.heap.size (w5.heap.size + 1) [] [] K5.out DU.out (by simp)
              clear hT1 hT2
              go_wp2_with fail
              refine hE1.mono ?_
              rintro e w8 ⟨x8, rfl, D8⟩
              have D8 := toHid D8
              obtain ⟨⟨t0, t1, t2⟩, t3, t4, t5⟩ := JC.out _ (K5.out.trans D8.out.1)
              have hE3 := JX2.out w5 _ (w5.heap.size + 1) w5.heap.size [] _ K5.out D8.out.swap (by simp)
              clear hE1
              go_wp2_with fail
              refine hE3.mono ?_
              rintro e w10 ⟨x10, rfl, D10⟩
              have D11 := toHid D10.swap
              have hSa := Duo.same D11.out
              clear hE3 t0 t1 t2 t3 t4 t5 D10
              go_wp2_with fail
              refine hSa.mono ?_
              rintro e w12 ⟨rfl, D12⟩
              have hMa := D12.many
              have D12 := toHid D12
              have HP : Hid (0 < ([] ++ ofEvs N3).length) := HT8.out.2
              generalize ([] ++ ofEvs N3).length = len at *
              have gl : (len : Int) > 0 := by have := HP.out; omega
              clear hSa
              go_wp2_with fail
              refine hMa.mono ?_
              rintro e w13 ⟨rfl, rfl⟩
              go_wp2_with fail
              go_ret
              exact ⟨by simp; exact HP.out, below_kept (HK0.out.trans (K5.out.trans D12.out.1)) (Nat.le_refl _)⟩
        · have g7 : ¬ (L : Int) = (P : Int) := by omega
          have g7b : ((L : Int) == (P : Int)) = false := by simp; omega
          clear hu hv hu2 hv2 ha hb gm gr go gs ga gb hk hk2 hx0 hx1 hW k0 hK hJ hR hS hR1 hS1 h1 h2 h5
          go_enter Try.func5, Try.ntmps5
          go_wp2_with (rw [← HW.out])
          refine hA.mono ?_
          rintro e w1 ⟨rfl, k1⟩
          obtain ⟨⟨p0, p1, p2⟩, p3, p4, p5⟩ := JC.out _ k1
          have hF := JF.out _ k1
          clear hA
          go_wp2_with fail
          refine hF.mono ?_
          rintro e w2 ⟨rfl, k2⟩
          obtain ⟨⟨q0, q1, q2⟩, q3, q4, q5⟩ := JC.out _ k2
          have hG := JG.out _ k2
          clear hF p0 p1 p2 p3 p4 p5
          go_wp2_with fail
          refine hG.mono ?_
          rintro e w3 ⟨rfl, k3⟩
          obtain ⟨⟨r0, r1, r2⟩, r3, r4, r5⟩ := JC.out _ k3
          go_wp2_with fail
          go_ret
          exact ⟨rfl, below_kept (HK0.out.trans k3) (Nat.le_refl _)⟩
      · have g5 : (L : Int) > 4 := by omega
        have g5b : decide ((L : Int) > 4) = true := decide_eq_true g5
        clear hu hv hu2 hv2 ha hb gm gr go gs ga gb hk hk2 hx0 hx1 hW k0 hK hJ hR hS hR1 hS1 h1 h2 h5
        go_enter Try.func5, Try.ntmps5
        go_wp2_with (rw [← HW.out])
        refine hA.mono ?_
        rintro e w1 ⟨rfl, k1⟩
        obtain ⟨⟨p0, p1, p2⟩, p3, p4, p5⟩ := JC.out _ k1
        have hF := JF.out _ k1
        clear hA
        go_wp2_with fail
        refine hF.mono ?_
        rintro e w2 ⟨rfl, k2⟩
        obtain ⟨⟨q0, q1, q2⟩, q3, q4, q5⟩ := JC.out _ k2
        have hG := JG.out _ k2
        clear hF p0 p1 p2 p3 p4 p5
        go_wp2_with fail
        refine hG.mono ?_
        rintro e w3 ⟨rfl, k3⟩
        obtain ⟨⟨r0, r1, r2⟩, r3, r4, r5⟩ := JC.out _ k3
        go_wp2_with fail
        go_ret
        exact ⟨rfl, below_kept (HK0.out.trans k3) (Nat.le_refl _)⟩

end Go.Proofs.Ytamkkmifbajdfaa
