/- The law PowerSeen, walked. -/
import Derived.Test.YtoieghgaahfciaaGreatLaw8
import Derived.Test.YtoieghgaahfciaaGreatL6D
import Derived.Test.YtoieghgaahfciaaGreatOpenRow
namespace Go.Proofs.YtoieghgaahfciaaGreat
open Go.RowKit

theorem bool_of9 (P : Prop) : ∃ R : Bool, R = true ↔ P := by
  by_cases h : P
  · exact ⟨true, by simp [h]⟩
  · exact ⟨false, by simp [h]⟩

/-- A call that writes the first trace, of up to b events. -/
theorem Duo.callB {W0 W : World} {p q f : Nat} {es et m : List Ev} {args : Value → Array Value} (b : Nat) (h : Duo W0 W p q es et) (hlen : es.length + b < 1000000000000) (hm : m.length ≤ b)
    (hc : ∀ o, TrRoom W o b → (∀ v zs, Row .u64 W0 v zs → RowT W o v zs) → Calls Tryz.prog f (args (trPtr o)) W fun e w' => ∃ x, e = .returned x ∧ ∃ o', Did W o m w' o') :
    Calls Tryz.prog f (args (.pointer (some ⟨p, 0, none⟩))) W fun e w' => ∃ x, e = .returned x ∧ Duo W0 w' p q (es ++ m) et := by
  obtain ⟨k, o, r, ⟨h1, h0, h2, h3, h4⟩, ⟨g1, g0, g2, g3, g4⟩, ha⟩ := h
  rw [← h2]
  have hroom : TrRoom W o b := ⟨h1, by rw [h3]; exact hlen⟩
  refine (hc o hroom (fun v zs hr => ⟨hr.grew k, fun hn b hb f => ?_⟩)).mono ?_
  · have := hr.lt hn b hb
    have := h4 b f
    omega
  · rintro e w' ⟨x, rfl, o', d⟩
    refine ⟨x, rfl, ?_, o', r, ⟨(d.room (k := 0) (hroom.less (by omega))).1, ?_, by rw [d.ptr, h2], by rw [d.evs h0, h3], fun b f => ?_⟩, ⟨g1.apart2 d (fun b f g => ha b g f), g0, g2, g3, g4⟩, fun b f g => ?_⟩
    · exact k.next d.kept (fun x hx f => absurd (h4 x f) (by omega))
    · intro e
      have := d.ptr
      rw [e, h2] at this
      exact absurd this (by simp [trPtr])
    · by_cases hb : b < W.heap.size
      · exact h4 b (d.foot hb f)
      · have := k.size
        omega
    · have hb := g1.foot b g
      exact ha b (d.foot hb f) g

/-- What Exp, Table write down. -/
def evX8 (n L : Nat) : List Ev := entEv8 n ++ expEv8 n L

def evT8 (n : Nat) : List Ev := entEv8 n ++ powEv8 n 14

theorem evX8_len {n L : Nat} (h : n ≤ 130) (hL : L ≤ 300) : (evX8 n L).length ≤ 70000000 := by
  have h1 := (ev8_len h).2.1
  have h2 := expEv8_len h hL
  unfold evX8
  rw [List.length_append]
  omega

theorem evT8_len {n : Nat} (h : n ≤ 130) : (evT8 n).length ≤ 70000000 ∧ 0 < (evT8 n).length := by
  have h1 := (ev8_len h).2.1
  have h2 := powEv8_len h 14
  have h3 : 0 < (entEv8 n).length := by unfold entEv8; simp
  unfold evT8
  rw [List.length_append]
  omega

/-- Exp on the first trace. -/
theorem Duo.exp8 {W0 W : World} {p q : Nat} {es et : List Ev} (h : Duo W0 W p q es et) (hlen : es.length + 70000000 < 1000000000000) (ao bo xo eo : Option Addr) (n l K mcap rcap xc L ecap : Nat) (ms rs xs ys : List Nat)
    (hm : Row .u64 W0 (.slice ao n mcap) ms) (hr : Row .u64 W0 (.slice bo l rcap) rs) (hx : Row .u64 W0 (.slice xo n xc) xs) (hy : Row .u64 W0 (.slice eo L ecap) ys) (hmd : Digs 18446744073709551616 ms) (hrd : Digs 18446744073709551616 rs) (hdx : Digs 18446744073709551616 xs) (hdy : Digs 18446744073709551616 ys) (hK : K < 18446744073709551616) (hn : n ≤ 130) (hL : L ≤ 300) (hok : okMod ms K rs) (h1 : val 18446744073709551616 xs < val 18446744073709551616 ms) :
    Calls Tryz.prog 9 #[.pointer (some ⟨p, 0, none⟩), .agg #[.slice ao n mcap, .int .u64 (K : Nat), .slice bo l rcap], .slice xo n xc, .slice eo L ecap] W fun e w' => ∃ x, e = .returned x ∧ Duo W0 w' p q (es ++ evX8 n L) et := by
  refine h.callB 70000000 (args := fun t => #[t, .agg #[.slice ao n mcap, .int .u64 (K : Nat), .slice bo l rcap], .slice xo n xc, .slice eo L ecap]) hlen (evX8_len hn hL) (fun o ht hR => ?_)
  refine (wExp o ao bo xo eo n l K mcap rcap n xc L ecap ms rs xs ys 0 W ht (hR _ _ hm) (hR _ _ hr) (hR _ _ hx) (hR _ _ hy) hmd hrd hdx hdy hK (by omega) ⟨fun _ => ⟨hok, rfl, h1⟩, fun _ => rfl⟩ (by omega)).mono ?_
  rintro e w' ⟨zo, zn, zc, c, rfl, ⟨_, _, _, _, o', d⟩ | ⟨h2, _⟩⟩
  · exact ⟨_, rfl, o', d⟩
  · rcases h2 with ⟨h3, _⟩ | ⟨_, h3, _⟩ <;> omega

/-- Table on the first trace. -/
theorem Duo.table8 {W0 W : World} {p q : Nat} {es et : List Ev} (h : Duo W0 W p q es et) (hlen : es.length + 70000000 < 1000000000000) (ao bo xo : Option Addr) (n l K mcap rcap xc : Nat) (ms rs xs : List Nat)
    (hm : Row .u64 W0 (.slice ao n mcap) ms) (hr : Row .u64 W0 (.slice bo l rcap) rs) (hx : Row .u64 W0 (.slice xo n xc) xs) (hmd : Digs 18446744073709551616 ms) (hrd : Digs 18446744073709551616 rs) (hdx : Digs 18446744073709551616 xs) (hK : K < 18446744073709551616) (hn : n ≤ 130) (hok : okMod ms K rs) (h1 : val 18446744073709551616 xs < val 18446744073709551616 ms) :
    Calls Tryz.prog 12 #[.pointer (some ⟨p, 0, none⟩), .agg #[.slice ao n mcap, .int .u64 (K : Nat), .slice bo l rcap], .slice xo n xc] W fun e w' => ∃ x, e = .returned x ∧ Duo W0 w' p q (es ++ evT8 n) et := by
  refine h.callB 70000000 (args := fun t => #[t, .agg #[.slice ao n mcap, .int .u64 (K : Nat), .slice bo l rcap], .slice xo n xc]) hlen (evT8_len hn).1 (fun o ht hR => ?_)
  refine (wTable o ao bo xo n l K mcap rcap n xc ms rs xs 0 W ht (hR _ _ hm) (hR _ _ hr) (hR _ _ hx) hmd hrd hdx hK (by omega) ⟨fun _ => ⟨hok, rfl, h1⟩, fun _ => rfl⟩ (by omega)).mono ?_
  rintro e w' ⟨zo, zn, zc, rfl, ⟨_, _, o', d⟩ | ⟨h2, _⟩⟩
  · exact ⟨_, rfl, o', d⟩
  · omega

set_option maxRecDepth 20000 in
set_option maxHeartbeats 4000000 in
theorem walkPowerSeen (u : Value) (ms : List Nat) (k : Int) (v : Value) (rs : List Nat) (u' : Value) (os1 : List Nat) (k' : Int) (v' : Value) (ss : List Nat) (a : Value) (as1 : List Nat) (b : Value) (bs : List Nat) (c : Value) (cs : List Nat) (d : Value) (ds : List Nat) (w : World)
    (hu : Row .u64 w u ms) (hv : Row .u64 w v rs) (hu' : Row .u64 w u' os1) (hv' : Row .u64 w v' ss) (ha : Row .u64 w a as1) (hb : Row .u64 w b bs) (hc : Row .u64 w c cs) (hd : Row .u64 w d ds)
    (gm : Digs 18446744073709551616 ms) (gr : Digs 18446744073709551616 rs) (go : Digs 18446744073709551616 os1) (gs : Digs 18446744073709551616 ss) (ga : Digs 18446744073709551616 as1) (gb : Digs 18446744073709551616 bs) (gc : Digs 18446744073709551616 cs) (gd : Digs 18446744073709551616 ds) (hk : (Lit.int .u64 k).wf = true) (hk' : (Lit.int .u64 k').wf = true) :
    Calls Tryz.prog 6 #[.agg #[u, .int .u64 k, v], .agg #[u', .int .u64 k', v'], a, b, c, d] w fun e w' => e = .returned (.bool true) ∧ Below w.heap.size w w' := by
  obtain ⟨K, rfl, hK⟩ : ∃ D : Nat, k = (D : Int) ∧ D < 18446744073709551616 := by
    have := wf_u64 k hk
    exact ⟨k.toNat, by omega, by omega⟩
  obtain ⟨J, rfl, hJ⟩ : ∃ D : Nat, k' = (D : Int) ∧ D < 18446744073709551616 := by
    have := wf_u64 k' hk'
    exact ⟨k'.toNat, by omega, by omega⟩
  obtain ⟨ao, L, cap, rfl, -, -, -, -, -⟩ := hu.open
  obtain ⟨bo, M, dap, rfl, -, -, -, -, -⟩ := hv.open
  obtain ⟨co, P, eap, rfl, -, -, -, -, -⟩ := hu'.open
  obtain ⟨fo, Q, fap, rfl, -, -, -, -, -⟩ := hv'.open
  obtain ⟨A2, N2, C2, rfl, -, -, -, -, -⟩ := ha.open
  obtain ⟨A3, N3, C3, rfl, -, -, -, -, -⟩ := hb.open
  obtain ⟨A4, N4, C4, rfl, -, -, -, -, -⟩ := hc.open
  obtain ⟨A5, N5, C5, rfl, -, -, -, -, -⟩ := hd.open
  obtain ⟨W, hW⟩ : ∃ W, W = (w.alloc (.cells #[.slice ao L cap, .int .u64 (K : Nat), .slice bo M dap] 26)).alloc (.cells #[.slice co P eap, .int .u64 (J : Nat), .slice fo Q fap] 26) := ⟨_, rfl⟩
  have k0 : Kept Nought w W := by rw [hW]; exact ((Kept.refl Nought w).alloc _).alloc _
  have hx0 : W.heap[w.heap.size]? = some (.cells #[.slice ao L cap, .int .u64 (K : Nat), .slice bo M dap] 26 (0, 0)) := by rw [hW]; exact heapAt_alloc (heap_alloc_new _ _)
  have hx1 : W.heap[w.heap.size + 1]? = some (.cells #[.slice co P eap, .int .u64 (J : Nat), .slice fo Q fap] 26 (0, 0)) := by
    rw [hW]
    have := heap_alloc_new (w.alloc (.cells #[.slice ao L cap, .int .u64 (K : Nat), .slice bo M dap] 26)) (.cells #[.slice co P eap, .int .u64 (J : Nat), .slice fo Q fap] 26)
    rwa [show (w.alloc (.cells #[.slice ao L cap, .int .u64 (K : Nat), .slice bo M dap] 26)).heap.size = w.heap.size + 1 by simp] at this
  have hA := f8Awake W
  have JC : Hid (∀ W', Kept Nought W W' → (W'.cell? ⟨w.heap.size, 0, none⟩ = some (.slice ao L cap) ∧ W'.cell? ⟨w.heap.size, 1, none⟩ = some (.int .u64 (K : Nat)) ∧ W'.cell? ⟨w.heap.size, 2, none⟩ = some (.slice bo M dap)) ∧ (W'.cell? ⟨w.heap.size + 1, 0, none⟩ = some (.slice co P eap) ∧ W'.cell? ⟨w.heap.size + 1, 1, none⟩ = some (.int .u64 (J : Nat)) ∧ W'.cell? ⟨w.heap.size + 1, 2, none⟩ = some (.slice fo Q fap))) := fun W' k => ⟨cells3 ((k.block _ (lt_of_block hx0) (fun f => f)).trans hx0), cells3 ((k.block _ (lt_of_block hx1) (fun f => f)).trans hx1)⟩
  have HW := toHid hW
  have HK0 := toHid k0
  obtain ⟨R, hR⟩ : ∃ R : Bool, R = decide (((L ≤ 40 ∧ M ≤ 40) ∧ N2 ≤ 40) ∧ L ≤ 10 ∧ (N4 ≤ 6 ∨ N4 = 301)) := ⟨_, rfl⟩
  obtain ⟨S, hS⟩ : ∃ R : Bool, R = decide (((P ≤ 40 ∧ Q ≤ 40) ∧ N3 ≤ 40) ∧ P ≤ 10 ∧ (N5 ≤ 6 ∨ N5 = 301)) := ⟨_, rfl⟩
  obtain ⟨R1, hR1⟩ := bool_of9 (okMod ms K rs ∧ (N2 = L ∧ val 18446744073709551616 as1 < val 18446744073709551616 ms))
  obtain ⟨S1, hS1⟩ := bool_of9 (okMod os1 J ss ∧ (N3 = P ∧ val 18446744073709551616 bs < val 18446744073709551616 os1))
  have JF : Hid (∀ W', Kept Nought W W' → Calls Tryz.prog 8 #[.agg #[.slice ao L cap, .int .u64 (K : Nat), .slice bo M dap], .slice A2 N2 C2, .slice A4 N4 C4] W' fun r w' => r = .returned (.bool R) ∧ Kept Nought W w') := fun W' k => by
    refine (f8Few ao bo A2 A4 L M N2 N4 cap dap C2 C4 (K : Nat) W' R hR).mono ?_
    rintro e w' ⟨rfl, k'⟩
    exact ⟨rfl, k.trans k'⟩
  have JG : Hid (∀ W', Kept Nought W W' → Calls Tryz.prog 8 #[.agg #[.slice co P eap, .int .u64 (J : Nat), .slice fo Q fap], .slice A3 N3 C3, .slice A5 N5 C5] W' fun r w' => r = .returned (.bool S) ∧ Kept Nought W w') := fun W' k => by
    refine (f8Few co fo A3 A5 P Q N3 N5 eap fap C3 C5 (J : Nat) W' S hS).mono ?_
    rintro e w' ⟨rfl, k'⟩
    exact ⟨rfl, k.trans k'⟩
  have JM : Hid (∀ W', Kept Nought W W' → L ≤ 40 → Calls Tryz.prog 14 #[.agg #[.slice ao L cap, .int .u64 (K : Nat), .slice bo M dap], .slice (some ⟨W'.heap.size, 0, none⟩) 1 1] (W'.alloc (.cells #[.slice A2 N2 C2] 23)) fun r w' => r = .returned (.bool R1) ∧ Kept Nought W w') := fun W' k hbd => by
    have kk := k0.trans (k.alloc (.cells #[.slice A2 N2 C2] 23))
    refine (q7Members ao bo L M cap dap K ms rs _ 1 1 (fun _ => A2) (fun _ => N2) (fun _ => C2) (fun _ => as1) R1 ?_ _ (hu.grew kk) (hv.grew kk) gm (by omega) (slot1_new W' _ A2 N2 C2 rfl) (fun _ _ => ha.grew kk) (fun _ _ => ga) (by omega)).mono ?_
    · rw [hR1]
      exact and_congr_right fun _ => ⟨fun h _ _ => h, fun h => h 0 (by omega)⟩
    · rintro e w' ⟨rfl, k'⟩
      exact ⟨rfl, (k.alloc _).trans k'⟩
  have JN : Hid (∀ W', Kept Nought W W' → P ≤ 40 → Calls Tryz.prog 14 #[.agg #[.slice co P eap, .int .u64 (J : Nat), .slice fo Q fap], .slice (some ⟨W'.heap.size, 0, none⟩) 1 1] (W'.alloc (.cells #[.slice A3 N3 C3] 23)) fun r w' => r = .returned (.bool S1) ∧ Kept Nought W w') := fun W' k hbd => by
    have kk := k0.trans (k.alloc (.cells #[.slice A3 N3 C3] 23))
    refine (q7Members co fo P Q eap fap J os1 ss _ 1 1 (fun _ => A3) (fun _ => N3) (fun _ => C3) (fun _ => bs) S1 ?_ _ (hu'.grew kk) (hv'.grew kk) go (by omega) (slot1_new W' _ A3 N3 C3 rfl) (fun _ _ => hb.grew kk) (fun _ _ => gb) (by omega)).mono ?_
    · rw [hS1]
      exact and_congr_right fun _ => ⟨fun h _ _ => h, fun h => h 0 (by omega)⟩
    · rintro e w' ⟨rfl, k'⟩
      exact ⟨rfl, (k.alloc _).trans k'⟩
  cases R
  · clear hu hv hu' hv' ha hb hc hd gm gr go gs ga gb gc gd hk hk' hx0 hx1 hW k0 hK hJ hR hS hR1 hS1
    go_enter Tryz.func6, Tryz.ntmps6
    go_wp2_with (rw [← HW.out])
    refine hA.mono ?_
    rintro e w1 ⟨rfl, k1⟩
    obtain ⟨⟨p0, p1, p2⟩, p3, p4, p5⟩ := JC.out _ k1
    have hF := JF.out _ k1
    clear hA
    go_wp2_with fail
    refine hF.mono ?_
    rintro e w2 ⟨rfl, k2⟩
    go_wp2_with fail
    go_ret
    exact ⟨rfl, below_kept (HK0.out.trans k2) (Nat.le_refl _)⟩
  · cases S
    · clear hu hv hu' hv' ha hb hc hd gm gr go gs ga gb gc gd hk hk' hx0 hx1 hW k0 hK hJ hR hS hR1 hS1
      go_enter Tryz.func6, Tryz.ntmps6
      go_wp2_with (rw [← HW.out])
      refine hA.mono ?_
      rintro e w1 ⟨rfl, k1⟩
      obtain ⟨⟨p0, p1, p2⟩, p3, p4, p5⟩ := JC.out _ k1
      have hF := JF.out _ k1
      clear hA
      go_wp2_with fail
      refine hF.mono ?_
      rintro e w2 ⟨rfl, k2⟩
      obtain ⟨⟨q0, q1, q2⟩, q3, q4, q5⟩ := JC.out _ k2
      have hG := JG.out _ k2
      clear hF p0 p1 p2 p3 p4 p5
      go_wp2_with fail
      refine hG.mono ?_
      rintro e w3 ⟨rfl, k3⟩
      go_wp2_with fail
      go_ret
      exact ⟨rfl, below_kept (HK0.out.trans k3) (Nat.le_refl _)⟩
    · have h1 := of_decide_eq_true hR.symm
      have h2 := of_decide_eq_true hS.symm
      have HL4 : Hid (L ≤ 40 ∧ P ≤ 40) := ⟨h1.1.1.1, h2.1.1.1⟩
      by_cases hLP : L = P
      · subst hLP
        by_cases h45 : N4 = N5
        · subst h45
          by_cases h6 : 6 < N4
          · have g6 : (N4 : Int) > 6 := by omega
            have g6b : decide ((N4 : Int) > 6) = true := decide_eq_true g6
            clear hu hv hu' hv' ha hb hc hd gm gr go gs ga gb gc gd hk hk' hx0 hx1 hW k0 hK hJ hR hS hR1 hS1 h1 h2
            go_enter Tryz.func6, Tryz.ntmps6
            go_wp2_with (rw [← HW.out])
            refine hA.mono ?_
            rintro e w1 ⟨rfl, k1⟩
            obtain ⟨⟨p0, p1, p2⟩, p3, p4, p5⟩ := JC.out _ k1
            have hF := JF.out _ k1
            clear hA
            go_wp2_with fail
            refine hF.mono ?_
            rintro e w2 ⟨rfl, k2⟩
            obtain ⟨⟨q0, q1, q2⟩, q3, q4, q5⟩ := JC.out _ k2
            have hG := JG.out _ k2
            clear hF p0 p1 p2 p3 p4 p5
            go_wp2_with fail
            refine hG.mono ?_
            rintro e w3 ⟨rfl, k3⟩
            obtain ⟨⟨r0, r1, r2⟩, r3, r4, r5⟩ := JC.out _ k3
            go_wp2_with fail
            go_ret
            exact ⟨rfl, below_kept (HK0.out.trans k3) (Nat.le_refl _)⟩
          · have g6 : ¬ (N4 : Int) > 6 := by omega
            have g6b : decide ((N4 : Int) > 6) = false := decide_eq_false g6
            cases R1
            · clear hu hv hu' hv' ha hb hc hd gm gr go gs ga gb gc gd hk hk' hx0 hx1 hW k0 hK hJ hR hS hR1 hS1 h1 h2
              go_enter Tryz.func6, Tryz.ntmps6
              go_wp2_with (rw [← HW.out])
              refine hA.mono ?_
              rintro e w1 ⟨rfl, k1⟩
              obtain ⟨⟨p0, p1, p2⟩, p3, p4, p5⟩ := JC.out _ k1
              have hF := JF.out _ k1
              clear hA
              go_wp2_with fail
              refine hF.mono ?_
              rintro e w2 ⟨rfl, k2⟩
              obtain ⟨⟨q0, q1, q2⟩, q3, q4, q5⟩ := JC.out _ k2
              have hG := JG.out _ k2
              clear hF p0 p1 p2 p3 p4 p5
              go_wp2_with fail
              refine hG.mono ?_
              rintro e w3 ⟨rfl, k3⟩
              obtain ⟨⟨r0, r1, r2⟩, r3, r4, r5⟩ := JC.out _ k3
              have hN := JM.out _ k3 HL4.out.1
              clear hG q0 q1 q2 q3 q4 q5
              go_wp2_with fail
              refine hN.mono ?_
              rintro e w4 ⟨rfl, k4⟩
              go_wp2_with fail
              go_ret
              exact ⟨rfl, below_kept (HK0.out.trans k4) (Nat.le_refl _)⟩
            · cases S1
              · clear hu hv hu' hv' ha hb hc hd gm gr go gs ga gb gc gd hk hk' hx0 hx1 hW k0 hK hJ hR hS hR1 hS1 h1 h2
                go_enter Tryz.func6, Tryz.ntmps6
                go_wp2_with (rw [← HW.out])
                refine hA.mono ?_
                rintro e w1 ⟨rfl, k1⟩
                obtain ⟨⟨p0, p1, p2⟩, p3, p4, p5⟩ := JC.out _ k1
                have hF := JF.out _ k1
                clear hA
                go_wp2_with fail
                refine hF.mono ?_
                rintro e w2 ⟨rfl, k2⟩
                obtain ⟨⟨q0, q1, q2⟩, q3, q4, q5⟩ := JC.out _ k2
                have hG := JG.out _ k2
                clear hF p0 p1 p2 p3 p4 p5
                go_wp2_with fail
                refine hG.mono ?_
                rintro e w3 ⟨rfl, k3⟩
                obtain ⟨⟨r0, r1, r2⟩, r3, r4, r5⟩ := JC.out _ k3
                have hN := JM.out _ k3 HL4.out.1
                clear hG q0 q1 q2 q3 q4 q5
                go_wp2_with fail
                refine hN.mono ?_
                rintro e w4 ⟨rfl, k4⟩
                obtain ⟨⟨s0, s1, s2⟩, s3, s4, s5⟩ := JC.out _ k4
                have hN2 := JN.out _ k4 HL4.out.2
                clear hN r0 r1 r2 r3 r4 r5
                go_wp2_with fail
                refine hN2.mono ?_
                rintro e w5 ⟨rfl, k5⟩
                go_wp2_with fail
                go_ret
                exact ⟨rfl, below_kept (HK0.out.trans k5) (Nat.le_refl _)⟩
              · obtain ⟨ok1, rfl, lt1⟩ := hR1.1 rfl
                obtain ⟨ok2, rfl, lt2⟩ := hS1.1 rfl
                have hn : N3 ≤ 130 := by have := h1.2.1; omega
                have hL3 : N4 ≤ 300 := by omega
                have HT8 := toHid (evT8_len hn)
                have HX8 := toHid (evX8_len hn hL3)
                have JX1 : Hid (∀ W0 W' p q es et, Kept Nought W W0 → Duo W0 W' p q es et → es.length ≤ 1000000000 → Calls Tryz.prog 9 #[.pointer (some ⟨p, 0, none⟩), .agg #[.slice ao N3 cap, .int .u64 (K : Nat), .slice bo M dap], .slice A2 N3 C2, .slice A4 N4 C4] W' fun e w' => ∃ x, e = .returned x ∧ Duo W0 w' p q (es ++ evX8 N3 N4) et) := fun W0 W' p q es et kk hD hl => hD.exp8 (by omega) ao bo A2 A4 N3 M K cap dap C2 N4 C4 ms rs as1 cs (hu.grew (k0.trans kk)) (hv.grew (k0.trans kk)) (ha.grew (k0.trans kk)) (hc.grew (k0.trans kk)) gm gr ga gc hK hn hL3 ok1 lt1
                have JX2 : Hid (∀ W0 W' p q es et, Kept Nought W W0 → Duo W0 W' p q es et → es.length ≤ 1000000000 → Calls Tryz.prog 9 #[.pointer (some ⟨p, 0, none⟩), .agg #[.slice co N3 eap, .int .u64 (J : Nat), .slice fo Q fap], .slice A3 N3 C3, .slice A5 N4 C5] W' fun e w' => ∃ x, e = .returned x ∧ Duo W0 w' p q (es ++ evX8 N3 N4) et) := fun W0 W' p q es et kk hD hl => hD.exp8 (by omega) co fo A3 A5 N3 Q J eap fap C3 N4 C5 os1 ss bs ds (hu'.grew (k0.trans kk)) (hv'.grew (k0.trans kk)) (hb.grew (k0.trans kk)) (hd.grew (k0.trans kk)) go gs gb gd hJ hn hL3 ok2 lt2
                have JT1 : Hid (∀ W0 W' p q es et, Kept Nought W W0 → Duo W0 W' p q es et → es.length ≤ 1000000000 → Calls Tryz.prog 12 #[.pointer (some ⟨p, 0, none⟩), .agg #[.slice ao N3 cap, .int .u64 (K : Nat), .slice bo M dap], .slice A2 N3 C2] W' fun e w' => ∃ x, e = .returned x ∧ Duo W0 w' p q (es ++ evT8 N3) et) := fun W0 W' p q es et kk hD hl => hD.table8 (by omega) ao bo A2 N3 M K cap dap C2 ms rs as1 (hu.grew (k0.trans kk)) (hv.grew (k0.trans kk)) (ha.grew (k0.trans kk)) gm gr ga hK hn ok1 lt1
                have JT2 : Hid (∀ W0 W' p q es et, Kept Nought W W0 → Duo W0 W' p q es et → es.length ≤ 1000000000 → Calls Tryz.prog 12 #[.pointer (some ⟨p, 0, none⟩), .agg #[.slice co N3 eap, .int .u64 (J : Nat), .slice fo Q fap], .slice A3 N3 C3] W' fun e w' => ∃ x, e = .returned x ∧ Duo W0 w' p q (es ++ evT8 N3) et) := fun W0 W' p q es et kk hD hl => hD.table8 (by omega) co fo A3 N3 Q J eap fap C3 os1 ss bs (hu'.grew (k0.trans kk)) (hv'.grew (k0.trans kk)) (hb.grew (k0.trans kk)) go gs gb hJ hn ok2 lt2
                clear hu hv hu' hv' ha hb hc hd gm gr go gs ga gb gc gd hk hk' hx0 hx1 hW k0 hK hJ hR hS hR1 hS1 h1 h2 ok1 ok2 lt1 lt2 hn hL3
                go_enter Tryz.func6, Tryz.ntmps6
                go_wp2_with (rw [← HW.out])
                refine hA.mono ?_
                rintro e w1 ⟨rfl, k1⟩
                obtain ⟨⟨p0, p1, p2⟩, p3, p4, p5⟩ := JC.out _ k1
                have hF := JF.out _ k1
                clear hA
                go_wp2_with fail
                refine hF.mono ?_
                rintro e w2 ⟨rfl, k2⟩
                obtain ⟨⟨q0, q1, q2⟩, q3, q4, q5⟩ := JC.out _ k2
                have hG := JG.out _ k2
                clear hF p0 p1 p2 p3 p4 p5
                go_wp2_with fail
                refine hG.mono ?_
                rintro e w3 ⟨rfl, k3⟩
                obtain ⟨⟨r0, r1, r2⟩, r3, r4, r5⟩ := JC.out _ k3
                have hN := JM.out _ k3 HL4.out.1
                clear hG q0 q1 q2 q3 q4 q5
                go_wp2_with fail
                refine hN.mono ?_
                rintro e w4 ⟨rfl, k4⟩
                obtain ⟨⟨s0, s1, s2⟩, s3, s4, s5⟩ := JC.out _ k4
                have hN2 := JN.out _ k4 HL4.out.2
                clear hN r0 r1 r2 r3 r4 r5
                go_wp2_with fail
                refine hN2.mono ?_
                rintro e w5 ⟨rfl, k5⟩
                have hT1 := tNew w5
                have hT2 := tNew (w5.alloc newTr)
                rw [show (w5.alloc newTr).heap.size = w5.heap.size + 1 by simp] at hT2
                have DU := toHid (Duo.new w5)
                have K5 := toHid k5
                clear hN2 s0 s1 s2 s3 s4 s5
                go_wp2_with fail
                refine hT1.mono ?_
                rintro e w6 ⟨rfl, rfl⟩
                go_wp2_with fail
                refine hT2.mono ?_
                rintro e w7 ⟨rfl, rfl⟩
                obtain ⟨⟨t0, t1, t2⟩, t3, t4, t5⟩ := JC.out _ (K5.out.trans DU.out.1)
                have hE1 := JX1.out w5 _ w5.heap.size (w5.heap.size + 1) [] [] K5.out DU.out (by simp)
                clear hT1 hT2
                go_wp2_with fail
                refine hE1.mono ?_
                rintro e w8 ⟨x8, rfl, D8⟩
                have D8 := toHid D8
                obtain ⟨⟨t0, t1, t2⟩, t3, t4, t5⟩ := JC.out _ (K5.out.trans D8.out.1)
                have hE2 := JT1.out w5 _ w5.heap.size (w5.heap.size + 1) _ [] K5.out D8.out (by simp; have := HX8.out; omega)
                clear hE1
                go_wp2_with fail
                refine hE2.mono ?_
                rintro e w9 ⟨x9, rfl, D9⟩
                have D9 := toHid D9
                obtain ⟨⟨t0, t1, t2⟩, t3, t4, t5⟩ := JC.out _ (K5.out.trans D9.out.1)
                have hE3 := JX2.out w5 _ (w5.heap.size + 1) w5.heap.size [] _ K5.out D9.out.swap (by simp)
                clear hE2
                go_wp2_with fail
                refine hE3.mono ?_
                rintro e w10 ⟨x10, rfl, D10⟩
                have D10 := toHid D10
                obtain ⟨⟨t0, t1, t2⟩, t3, t4, t5⟩ := JC.out _ (K5.out.trans D10.out.1)
                have hE4 := JT2.out w5 _ (w5.heap.size + 1) w5.heap.size _ _ K5.out D10.out (by simp; have := HX8.out; omega)
                clear hE3
                go_wp2_with fail
                refine hE4.mono ?_
                rintro e w11 ⟨x11, rfl, D11⟩
                have D11 := toHid D11.swap
                have hSa := Duo.same D11.out
                clear hE4 t0 t1 t2 t3 t4 t5
                go_wp2_with fail
                refine hSa.mono ?_
                rintro e w12 ⟨rfl, D12⟩
                have hMa := D12.many
                have D12 := toHid D12
                have HP : Hid (0 < ([] ++ evX8 N3 N4 ++ evT8 N3).length) := by
                  unfold Hid
                  rw [List.length_append]
                  have := HT8.out.2
                  omega
                generalize ([] ++ evX8 N3 N4 ++ evT8 N3).length = len at *
                have gl : (len : Int) > 0 := by have := HP.out; omega
                clear hSa
                go_wp2_with fail
                refine hMa.mono ?_
                rintro e w13 ⟨rfl, rfl⟩
                go_wp2_with fail
                go_ret
                exact ⟨by simp; exact HP.out, below_kept (HK0.out.trans (K5.out.trans D12.out.1)) (Nat.le_refl _)⟩
        · have g7 : ¬ (N4 : Int) = (N5 : Int) := by omega
          have g7b : ((N4 : Int) == (N5 : Int)) = false := by simp; omega
          clear hu hv hu' hv' ha hb hc hd gm gr go gs ga gb gc gd hk hk' hx0 hx1 hW k0 hK hJ hR hS hR1 hS1 h1 h2
          go_enter Tryz.func6, Tryz.ntmps6
          go_wp2_with (rw [← HW.out])
          refine hA.mono ?_
          rintro e w1 ⟨rfl, k1⟩
          obtain ⟨⟨p0, p1, p2⟩, p3, p4, p5⟩ := JC.out _ k1
          have hF := JF.out _ k1
          clear hA
          go_wp2_with fail
          refine hF.mono ?_
          rintro e w2 ⟨rfl, k2⟩
          obtain ⟨⟨q0, q1, q2⟩, q3, q4, q5⟩ := JC.out _ k2
          have hG := JG.out _ k2
          clear hF p0 p1 p2 p3 p4 p5
          go_wp2_with fail
          refine hG.mono ?_
          rintro e w3 ⟨rfl, k3⟩
          obtain ⟨⟨r0, r1, r2⟩, r3, r4, r5⟩ := JC.out _ k3
          go_wp2_with fail
          go_ret
          exact ⟨rfl, below_kept (HK0.out.trans k3) (Nat.le_refl _)⟩
      · have g7 : ¬ (L : Int) = (P : Int) := by omega
        have g7b : ((L : Int) == (P : Int)) = false := by simp; omega
        clear hu hv hu' hv' ha hb hc hd gm gr go gs ga gb gc gd hk hk' hx0 hx1 hW k0 hK hJ hR hS hR1 hS1 h1 h2
        go_enter Tryz.func6, Tryz.ntmps6
        go_wp2_with (rw [← HW.out])
        refine hA.mono ?_
        rintro e w1 ⟨rfl, k1⟩
        obtain ⟨⟨p0, p1, p2⟩, p3, p4, p5⟩ := JC.out _ k1
        have hF := JF.out _ k1
        clear hA
        go_wp2_with fail
        refine hF.mono ?_
        rintro e w2 ⟨rfl, k2⟩
        obtain ⟨⟨q0, q1, q2⟩, q3, q4, q5⟩ := JC.out _ k2
        have hG := JG.out _ k2
        clear hF p0 p1 p2 p3 p4 p5
        go_wp2_with fail
        refine hG.mono ?_
        rintro e w3 ⟨rfl, k3⟩
        obtain ⟨⟨r0, r1, r2⟩, r3, r4, r5⟩ := JC.out _ k3
        go_wp2_with fail
        go_ret
        exact ⟨rfl, below_kept (HK0.out.trans k3) (Nat.le_refl _)⟩

end Go.Proofs.YtoieghgaahfciaaGreat
