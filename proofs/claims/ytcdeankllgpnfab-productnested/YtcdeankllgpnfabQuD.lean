/- Package product: isAbove, guess. -/
import Derived.Test.YtcdeankllgpnfabQuC
namespace Go.Proofs.Ytcdeankllgpnfab
open Go.RowKit

theorem above_iff {p u l h lo : Nat} (hlo : lo < 18446744073709551616) (hl : l < 18446744073709551616) (e : lo + 18446744073709551616 * h = p) : (u * 18446744073709551616 + l < p) ↔ (u < h ∨ (h = u ∧ l < lo)) := by
  constructor <;> intro hh <;> omega

set_option maxHeartbeats 800000 in
/-- isAbove. -/
theorem pAbove (a b u l : Nat) (ha : a < 18446744073709551616) (hb : b < 18446744073709551616) (hl : l < 18446744073709551616) (R : Bool) (hR : R = decide (u * 18446744073709551616 + l < a * b)) (w : World) :
    Calls Try.prog 60 #[.int .u64 (a : Nat), .int .u64 (b : Nat), .int .u64 (u : Nat), .int .u64 (l : Nat)] w fun e w' => e = .returned (.bool R) ∧ w' = w := by
  have hM := wMulN a b 0 0 ha hb (by omega) (by omega)
  have HR := toHid hR
  clear hR
  go_enter Try.func60, Try.ntmps60
  go_wp2_with fail
  refine (hM _).mono ?_
  rintro e w1 ⟨h, lo, rfl, hh, hlo, hzz, rfl⟩
  have hi := above_iff (u := u) (p := a * b) hlo hl (by omega)
  clear hzz hM
  by_cases c1 : u < h
  · have g1 : (u : Int) < (h : Int) := by omega
    have hT : Hid (R = true) := by unfold Hid; rw [HR.out]; exact decide_eq_true (hi.2 (.inl c1))
    clear hi
    go_wp2_with fail
    go_ret
    rw [hT.out]
    exact ⟨rfl, rfl⟩
  · have g1 : ¬ (u : Int) < (h : Int) := by omega
    by_cases c2 : h = u
    · subst c2
      have g2 : ((h : Int) == (h : Int)) = true := by simp
      have hT : Hid (R = decide (l < lo)) := by unfold Hid; rw [HR.out]; exact decide_eq_decide.2 (hi.trans ⟨fun x => by omega, fun x => .inr ⟨rfl, x⟩⟩)
      clear hi
      by_cases c3 : l < lo
      · have g3 : (l : Int) < (lo : Int) := by omega
        rw [decide_eq_true c3] at hT
        go_wp2_with fail
        go_ret
        rw [hT.out]
        exact ⟨rfl, rfl⟩
      · have g3 : ¬ (l : Int) < (lo : Int) := by omega
        rw [decide_eq_false c3] at hT
        go_wp2_with fail
        go_ret
        rw [hT.out]
        exact ⟨rfl, rfl⟩
    · have g2 : ((h : Int) == (u : Int)) = false := by simp; omega
      have hT : Hid (R = false) := by unfold Hid; rw [HR.out]; exact decide_eq_false (fun x => by have := hi.1 x; omega)
      clear hi
      go_wp2_with fail
      go_ret
      rw [hT.out]
      exact ⟨rfl, rfl⟩

set_option maxRecDepth 20000 in
set_option maxHeartbeats 2000000 in
/-- guess. -/
theorem pGuess (u2 u1 u0 v1 v0 : Nat) (h1 : u1 < 18446744073709551616) (h0 : u0 < 18446744073709551616) (hv1 : v1 < 18446744073709551616) (hv0 : v0 < 18446744073709551616) (hn : 9223372036854775808 ≤ v1) (w : World) :
    Calls Try.prog 55 #[.int .u64 (u2 : Nat), .int .u64 (u1 : Nat), .int .u64 (u0 : Nat), .int .u64 (v1 : Nat), .int .u64 (v0 : Nat)] w fun e w' => ∃ q : Nat, e = .returned (.int .u64 (q : Nat)) ∧ q < 18446744073709551616 ∧ ((v1 ≤ u2 ∧ q = 18446744073709551615) ∨ (u2 < v1 ∧ q = (((u2 * 18446744073709551616 + u1) * 18446744073709551616 + u0) / (v1 * 18446744073709551616 + v0)))) ∧ ∃ m, w' = w.drewN m := by
  by_cases hc : v1 ≤ u2
  · have g : (v1 : Int) ≤ (u2 : Int) := by omega
    go_enter Try.func55, Try.ntmps55
    go_wp2_with fail
    go_ret
    exact ⟨18446744073709551615, rfl, by omega, .inl ⟨hc, rfl⟩, 0, rfl⟩
  · have g : ¬ (v1 : Int) ≤ (u2 : Int) := by omega
    have hDv := bDiv u2 u1 v1 h1 hv1 (by omega) w
    have hU : u2 * 18446744073709551616 + u1 < v1 * 18446744073709551616 + v0 := by
      have : (u2 + 1) * 18446744073709551616 ≤ v1 * 18446744073709551616 := Nat.mul_le_mul_right _ (by omega)
      omega
    have hG := Gss.start (B := 18446744073709551616) (U := u2 * 18446744073709551616 + u1) (u := u0) (y1 := v1) (y0 := v0) (by omega) h0 (by omega) hv0 hU
    have hqb : (u2 * 18446744073709551616 + u1) / v1 < 18446744073709551616 := quot_lt h1 (by omega)
    have hrb : (u2 * 18446744073709551616 + u1) % v1 < v1 := Nat.mod_lt _ (by omega)
    obtain ⟨q0, hq0⟩ : ∃ q0, q0 = (u2 * 18446744073709551616 + u1) / v1 := ⟨_, rfl⟩
    obtain ⟨r0, hr0⟩ : ∃ r0, r0 = (u2 * 18446744073709551616 + u1) % v1 := ⟨_, rfl⟩
    rw [← hq0, ← hr0] at hDv hG
    rw [← hq0] at hqb
    rw [← hr0] at hrb
    clear hq0 hr0
    have HG := toHid hG
    have HU := toHid hU
    have hc' : Hid (u2 < v1) := by unfold Hid; omega
    clear hG hU
    go_enter Try.func55, Try.ntmps55
    go_wp2_with fail
    refine hDv.mono ?_
    rintro e w1 ⟨rfl, m, rfl⟩
    clear hDv
    go_wp2_with fail
    go_loop [11, 12, 13] (fun qv rv cv => ∃ q r c : Nat, q < 18446744073709551616 ∧ r < 18446744073709551616 ∧ c ≤ 1 ∧ qv = .int .u64 (q : Int) ∧ rv = .int .u64 (r : Int) ∧ cv = .int .u64 (c : Int) ∧ Hid (Gss 18446744073709551616 (u2 * 18446744073709551616 + u1) u0 v1 v0 q (r + 18446744073709551616 * c))) (fun qv _ _ => (intOf qv).toNat)
    case atStart => exact ⟨q0, r0, 0, hqb, by omega, by omega, rfl, rfl, rfl, by rw [Nat.mul_zero, Nat.add_zero]; exact HG⟩
    case round =>
      clear HG
      obtain ⟨q, r, c, hq, hr, hcb, rfl, rfl, rfl, HG⟩ := hrel
      by_cases c0 : c = 0
      · subst c0
        have HG2 := HG.out
        rw [Nat.mul_zero, Nat.add_zero] at HG2
        have hAb := pAbove q v0 r u0 hq hv0 h0
        by_cases ct : r * 18446744073709551616 + u0 < q * v0
        · have hA := fun W => hAb true (decide_eq_true ct).symm W
          obtain ⟨hq0, hG3⟩ := HG2.next h0 HU.out (.inr (by rw [Nat.mul_comm]; exact ct))
          obtain ⟨q', hq'⟩ : ∃ q', q = q' + 1 := ⟨q - 1, by omega⟩
          rw [show q - 1 = q' by omega] at hG3
          have k8 : IntKind.u64.wrap ((q : Int) - 1) = (q' : Int) := by rw [IntKind.wrap_u64]; omega
          have HQ := toHid hq'
          have HG3 := toHid hG3
          clear hAb HG HG2 hG3 hq0 ct hq'
          go_wp2_with fail
          refine (hA _).mono ?_
          rintro e w2 ⟨rfl, rfl⟩
          clear hA
          go_wp2_with fail
          refine (wAddN r v1 0 hr hv1 (by omega) _).mono ?_
          rintro e w3 ⟨z, c', rfl, hz, hc1, hzz, rfl⟩
          go_wp2_with fail
          go_round
          case rel => exact ⟨q', z, c', by have := HQ.out; omega, hz, hc1, rfl, rfl, rfl, by rw [hzz, Nat.add_zero]; exact HG3⟩
          case measure => have := HQ.out; simp [intOf]; omega
        · have hA := fun W => hAb false (decide_eq_false ct).symm W
          have hq2 := toHid (HG2.stop (by omega) (by rw [Nat.mul_comm 18446744073709551616 r]; omega))
          clear hAb HG HG2 ct
          go_wp2_with fail
          refine (hA _).mono ?_
          rintro e w2 ⟨rfl, rfl⟩
          clear hA
          go_wp2_with fail
          go_ret
          exact ⟨q, rfl, hq, (by first | exact .inr ⟨hc'.out, hq2.out⟩ | exact ⟨hc'.out, hq2.out⟩), m, rfl⟩
      · have c1 : c = 1 := by omega
        subst c1
        have hq2 := toHid (HG.out.stop (by omega) (Gss.over (by omega) hv0 (by omega)))
        clear HG
        go_wp2_with fail
        go_ret
        exact ⟨q, rfl, hq, (by first | exact .inr ⟨hc'.out, hq2.out⟩ | exact ⟨hc'.out, hq2.out⟩), m, rfl⟩

end Go.Proofs.Ytcdeankllgpnfab
