/- Layer 10 with no trace: Of as the laws call it; the laws' first test. -/
import Derived.Test.YtamkkmifbajdfaaIva4
import Derived.Test.YtamkkmifbajdfaaLaw6
namespace Go.Proofs.Ytamkkmifbajdfaa
open Go.RowKit

/-- What Of answers, with the error E, the inverse T, the flag F. -/
def Of10 (P : Prop) (n A M E T F : Nat) (RL : List Nat) : Prop := ((E = 0 ∧ P) ∨ (E = 1 ∧ ¬ P)) ∧ (E = 0 → IsInv A M T F) ∧ (E = 1 → F = 0) ∧ RL = if E = 0 then digs 18446744073709551616 T n else []

theorem ofans_none {w w' : World} {P : Prop} {n A M is c : Nat} {v' : Value} (h : OfAns w none P n A M w' v' is c) : ∃ T RL, Row .u64 w' v' RL ∧ Kept Nought w w' ∧ Of10 P n A M c T is RL := by
  obtain ⟨zs, m, o', h1, _, d, hp, hn⟩ := h
  have k := d.none.2
  by_cases hP : P
  · obtain ⟨rfl, _, Y, rfl, hY⟩ := hp hP
    exact ⟨Y, _, h1, k, .inl ⟨rfl, hP⟩, fun _ => hY, fun h => absurd h (by decide), rfl⟩
  · obtain ⟨rfl, rfl, rfl⟩ := hn hP
    exact ⟨0, [], h1, k, .inr ⟨rfl, hP⟩, fun h => absurd h (by decide), fun _ => rfl, rfl⟩

/-- Of with no trace. -/
theorem of10 (ao bo xo : Option Addr) (n l K mcap rcap N1 xc : Nat) (ms rs xs : List Nat) (w : World) (hm : Row .u64 w (.slice ao n mcap) ms) (hr : Row .u64 w (.slice bo l rcap) rs) (hx : Row .u64 w (.slice xo N1 xc) xs) (hmd : Digs 18446744073709551616 ms) (hrd : Digs 18446744073709551616 rs) (hdx : Digs 18446744073709551616 xs) (hK : K < 18446744073709551616) (hnb : n ≤ 1000000) :
    Calls Try.prog 11 #[.pointer none, .agg #[.slice ao n mcap, .int .u64 (K : Nat), .slice bo l rcap], .slice xo N1 xc] w fun e w' => ∃ (v' : Value) (F E : Nat), e = .returned (.tuple #[v', .int .u64 (F : Nat), .int .i64 (E : Nat)]) ∧ ∃ T RL, Row .u64 w' v' RL ∧ Kept Nought w w' ∧ Hid (Of10 (okMod ms K rs ∧ (N1 = n ∧ val 18446744073709551616 xs < val 18446744073709551616 ms)) n (val 18446744073709551616 xs) (val 18446744073709551616 ms) E T F RL) := by
  refine (iOf none ao bo xo n l K mcap rcap N1 xc ms rs xs w (TrRoom.none _ _ (by omega)) (RowT.none hm) (RowT.none hr) (RowT.none hx) hmd hrd hdx hK hnb (.inr rfl)).mono ?_
  rintro e w' ⟨v', is, c, rfl, h⟩
  obtain ⟨T, RL, h1, h2, h3⟩ := ofans_none h
  exact ⟨v', is, c, rfl, T, RL, h1, h2, h3⟩

theorem IsInv.uniq {A M Y is T F : Nat} (hM : 2 ≤ M) (h : IsInv A M Y is) (k : IsInv A M T F) : Y = T ∧ is = F := by
  by_cases hg : Nat.gcd A M = 1
  · obtain ⟨a1, a2, a3⟩ := h.1 hg
    obtain ⟨b1, b2, b3⟩ := k.1 hg
    have := red_uniq (P := A) (T := T) (Y := Y) (z := 1) b2 a1 (by rw [a2, Nat.mod_eq_of_lt (by omega)])
    rw [Nat.mul_one, Nat.mod_eq_of_lt b1] at this
    exact ⟨this, by omega⟩
  · obtain ⟨a1, a2⟩ := h.2 hg
    obtain ⟨b1, b2⟩ := k.2 hg
    omega

theorem row1v (W : World) (z : Nat) : Row .u64 (W.alloc (.cells #[.int .u64 (z : Nat)] 27)) (.slice (some ⟨W.heap.size, 0, none⟩) 1 1) [z] :=
  Row.of_block (k := .u64) (w := W.alloc (.cells #[.int .u64 (z : Nat)] 27)) (g := W.heap.size) (zs := [z]) (t := 27) (heap_alloc_new _ _) rfl (by unfold maxLen; omega)

theorem ex10 : montE 15 = 0 ∧ modM 15 = [15] ∧ modR 15 = [1] := by decide

theorem ex10v : val 18446744073709551616 [2] = 2 ∧ val 18446744073709551616 [5] = 5 ∧ val 18446744073709551616 [15] = 15 := by decide

theorem ex10g : Nat.gcd 2 15 = 1 ∧ Nat.gcd 5 15 ≠ 1 := by decide

theorem ex10a {P : Prop} {E T F : Nat} {RL : List Nat} (hP : P) (h : Of10 P 1 2 15 E T F RL) : E = 0 ∧ F = 1 ∧ RL = [8] := by
  obtain ⟨h1, h2, _, h4⟩ := h
  rcases h1 with ⟨rfl, _⟩ | ⟨_, hn⟩
  · obtain ⟨a1, a2, a3⟩ := (h2 rfl).1 ex10g.1
    have : T = 8 := by omega
    subst this
    rw [if_pos rfl] at h4
    exact ⟨rfl, a3, h4⟩
  · exact absurd hP hn

theorem ex10b {P : Prop} {E T F : Nat} {RL : List Nat} (hP : P) (h : Of10 P 1 5 15 E T F RL) : E = 0 ∧ F = 0 := by
  obtain ⟨h1, h2, _, h4⟩ := h
  rcases h1 with ⟨rfl, _⟩ | ⟨_, hn⟩
  · exact ⟨rfl, ((h2 rfl).2 ex10g.2).2⟩
  · exact absurd hP hn

set_option maxRecDepth 20000 in
set_option maxHeartbeats 2000000 in
/-- awake. -/
theorem f10Awake (w : World) : Calls Try.prog 7 #[] w fun r w' => r = .returned (.bool true) ∧ Kept Nought w w' := by
  have hS := q6Setup _ 1 1 [15] 15 0 rfl ex10.1.symm _ (row1v w 15) (Digs.one (by omega)) (by omega)
  rw [ex10.2.1, ex10.2.2] at hS
  have k0 := (Kept.refl Nought w).alloc (.cells #[.int .u64 15] 27)
  have HK0 := toHid k0
  go_enter Try.func7, Try.ntmps7
  go_wp2_with fail
  refine hS.mono ?_
  rintro e w1 ⟨a, K, b, rfl, ha, hb, hK, k1⟩
  have hok := (setup_ok ex10.1 hK).1
  rw [ex10.2.1, ex10.2.2] at hok
  have hKb : K < 18446744073709551616 := hK.1
  obtain ⟨ao, n, cap, rfl, hL, _, _, _, _⟩ := ha.open
  obtain ⟨bo, m, dap, rfl, hM, _, _, _, _⟩ := hb.open
  obtain rfl : n = 1 := hL.out.symm
  obtain rfl : m = 1 := hM.out.symm
  have K1 := toHid (HK0.out.trans k1)
  have HA := toHid ha
  have HB := toHid hb
  have HO := toHid hok
  have dm : Digs 18446744073709551616 [15] := Digs.one (by omega)
  have dr : Digs 18446744073709551616 [1] := Digs.one (by omega)
  have d2 : Digs 18446744073709551616 [2] := Digs.one (by omega)
  have d5 : Digs 18446744073709551616 [5] := Digs.one (by omega)
  have JA : Hid (∀ W, Kept Nought w1 W → Calls Try.prog 11 #[.pointer none, .agg #[.slice ao 1 cap, .int .u64 (K : Nat), .slice bo 1 dap], .slice (some ⟨W.heap.size, 0, none⟩) 1 1] (W.alloc (.cells #[.int .u64 2] 27)) fun e w' => ∃ v', e = .returned (.tuple #[v', .int .u64 1, .int .i64 0]) ∧ Row .u64 w' v' [8] ∧ Kept Nought W w') := fun W k => by
    have k2 := (Kept.refl Nought W).alloc (.cells #[.int .u64 2] 27)
    refine (of10 ao bo _ 1 1 K cap dap 1 1 [15] [1] [2] _ (HA.out.grew (k.trans k2)) (HB.out.grew (k.trans k2)) (row1v W 2) dm dr d2 hKb (by omega)).mono ?_
    rintro e w' ⟨v', F, E, rfl, T, RL, h1, h2, h3⟩
    have h4 := h3.out
    rw [ex10v.1, ex10v.2.2] at h4
    obtain ⟨rfl, rfl, rfl⟩ := ex10a ⟨HO.out, rfl, by decide⟩ h4
    exact ⟨v', rfl, h1, k2.trans h2⟩
  have JB : Hid (∀ W, Kept Nought w1 W → Calls Try.prog 11 #[.pointer none, .agg #[.slice ao 1 cap, .int .u64 (K : Nat), .slice bo 1 dap], .slice (some ⟨W.heap.size, 0, none⟩) 1 1] (W.alloc (.cells #[.int .u64 5] 27)) fun e w' => ∃ v', e = .returned (.tuple #[v', .int .u64 0, .int .i64 0]) ∧ Kept Nought W w') := fun W k => by
    have k2 := (Kept.refl Nought W).alloc (.cells #[.int .u64 5] 27)
    refine (of10 ao bo _ 1 1 K cap dap 1 1 [15] [1] [5] _ (HA.out.grew (k.trans k2)) (HB.out.grew (k.trans k2)) (row1v W 5) dm dr d5 hKb (by omega)).mono ?_
    rintro e w' ⟨v', F, E, rfl, T, RL, h1, h2, h3⟩
    have h4 := h3.out
    rw [ex10v.2.1, ex10v.2.2] at h4
    obtain ⟨rfl, rfl⟩ := ex10b ⟨HO.out, rfl, by decide⟩ h4
    exact ⟨v', rfl, k2.trans h2⟩
  obtain ⟨W1, hW1⟩ : ∃ W1, W1 = w1.alloc (.cells #[.slice ao 1 cap, .int .u64 (K : Nat), .slice bo 1 dap] 29) := ⟨_, rfl⟩
  have kW : Kept Nought w1 W1 := by rw [hW1]; exact (Kept.refl Nought w1).alloc _
  have hx0 : W1.heap[w1.heap.size]? = some (.cells #[.slice ao 1 cap, .int .u64 (K : Nat), .slice bo 1 dap] 29 (0, 0)) := by rw [hW1]; exact heap_alloc_new _ _
  obtain ⟨p0, p1, p2⟩ := cells3 hx0
  have JC : Hid (∀ W', Kept Nought W1 W' → W'.cell? ⟨w1.heap.size, 0, none⟩ = some (.slice ao 1 cap) ∧ W'.cell? ⟨w1.heap.size, 1, none⟩ = some (.int .u64 (K : Nat)) ∧ W'.cell? ⟨w1.heap.size, 2, none⟩ = some (.slice bo 1 dap)) := fun W' k => cells3 ((k.block _ (lt_of_block hx0) (fun f => f)).trans hx0)
  have HW1 := toHid hW1
  have KW := toHid kW
  have hA := JA.out _ KW.out
  unfold modCells
  clear hS ha hb hK hok hL hM k0 k1 HA HB HO dm dr d2 d5 hKb hx0 hW1 kW
  go_wp2_with (rw [← HW1.out])
  refine hA.mono ?_
  rintro e w2 ⟨v2, rfl, hr2, k2⟩
  have HR2 := toHid hr2
  have K2 := toHid k2
  have hB := JB.out _ (KW.out.trans k2)
  obtain ⟨q0, q1, q2⟩ := JC.out _ k2
  clear hA hr2 k2 p0 p1 p2
  go_wp2_with fail
  refine hB.mono ?_
  rintro e w3 ⟨v3, rfl, k3⟩
  obtain ⟨ao2, n2, cap2, rfl, hL2, _, _, _, hnum2⟩ := (HR2.out.grew k3).open
  obtain rfl : n2 = 1 := hL2.out.symm
  obtain ⟨b2, off2, rfl, hc2⟩ := hnum2 0 (by omega)
  have K3 := toHid (K1.out.trans (KW.out.trans (K2.out.trans k3)))
  have hc2' : w3.cell? ⟨b2, off2, none⟩ = some (.int .u64 8) := hc2
  clear hB hnum2 hL2 k3 q0 q1 q2 hc2
  go_wp2_with fail
  go_ret
  exact ⟨rfl, K3.out⟩

end Go.Proofs.Ytamkkmifbajdfaa
