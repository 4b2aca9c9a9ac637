/- The law MontSetup, walked: whatever the number. -/
import Derived.Test.YtpgccioblgcjaaaL6B
import Derived.Test.YtpgccioblgcjaaaOpenRow
namespace Go.Proofs.Ytpgccioblgcjaaa
open Go.RowKit

set_option maxRecDepth 20000 in
set_option maxHeartbeats 2000000 in
theorem walkMontSetup (u : Value) (xs : List Nat) (w : World) (hu : Row .u64 w u xs) (hdx : Digs 18446744073709551616 xs) :
    Calls Try.prog 3 #[u] w fun e w' => e = .returned (.bool true) ∧ Below w.heap.size w w' := by
  have hA := f6Awake w
  obtain ⟨ao, L, cap, rfl, hL, _, _, _, _⟩ := hu.open
  obtain ⟨V, hV⟩ : ∃ V, V = val 18446744073709551616 xs := ⟨_, rfl⟩
  obtain ⟨E, hE⟩ : ∃ E, E = montE V := ⟨_, rfl⟩
  have HGo : Hid (L ≤ 1000000 → ∀ w2, Kept Nought w w2 → Calls Try.prog 11 #[.slice ao L cap] w2 fun e w' => ∃ a K b, e = .returned (.tuple #[.agg (modCells a K b), .int .i64 (E : Nat)]) ∧ Row .u64 w' a (modM V) ∧ Row .u64 w' b (modR V) ∧ isKf V K ∧ Kept Nought w2 w') := fun hl w2 k => mSetup ao L cap xs V E hV hE w2 (hu.grew k) hdx hl
  have HRe : Hid (L ≤ 1000000 → ∀ w2, Kept Nought w w2 → Calls Try.prog 12 #[.slice ao L cap] w2 fun e w' => ∃ a K b, e = .returned (.tuple #[.agg (modCells a K b), .int .i64 (E : Nat)]) ∧ Row .u64 w' a (modM V) ∧ Row .u64 w' b (modR V) ∧ isKf V K ∧ Kept Nought w2 w') := fun hl w2 k => q6Setup ao L cap xs V E hV hE w2 (hu.grew k) hdx hl
  clear hu hdx hL hV hE
  unfold modCells at HGo HRe
  by_cases h4 : L ≤ 40
  · have hF := fun W => few1 ao L cap W true (decide_eq_true h4).symm
    have hG := HGo.out (by omega)
    have hR := HRe.out (by omega)
    clear HGo HRe
    go_enter Try.func3, Try.ntmps3
    go_wp2_with fail
    refine hA.mono ?_
    rintro e w1 ⟨rfl, k1⟩
    go_wp2_with fail
    refine (hF w1).mono ?_
    rintro e w1' ⟨rfl, rfl⟩
    have k2 := k1.alloc (.cells #[.slice ao L cap] 23)
    generalize w1.alloc (.cells #[.slice ao L cap] 23) = w2 at *
    have HG := hG w2 k2
    clear hA hF k1 hG
    go_wp2_with fail
    refine HG.mono ?_
    rintro e w3 ⟨a, K, b, rfl, ha, hb, hK, k3⟩
    obtain ⟨a1, n1, c1, rfl, _, _, _, _, _⟩ := ha.open
    obtain ⟨b1, m1, d1, rfl, _, _, _, _, _⟩ := hb.open
    have k4 := (k2.trans k3).alloc (.cells #[.slice a1 n1 c1, .int .u64 (K : Nat), .slice b1 m1 d1] 28)
    have HR := hR _ k4
    have hx4 : (w3.alloc (.cells #[.slice a1 n1 c1, .int .u64 (K : Nat), .slice b1 m1 d1] 28)).heap[w3.heap.size]? = some (.cells #[.slice a1 n1 c1, .int .u64 (K : Nat), .slice b1 m1 d1] 28 (0, 0)) := heap_alloc_new _ _
    have HA := toHid (ha.grew ((Kept.refl Nought w3).alloc (.cells #[.slice a1 n1 c1, .int .u64 (K : Nat), .slice b1 m1 d1] 28)))
    have HB := toHid (hb.grew ((Kept.refl Nought w3).alloc (.cells #[.slice a1 n1 c1, .int .u64 (K : Nat), .slice b1 m1 d1] 28)))
    have HX := toHid hx4
    have HK4 := toHid k4
    have HKf := toHid hK
    clear HG hR ha hb hK k3 k2 hx4 k4
    go_wp2_with fail
    refine HR.mono ?_
    rintro e w5 ⟨a', K', b', rfl, ha', hb', hK', k5⟩
    obtain rfl := isKf_uniq HKf.out hK'
    obtain ⟨a2, n2, c2, rfl, _, _, _, _, _⟩ := ha'.open
    obtain ⟨b2, m2, d2, rfl, _, _, _, _, _⟩ := hb'.open
    have kb := (Kept.refl Nought w5).alloc (.cells #[.slice a2 n2 c2, .int .u64 (K : Nat), .slice b2 m2 d2] 28)
    have hx6 := ((k5.trans kb).block _ (lt_of_block HX.out) (fun f => f)).trans HX.out
    obtain ⟨p0, p1, p2⟩ := cells3 hx6
    have hSm := f6Same a1 b1 a2 b2 n1 m1 n2 m2 c1 d1 c2 d2 K K (modM V) (modR V) (modM V) (modR V) _ true (decide_eq_true ⟨rfl, rfl, rfl⟩).symm (HA.out.grew (k5.trans kb)) (HB.out.grew (k5.trans kb)) (ha'.grew kb) (hb'.grew kb)
    have KF := toHid (HK4.out.trans (k5.trans kb))
    clear HR ha' hb' hK' k5 kb hx6
    go_wp2_with fail
    refine hSm.mono ?_
    rintro e w7 ⟨rfl, k7⟩
    clear hSm
    go_wp2_with fail
    go_ret
    exact ⟨rfl, below_kept (KF.out.trans k7) (Nat.le_refl _)⟩
  · have hF := fun W => few1 ao L cap W false (decide_eq_false h4).symm
    by_cases h5 : L = 131
    · subst h5
      have hG := HGo.out (by omega)
      have hR := HRe.out (by omega)
      clear HGo HRe h4
      go_enter Try.func3, Try.ntmps3
      go_wp2_with fail
      refine hA.mono ?_
      rintro e w1 ⟨rfl, k1⟩
      go_wp2_with fail
      refine (hF w1).mono ?_
      rintro e w1' ⟨rfl, rfl⟩
      have k2 := k1.alloc (.cells #[.slice ao 131 cap] 23)
      generalize w1.alloc (.cells #[.slice ao 131 cap] 23) = w2 at *
      have HG := hG w2 k2
      clear hA hF k1 hG
      go_wp2_with fail
      refine HG.mono ?_
      rintro e w3 ⟨a, K, b, rfl, ha, hb, hK, k3⟩
      obtain ⟨a1, n1, c1, rfl, _, _, _, _, _⟩ := ha.open
      obtain ⟨b1, m1, d1, rfl, _, _, _, _, _⟩ := hb.open
      have k4 := (k2.trans k3).alloc (.cells #[.slice a1 n1 c1, .int .u64 (K : Nat), .slice b1 m1 d1] 28)
      have HR := hR _ k4
      have hx4 : (w3.alloc (.cells #[.slice a1 n1 c1, .int .u64 (K : Nat), .slice b1 m1 d1] 28)).heap[w3.heap.size]? = some (.cells #[.slice a1 n1 c1, .int .u64 (K : Nat), .slice b1 m1 d1] 28 (0, 0)) := heap_alloc_new _ _
      have HA := toHid (ha.grew ((Kept.refl Nought w3).alloc (.cells #[.slice a1 n1 c1, .int .u64 (K : Nat), .slice b1 m1 d1] 28)))
      have HB := toHid (hb.grew ((Kept.refl Nought w3).alloc (.cells #[.slice a1 n1 c1, .int .u64 (K : Nat), .slice b1 m1 d1] 28)))
      have HX := toHid hx4
      have HK4 := toHid k4
      have HKf := toHid hK
      clear HG hR ha hb hK k3 k2 hx4 k4
      go_wp2_with fail
      refine HR.mono ?_
      rintro e w5 ⟨a', K', b', rfl, ha', hb', hK', k5⟩
      obtain rfl := isKf_uniq HKf.out hK'
      obtain ⟨a2, n2, c2, rfl, _, _, _, _, _⟩ := ha'.open
      obtain ⟨b2, m2, d2, rfl, _, _, _, _, _⟩ := hb'.open
      have kb := (Kept.refl Nought w5).alloc (.cells #[.slice a2 n2 c2, .int .u64 (K : Nat), .slice b2 m2 d2] 28)
      have hx6 := ((k5.trans kb).block _ (lt_of_block HX.out) (fun f => f)).trans HX.out
      obtain ⟨p0, p1, p2⟩ := cells3 hx6
      have hSm := f6Same a1 b1 a2 b2 n1 m1 n2 m2 c1 d1 c2 d2 K K (modM V) (modR V) (modM V) (modR V) _ true (decide_eq_true ⟨rfl, rfl, rfl⟩).symm (HA.out.grew (k5.trans kb)) (HB.out.grew (k5.trans kb)) (ha'.grew kb) (hb'.grew kb)
      have KF := toHid (HK4.out.trans (k5.trans kb))
      clear HR ha' hb' hK' k5 kb hx6
      go_wp2_with fail
      refine hSm.mono ?_
      rintro e w7 ⟨rfl, k7⟩
      clear hSm
      go_wp2_with fail
      go_ret
      exact ⟨rfl, below_kept (KF.out.trans k7) (Nat.le_refl _)⟩
    · have g5 : ¬ (L : Int) = 131 := by omega
      clear HGo HRe h4
      go_enter Try.func3, Try.ntmps3
      go_wp2_with fail
      refine hA.mono ?_
      rintro e w1 ⟨rfl, k1⟩
      go_wp2_with fail
      refine (hF w1).mono ?_
      rintro e w1' ⟨rfl, rfl⟩
      go_wp2_with fail
      go_ret
      exact ⟨rfl, below_kept (k1.alloc _) (Nat.le_refl _)⟩

end Go.Proofs.Ytpgccioblgcjaaa
