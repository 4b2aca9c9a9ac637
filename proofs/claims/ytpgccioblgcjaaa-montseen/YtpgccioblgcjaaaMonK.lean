/- Package mont: prepared. -/
import Derived.Test.YtpgccioblgcjaaaMonJ
import Derived.Test.YtpgccioblgcjaaaWInv
import Derived.Test.YtpgccioblgcjaaaRef6m
namespace Go.Proofs.Ytpgccioblgcjaaa
open Go.RowKit

theorem frees3 {W : World} {p : Nat} {a b c : Value} {t : TypeId} (h : W.heap[p]? = some (.cells #[a, b, c] t (0, 0))) : W.frozen? ⟨p, 0, none⟩ = false ∧ W.frozen? ⟨p, 1, none⟩ = false ∧ W.frozen? ⟨p, 2, none⟩ = false := by
  simp [World.frozen?, h]

theorem set3 {W : World} {p : Nat} {a b c : Value} {t : TypeId} (h : W.heap[p]? = some (.cells #[a, b, c] t (0, 0))) (x y z : Value) :
    (W.setCell ⟨p, 0, none⟩ x).heap[p]? = some (.cells #[x, b, c] t (0, 0)) ∧ (W.setCell ⟨p, 1, none⟩ y).heap[p]? = some (.cells #[a, y, c] t (0, 0)) ∧ (W.setCell ⟨p, 2, none⟩ z).heap[p]? = some (.cells #[a, b, z] t (0, 0)) := by
  refine ⟨?_, ?_, ?_⟩
  · have := heap_setCell_same W p 0 #[a, b, c] t x h
    simpa using this
  · have := heap_setCell_same W p 1 #[a, b, c] t y h
    simpa using this
  · have := heap_setCell_same W p 2 #[a, b, c] t z h
    simpa using this

theorem put3 {W : World} {p : Nat} {a b c : Value} {t : TypeId} (h : W.heap[p]? = some (.cells #[a, b, c] t (0, 0))) (x y z : Value) :
    (((W.setCell ⟨p, 0, none⟩ x).setCell ⟨p, 1, none⟩ y).setCell ⟨p, 2, none⟩ z).heap[p]? = some (.cells #[x, y, z] t (0, 0)) :=
  (set3 (set3 (set3 h x y z).1 x y z).2.1 x y z).2.2

theorem kept3 (W : World) (p : Nat) (x y z : Value) : Kept (fun b => b = p) W (((W.setCell ⟨p, 0, none⟩ x).setCell ⟨p, 1, none⟩ y).setCell ⟨p, 2, none⟩ z) :=
  (((Kept.refl (fun b => b = p) W).setCell ⟨p, 0, none⟩ (fun _ => rfl) x).setCell ⟨p, 1, none⟩ (fun _ => rfl) y).setCell ⟨p, 2, none⟩ (fun _ => rfl) z

/-- K, out of the inverse of minus the lowest word. -/
theorem prep_K {V m0 : Nat} {x : Int} (hm0 : V % 18446744073709551616 = m0) (hodd : V % 2 = 1) (h : isInv (18446744073709551616 - (m0 : Int)) x) : ∃ K : Nat, x = (K : Int) ∧ K < 18446744073709551616 ∧ (V * K + 1) % 18446744073709551616 = 0 := by
  obtain ⟨x0, x1, x2, _⟩ := h
  obtain ⟨K, rfl⟩ := Int.eq_ofNat_of_zero_le x0
  refine ⟨K, rfl, by omega, ?_⟩
  have ho : (18446744073709551616 - (m0 : Int)) % 2 = 1 := by omega
  obtain ⟨t, ht⟩ := x2 ho
  have hV : V = 18446744073709551616 * (V / 18446744073709551616) + m0 := by rw [← hm0]; exact (Nat.div_add_mod _ _).symm
  have e1 : ((V * K + 1 : Nat) : Int) = 18446744073709551616 * (((V / 18446744073709551616 : Nat) : Int) * (K : Int) + t + (K : Int)) := by
    generalize V / 18446744073709551616 = q at *
    subst hV
    have : (((18446744073709551616 * q + m0) * K + 1 : Nat) : Int) = (18446744073709551616 * (q : Int) + (m0 : Int)) * (K : Int) + 1 := by simp
    rw [this]
    grind
  have : (18446744073709551616 : Int) ∣ ((V * K + 1 : Nat) : Int) := ⟨_, e1⟩
  omega

set_option maxRecDepth 20000 in
set_option maxHeartbeats 2000000 in
/-- prepared. -/
theorem mPrep (b off n cap V : Nat) (ms : List Nat) (w : World) (hm : Row .u64 w (.slice (some ⟨b, off, none⟩) n cap) ms) (hdm : Digs 18446744073709551616 ms) (hn0 : 0 < n) (hn : n ≤ 130) (hV : V = val 18446744073709551616 ms) (hV1 : 18446744073709551616 ^ (n - 1) < V) (hodd : V % 2 = 1) :
    Calls Try.prog 37 #[.slice (some ⟨b, off, none⟩) n cap] w fun e w' => ∃ (K : Nat) (v : Value), e = .returned (.agg #[.slice (some ⟨b, off, none⟩) n cap, .int .u64 (K : Int), v]) ∧ K < 18446744073709551616 ∧ (V * K + 1) % 18446744073709551616 = 0 ∧ Row .u64 w' v (digs 18446744073709551616 (18446744073709551616 ^ (2 * n) % V) n) ∧ Fresh w v ∧ Kept Nought w w' := by
  obtain ⟨_, _, _, e1, hLm, _, _, _, hnum⟩ := hm.open
  cases e1
  obtain ⟨b', off', e1, hc0⟩ := hnum 0 hn0
  cases e1
  rw [Nat.add_zero] at hc0
  have hx : ms.getD 0 0 < 18446744073709551616 := hdm.getD (by omega) _
  have hdg : V % 18446744073709551616 = ms.getD 0 0 := by
    have := dig_val (by omega) hdm 0
    unfold dig at this
    rw [hV]
    rwa [Nat.pow_zero, Nat.div_one] at this
  obtain ⟨m0, hm0⟩ : ∃ m0, m0 = ms.getD 0 0 := ⟨_, rfl⟩
  rw [← hm0] at hc0 hx hdg
  obtain ⟨W, hW⟩ : ∃ W, W = w.alloc (.cells #[.slice none 0 0, .int .u64 0, .slice none 0 0] 28) := ⟨_, rfl⟩
  have k0 : Kept Nought w W := by rw [hW]; exact (Kept.refl Nought w).alloc _
  have hx0 : W.heap[w.heap.size]? = some (.cells #[.slice none 0 0, .int .u64 0, .slice none 0 0] 28 (0, 0)) := by rw [hW]; exact heap_alloc_new _ _
  have hsz : W.heap.size = w.heap.size + 1 := by rw [hW]; simp
  have gneg : IntKind.u64.wrap (-(m0 : Int)) = 18446744073709551616 - (m0 : Int) := by rw [IntKind.wrap_u64]; omega
  have hI := wInverse (18446744073709551616 - (m0 : Int)) (by omega) (by omega) W
  have hc0' := k0.cellN hc0
  have HKK : Hid (∀ x, isInv (18446744073709551616 - (m0 : Int)) x → ∃ K : Nat, x = (K : Int) ∧ K < 18446744073709551616 ∧ (V * K + 1) % 18446744073709551616 = 0) := fun x h => prep_K hdg hodd h
  have HSq : Hid (∀ K : Nat, (V * K + 1) % 18446744073709551616 = 0 → Calls Try.prog 65 #[.agg #[.slice (some ⟨b, off, none⟩) n cap, .int .u64 (K : Int), .slice none 0 0]] (W.alloc (.cells #[.slice (some ⟨b, off, none⟩) n cap, .int .u64 (K : Int), .slice none 0 0] 28)) fun e w' => ∃ v', e = .returned v' ∧ Row .u64 w' v' (digs 18446744073709551616 (18446744073709551616 ^ (2 * n) % V) n) ∧ Fresh (W.alloc (.cells #[.slice (some ⟨b, off, none⟩) n cap, .int .u64 (K : Int), .slice none 0 0] 28)) v' ∧ Kept Nought (W.alloc (.cells #[.slice (some ⟨b, off, none⟩) n cap, .int .u64 (K : Int), .slice none 0 0] 28)) w') := fun K hg =>
    mSquare _ _ n cap 0 0 V _ K ms _ (hm.grew (k0.alloc _)) hdm hn0 hn hV hV1 hodd hg rfl
  have HX := toHid hx0
  have HK0 := toHid k0
  have HW := toHid hW
  have HSZ := toHid hsz
  clear hm hdm hn hV hV1 hodd hnum hLm hm0 hdg hW hx0 k0 hc0 hx hsz
  go_enter Try.func37, Try.ntmps37
  go_wp2_with (rw [← HW.out])
  refine hI.mono ?_
  rintro e w1 ⟨⟨x, rfl, hx⟩, rfl⟩
  obtain ⟨K, rfl, hK, hgood⟩ := HKK.out x hx
  have hS := HSq.out K hgood
  have hB : Hid ((w1.alloc (.cells #[.slice (some ⟨b, off, none⟩) n cap, .int .u64 (K : Int), .slice none 0 0] 28)).heap[w1.heap.size]? = some (.cells #[.slice (some ⟨b, off, none⟩) n cap, .int .u64 (K : Int), .slice none 0 0] 28 (0, 0))) := heap_alloc_new _ _
  clear hI hx HKK HSq
  go_wp2_with fail
  refine hS.mono ?_
  rintro e w2 ⟨v2, rfl, hr2, f2, k2⟩
  obtain ⟨zo, zn, zc, rfl, _, _, _, _, _⟩ := hr2.open
  have kA := (Kept.refl Nought w1).alloc (.cells #[.slice (some ⟨b, off, none⟩) n cap, .int .u64 (K : Int), .slice none 0 0] 28)
  have hO2 := (k2.block _ (lt_of_block hB.out) (fun f => f)).trans hB.out
  have hR2 := ((kA.trans k2).block _ (lt_of_block HX.out) (fun f => f)).trans HX.out
  have HF := toHid f2
  clear f2
  have hne : w.heap.size ≠ w1.heap.size := by have := HSZ.out; omega
  have hne' : w1.heap.size ≠ w.heap.size := by omega
  obtain ⟨c0, c1, c2⟩ := cells3 hO2
  obtain ⟨f0, f1, f2⟩ := frees3 hO2
  have hO3 := (set3 hO2 (.slice zo zn zc) (.slice zo zn zc) (.slice zo zn zc)).2.2
  obtain ⟨d0, d1, d2⟩ := cells3 hO3
  have hR3 := heapAt_set hR2 (a := ⟨w1.heap.size, 2, none⟩) hne (.slice zo zn zc)
  obtain ⟨r0, r1, r2⟩ := cells3 hR3
  obtain ⟨s0, s1, s2⟩ := frees3 hR3
  have hR4 := put3 hR3 (.slice (some ⟨b, off, none⟩) n cap) (.int .u64 (K : Int)) (.slice zo zn zc)
  obtain ⟨t0, t1, t2⟩ := cells3 hR4
  have kk := (((HK0.out.trans (kA.trans k2)).next ((Kept.refl (fun b => b = w1.heap.size) w2).setCell ⟨w1.heap.size, 2, none⟩ (fun _ => rfl) (.slice zo zn zc)) (fun x hx e => by have := HK0.out.size; omega))).next (kept3 (w2.setCell ⟨w1.heap.size, 2, none⟩ (.slice zo zn zc)) w.heap.size (.slice (some ⟨b, off, none⟩) n cap) (.int .u64 (K : Int)) (.slice zo zn zc)) (fun x hx e => by omega)
  have HKK := toHid kk
  have hr3 : Row .u64 (w2.setCell ⟨w1.heap.size, 2, none⟩ (.slice zo zn zc)) (.slice zo zn zc) (digs 18446744073709551616 (18446744073709551616 ^ (2 * n) % V) n) := hr2.kept ((Kept.refl (fun b => b = w1.heap.size) w2).setCell ⟨w1.heap.size, 2, none⟩ (fun _ => rfl) (.slice zo zn zc)) (fun b' hb e => by
    have h1 := HF.out b' hb
    have h0 := ((Kept.refl Nought w1).alloc (.cells #[.slice (some ⟨b, off, none⟩) n cap, .int .u64 (K : Int), .slice none 0 0] 28)).size
    have h9 := lt_of_block hB.out
    omega)
  have HRF := toHid (hr3.kept (kept3 (w2.setCell ⟨w1.heap.size, 2, none⟩ (.slice zo zn zc)) w.heap.size (.slice (some ⟨b, off, none⟩) n cap) (.int .u64 (K : Int)) (.slice zo zn zc)) (fun b' hb e => by
    have h1 := HF.out b' hb
    have h2 := HSZ.out
    have h0 := ((Kept.refl Nought w1).alloc (.cells #[.slice (some ⟨b, off, none⟩) n cap, .int .u64 (K : Int), .slice none 0 0] 28)).size
    have h9 := lt_of_block hB.out
    omega))
  clear hr3
  have HKA := toHid (kA.trans k2)
  clear hS kA hO2 hR2 hO3 hR3 hR4 kk hB hr2 k2
  go_wp2_with fail
  refine bodyPost_ret (v := .agg #[.slice (some ⟨b, off, none⟩) n cap, .int .u64 (K : Int), .slice zo zn zc]) (by simp [results, Try.results37, go_sem, t0, t1, t2]) rfl ⟨K, _, rfl, hK, hgood, ?_, ?_, HKK.out⟩
  · exact HRF.out
  · exact HF.out.after (HK0.out.alloc _)

end Go.Proofs.Ytpgccioblgcjaaa
