/- What the plain First and Sum answer, for any row of events. -/
import Derived.Test.YticofdgmgmckbaaLSame
import Derived.Lib.MinMax
namespace Go.Proofs.Yticofdgmgmckbaa
open Go.RowKit

theorem EvRow.cut {w : World} {g n cap m : Nat} {l : List Ev} (h : EvRow w (.slice (some ⟨g, 0, none⟩) n cap) l) (hm : m ≤ l.length) : EvRow w (.slice (some ⟨g, 0, none⟩) m cap) (l.take m) := by
  unfold EvRow at h ⊢
  rcases h.2 with ⟨h', _⟩ | ⟨g', cap', cur, h', hb, hg, hnc, hcm, hcs, htake⟩
  · simp at h'
  · simp only [Value.slice.injEq, Option.some.injEq, Addr.mk.injEq, and_true] at h'
    obtain ⟨rfl, rfl, rfl⟩ := h'
    have hl : (l.take m).length = m := by rw [List.length_take]; omega
    rw [hl]
    refine ⟨by rw [evsCells_length, hl], .inr ⟨g, cap, cur, rfl, hb, hg, by omega, hcm, hcs, ?_⟩⟩
    rw [← evsCells_take, ← htake, List.take_take, Nat.min_eq_left (by omega)]

set_option maxHeartbeats 400000 in
theorem rFirst (u : Value) (a : List Ev) (w : World) (hu : EvRow w u a) (ba : a.length < 1000000000000) :
    Calls Try.prog 14 #[u] w fun r w' => ∃ v, r = .returned v ∧ EvRow w v (a.take 1000) ∧ v.ownBlock = u.ownBlock ∧ w' = w := by
  rcases hu.2 with ⟨rfl, h0⟩ | ⟨g, cap, cur, rfl, _, _, hnc, hcm, _, _⟩
  · have ha : a = [] := List.eq_nil_of_length_eq_zero h0
    subst ha
    go_enter Try.func14, Try.ntmps14
    go_wp2
    go_ret
    exact ⟨_, rfl, EvRow.nil w, rfl, rfl⟩
  · have hn : a.length ≤ cap := hnc
    unfold maxLen at hcm
    by_cases hs : a.length ≤ 1000
    · have e : a.take 1000 = a.take a.length := by rw [List.take_of_length_le hs, List.take_length]
      rw [e]
      have hc := hu.cut (Nat.le_refl _)
      have HC : Hid (EvRow w (.slice (some ⟨g, 0, none⟩) a.length cap) (a.take a.length)) := hc
      clear hc hu e hnc
      generalize hN : a.length = n at *
      clear hN
      have hm : min (n : Int) 1000 = (n : Int) := by omega
      go_enter Try.func14, Try.ntmps14
      go_wp2
      go_ret
      exact ⟨_, rfl, HC.out, rfl, rfl⟩
    · have HC : Hid (EvRow w (.slice (some ⟨g, 0, none⟩) 1000 cap) (a.take 1000)) := hu.cut (by omega)
      clear hu hnc
      generalize hN : a.length = n at *
      clear hN
      have hm : min (n : Int) 1000 = 1000 := by omega
      have hc : (1000 : Int) ≤ (cap : Int) := by omega
      go_enter Try.func14, Try.ntmps14
      go_wp2
      go_ret
      exact ⟨_, rfl, HC.out, rfl, rfl⟩

theorem mixE_eq (s x y z : Int) : mixE s (x, y, z) = mix1 (mix1 (mix1 s x) y) z := rfl

theorem evSum_take_succ {l : List Ev} {k : Nat} {x y z : Int} (h : l[k]? = some (x, y, z)) : evSum (l.take (k + 1)) = mix1 (mix1 (mix1 (evSum (l.take k)) x) y) z := by
  rw [List.take_add_one, h, ← mixE_eq]
  exact evSum_snoc _ _

set_option maxHeartbeats 400000 in
theorem rSum (u : Value) (a : List Ev) (w : World) (hu : EvRow w u a) (ba : a.length < 1000000000000) :
    Calls Try.prog 17 #[u] w fun r w' => r = .returned (.int .u64 (evSum a)) ∧ Kept Nought w w' := by
  obtain ⟨ao, ac, rfl, hA⟩ := hu.view
  clear hu
  obtain ⟨n, hn⟩ : ∃ n, n = a.length := ⟨_, rfl⟩
  rw [← hn] at hA ba ⊢
  have hN : Hid (a.length = n) := hn.symm
  clear hn
  go_enter Try.func17, Try.ntmps17
  go_wp2_with fail
  go_loopw [3, 10] (fun t i wr => ∃ k : Nat, k ≤ n ∧ i = .int .i64 k ∧ t = .int .u64 (evSum (a.take k)) ∧ Kept Nought w wr) (fun _ i _ => n - (intOf i).toNat)
  case atStart => exact ⟨0, Nat.zero_le _, rfl, rfl, Kept.refl _ _⟩
  case round =>
    obtain ⟨k, hk, rfl, rfl, hkp⟩ := hrel
    by_cases hlt : k < n
    · obtain ⟨ga, x, y, z, rfl, hA'⟩ := hA k hlt
      obtain ⟨a0, a1, a2, a3⟩ := hA'.kept hkp
      have hs : Hid (evSum (a.take (k + 1)) = mix1 (mix1 (mix1 (evSum (a.take k)) x) y) z) := evSum_take_succ a3.out
      clear hA hA' a3
      have hk0 : (0 : Int) ≤ (k : Int) := Int.natCast_nonneg _
      have hk1 : (k : Int) < (n : Int) := by omega
      generalize evSum (a.take k) = s at *
      go_wp2_with fail
      go_loop [3, 22] (fun t i => (i = .int .i64 0 ∧ t = .int .u64 s) ∨ (i = .int .i64 1 ∧ t = .int .u64 (mix1 s x)) ∨ (i = .int .i64 2 ∧ t = .int .u64 (mix1 (mix1 s x) y)) ∨ (i = .int .i64 3 ∧ t = .int .u64 (mix1 (mix1 (mix1 s x) y) z))) (fun _ i => (3 - intOf i).toNat)
      case atStart => exact .inl ⟨rfl, rfl⟩
      case round =>
        rcases hrel with ⟨rfl, rfl⟩ | ⟨rfl, rfl⟩ | ⟨rfl, rfl⟩ | ⟨rfl, rfl⟩
        · go_wp2
          go_round
          case rel => exact .inr (.inl ⟨by go_num, by simp [mix1, IntKind.wrap_u64]⟩)
          case measure => simp [intOf]
        · generalize mix1 s x = s1 at *
          go_wp2
          go_round
          case rel => exact .inr (.inr (.inl ⟨by go_num, by simp [mix1, IntKind.wrap_u64]⟩))
          case measure => simp [intOf]
        · generalize mix1 (mix1 s x) y = s2 at *
          go_wp2
          go_round
          case rel => exact .inr (.inr (.inr ⟨by go_num, by simp [mix1, IntKind.wrap_u64]⟩))
          case measure => simp [intOf]
        · go_wp2
          go_roundw
          case rel => exact ⟨k + 1, by omega, by go_num, by rw [hs.out], (hkp.alloc _).alloc _⟩
          case measure => simp [intOf]; omega
    · have hs : Hid (a.take k = a) := List.take_of_length_le (by have := hN.out; omega)
      clear hA
      have hk1 : ¬ (k : Int) < (n : Int) := by omega
      go_wp2
      go_ret
      rw [hs.out]
      exact ⟨rfl, hkp⟩

end Go.Proofs.Yticofdgmgmckbaa
