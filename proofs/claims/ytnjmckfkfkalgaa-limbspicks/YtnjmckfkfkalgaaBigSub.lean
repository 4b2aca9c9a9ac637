/- The plain difference. -/
import Derived.Test.YtnjmckfkfkalgaaBigAdd
namespace Go.Proofs.Ytnjmckfkfkalgaa
open Go.RowKit

theorem sub_step {a b os : List Nat} {k β x y z β' : Nat} (hl : os.length = k) (h : val 4294967296 os + val 4294967296 (b.take k) = val 4294967296 (a.take k) + 4294967296 ^ k * β) (hx : a.getD k 0 = x) (hy : b.getD k 0 = y)
    (hz : z + y + β = x + 4294967296 * β') :
    val 4294967296 (os ++ [z]) + val 4294967296 (b.take (k + 1)) = val 4294967296 (a.take (k + 1)) + 4294967296 ^ (k + 1) * β' := by
  rw [val_snoc, hl, val_take_succ, val_take_succ, hx, hy, Nat.pow_succ, Nat.mul_assoc]
  have e : 4294967296 ^ k * (z + y + β) = 4294967296 ^ k * (x + 4294967296 * β') := by rw [hz]
  rw [Nat.mul_add, Nat.mul_add, Nat.mul_add] at e
  omega

theorem sub_end {a b os : List Nat} {β : Nat} (hd : Digs 4294967296 os) (hl : os.length = a.length) (h : val 4294967296 os + val 4294967296 b = val 4294967296 a + 4294967296 ^ a.length * β) (hb : β ≤ 1) (hle : val 4294967296 b ≤ val 4294967296 a) :
    val 4294967296 os = val 4294967296 a - val 4294967296 b := by
  have h1 := val_lt (by omega) hd
  rw [hl] at h1
  have h2 : β = 0 ∨ β = 1 := by omega
  rcases h2 with rfl | rfl
  · omega
  · rw [Nat.mul_one] at h
    omega

set_option maxRecDepth 100000 in
set_option maxHeartbeats 800000 in
theorem rSub (u v : Value) (A B : Nat) (w : World) (hu : IsBig w u A) (hv : IsBig w v B) (hle : B ≤ A) :
    Calls Try.prog 42 #[u, v] w fun r w' => ∃ v', r = .returned v' ∧ IsBig w' v' (A - B) ∧ (∀ b, v'.ownBlock = some b → w.heap.size ≤ b) ∧ Kept Nought w w' := by
  obtain ⟨i0, hi0, hz0, hz1, hz2⟩ := info_parts Try.info70
  obtain ⟨a, ra, da, ta, rfl, la⟩ := hu
  obtain ⟨b, rb, db, tb, rfl, lb⟩ := hv
  have hlen : b.length ≤ a.length := by
    rw [len_le_iff (by omega) db tb]
    exact Nat.lt_of_le_of_lt hle (val_lt (by omega) da)
  have HB := fun i W (hk : Kept Nought w W) => rDigit v b i W (rb.grew hk)
  have xa := fun i => da.getD (by omega) i
  have xb := fun i => db.getD (by omega) i
  obtain ⟨ao, n, ac, rfl, hN, _, _, _, h4⟩ := ra.open
  rw [hN.out] at la hlen
  clear ra rb lb da db ta tb
  go_enter Try.func42, Try.ntmps42
  go_wp2_with fail
  go_loopw [5, 6, 10] (fun o c i wr => ∃ (k β : Nat) (os : List Nat), k ≤ n ∧ β ≤ 1 ∧ i = .int .i64 k ∧ c = .int .i64 (-(β : Int)) ∧ Hid (os.length = k) ∧ Digs 4294967296 os ∧ OwnN .u32 70 wr w.heap.size o k os ∧ Kept Nought w wr ∧
      Hid (val 4294967296 os + val 4294967296 (b.take k) = val 4294967296 (a.take k) + 4294967296 ^ k * β)) (fun _ _ i _ => n - (intOf i).toNat)
  case atStart => exact ⟨0, 0, [], Nat.zero_le _, by omega, rfl, rfl, rfl, Digs.nil _, World.ownsRow_nil _ _ _ _, Kept.refl _ _, by unfold Hid; simp [val]⟩
  case round =>
    obtain ⟨k, β, os, hk, hβ, rfl, rfl, HL, hod, ho, hkp, HV⟩ := hrel
    by_cases hlt : k < n
    · obtain ⟨bb, off, rfl, hcell⟩ := (h4 k hlt).grew hkp
      have hD := fun W (hk : Kept Nought w W) => HB k W hk
      have hx := xa k
      have hy := xb k
      have HS : Hid (∀ z β', z + b.getD k 0 + β = a.getD k 0 + 4294967296 * β' → val 4294967296 (os ++ [z]) + val 4294967296 (b.take (k + 1)) = val 4294967296 (a.take (k + 1)) + 4294967296 ^ (k + 1) * β') := fun z β' hz => sub_step HL.out HV.out rfl rfl hz
      clear HB xa xb HV h4
      generalize a.getD k 0 = x at *
      generalize b.getD k 0 = y at *
      have g0 : (0 : Int) ≤ (k : Int) := Int.natCast_nonneg _
      have g1 : (k : Int) < (n : Int) := by omega
      have w1 : IntKind.i64.wrap ((x : Int) - (y : Int)) = (x : Int) - (y : Int) := by rw [IntKind.wrap_i64]; omega
      have w2 : IntKind.i64.wrap (-(β : Int) + ((x : Int) - (y : Int))) = -(β : Int) + ((x : Int) - (y : Int)) := by rw [IntKind.wrap_i64]; omega
      go_wp2_with fail
      go_quiet ((go_at_call 54; exact Calls.quiet_of_same (hD _ (hkp.drewN _))))
      have ho2 : OwnN .u32 70 (wr.drewN nq) w.heap.size _ k os := ho
      have hk2 : Kept Nought w (wr.drewN nq) := hkp.drewN nq
      clear hD hcell w1 w2
      generalize wr.drewN nq = W2 at *
      obtain ⟨t, ht⟩ : ∃ t : Int, t = -(β : Int) + ((x : Int) - (y : Int)) := ⟨_, rfl⟩
      obtain ⟨z, β', hz, hβ', e1, e2, ez⟩ : ∃ z β' : Nat, z < 4294967296 ∧ β' ≤ 1 ∧ t % 4294967296 = (z : Int) ∧ t / 4294967296 = -(β' : Int) ∧ z + y + β = x + 4294967296 * β' := by
        by_cases hneg : t < 0
        · exact ⟨(t % 4294967296).toNat, 1, by omega, by omega, by omega, by omega, by omega⟩
        · exact ⟨(t % 4294967296).toNat, 0, by omega, by omega, by omega, by omega, by omega⟩
      have hS := HS.out z β' ez
      have HS2 : Hid (val 4294967296 (os ++ [z]) + val 4294967296 (b.take (k + 1)) = val 4294967296 (a.take (k + 1)) + 4294967296 ^ (k + 1) * β') := hS
      have hb1 : -8589934592 ≤ t := by omega
      have hb2 : t ≤ 8589934592 := by omega
      rw [← ht]
      have E1 : Hid (t % 4294967296 = (z : Int)) := e1
      have E2 : Hid (t / 4294967296 = -(β' : Int)) := e2
      clear hS HS ez e1 e2 ht
      go_wp2_with (at_builtin; refine wpList_append_lies _ rfl _ _ 51 rfl w.heap.size 70 i0 _ 1 4 Try.underlying51 hi0 hz0 hz1 hz2 rfl (by omega) _ _ _ rfl (ho2.alloc _) ⟨W2.heap.size, 0, none⟩ 1 1 [.int .u32 (t % 4294967296)] rfl rfl (new1_cells W2 _ _) (by simp [Value.oneCell']) (by omega) (by unfold maxLen; omega) (by omega) (by have := hk2.size; simp; omega) (W2.heap.size + 1) (by simp) ?_; intro gg c' w4 ho4 hg hat hgl)
      have hk5 : Kept Nought w w4 := (hk2.alloc _).grown hg (fun b hb hlt => by have := (ho2.lt b hb).1; omega)
      rw [E1.out] at ho4
      rw [E2.out]
      go_roundw
      case rel => exact ⟨k + 1, β', os ++ [z], by omega, hβ', by go_num, rfl, by unfold Hid; rw [List.length_append, HL.out]; rfl, hod.append (Digs.one hz), by unfold OwnN; rw [List.map_append]; exact ho4, hk5, HS2⟩
      case measure => simp [intOf]; omega
    · have g1 : ¬ (k : Int) < (n : Int) := by omega
      have hv2 : val 4294967296 os = val 4294967296 a - val 4294967296 b := by
        have h := HV.out
        have e1 := hN.out
        have e2 := HL.out
        rw [List.take_of_length_le (by omega), List.take_of_length_le (by omega)] at h
        exact sub_end hod (by omega) (by rw [show a.length = k by omega]; exact h) hβ hle
      have hr : Row .u32 wr _ os := Row.of_own (base := w.heap.size) (e := 70) (by rw [HL.out]; exact ho)
      have ht := rTrimBig _ _ _ hr hod (by have := HL.out; omega)
      rw [hv2] at ht
      clear HB xa xb HV h4 hv2 hr
      go_wp2_with fail
      refine ht.mono ?_
      rintro e w' ⟨v', rfl, hb, ho', rfl⟩
      go_wp2
      go_ret
      exact ⟨v', rfl, hb, fun b hb' => by rw [ho'] at hb'; exact (ho.lt b hb').1, hkp⟩

end Go.Proofs.Ytnjmckfkfkalgaa
