/- The walk of the statement on bytes that are found, of the landed contracts. -/
import Derived.Test.YtegjdjfnpphipaaLaw23
import Derived.Test.YtegjdjfnpphipaaFnd0
import Derived.Test.YtegjdjfnpphipaaOpenRow
namespace Go.Proofs.Ytegjdjfnpphipaa
open Go.RowKit

/-- Find, landed, with no trace. -/
def DFind : Prop := ∀ (bo : Option Addr) (M dap : Nat) (bs : List Nat) (c : Nat) (fr : Int) (w : World), Row .u8 w (.slice bo M dap) bs → Digs 256 bs → c < 256 → M ≤ 10000 → -9223372036854775808 ≤ fr → fr ≤ 9223372036854775807 →
  Calls Try.prog 17 #[.pointer none, .slice bo M dap, .int .u8 ((c : Nat) : Int), .int .i64 fr] w fun e w' => ∃ a s, e = .returned (.tuple #[.int .i64 ((a : Nat) : Int), .int .u64 ((s : Nat) : Int)]) ∧ FndR bs c fr (-1) a s ∧ Kept Nought w w'

/-- Equal, landed, with no trace. -/
def DEqu : Prop := ∀ (ao bo : Option Addr) (L cap M dap : Nat) (xs bs : List Nat) (R : Nat) (w : World), R = (if xs = bs then 1 else 0) → Row .u8 w (.slice ao L cap) xs → Row .u8 w (.slice bo M dap) bs → Digs 256 xs → Digs 256 bs → L ≤ 10000 → M ≤ 10000 →
  Calls Try.prog 18 #[.pointer none, .slice ao L cap, .slice bo M dap] w fun e w' => e = .returned (.int .u64 ((R : Nat) : Int)) ∧ Kept Nought w w'

set_option maxHeartbeats 400000 in
theorem r23One (b : Bool) (R : Nat) (hR : R = if b = true then 1 else 0) (w : World) : Calls Try.prog 19 #[.bool b] w fun e w' => e = .returned (.int .u64 ((R : Nat) : Int)) ∧ w' = w := by
  cases b with
  | true =>
    obtain rfl : R = 1 := hR
    go_enter Try.func19, Try.ntmps19
    go_wp2_with fail
    go_ret
    exact ⟨rfl, rfl⟩
  | false =>
    obtain rfl : R = 0 := hR
    go_enter Try.func19, Try.ntmps19
    go_wp2_with fail
    go_ret
    exact ⟨rfl, rfl⟩

set_option maxRecDepth 40000 in
set_option maxHeartbeats 4000000 in
theorem wPadFinds (hD : DDec) (hF : DFind) (hQ : DEqu) (x : Value) (xs : List Nat) (u : Value) (bs : List Nat) (c fr : Int) (w : World) (hx : Row .u8 w x xs) (hu : Row .u8 w u bs) (dx : Digs 256 xs) (db : Digs 256 bs) (hc : 0 ≤ c ∧ c < 256) (hfr : (Lit.int .i64 fr).wf = true) :
    Calls Try.prog 5 #[x, u, .int .u8 c, .int .i64 fr] w fun e w' => e = .returned (.bool true) ∧ Below w.heap.size w w' := by
  obtain ⟨hf0, hf1⟩ := bounds_i64 hfr
  obtain ⟨c, rfl⟩ := Int.eq_ofNat_of_zero_le hc.1
  have hc2 : c < 256 := by omega
  obtain ⟨mo, M, mc, rfl, hM, _⟩ := hx.open
  obtain ⟨uo, un, uc, rfl, hul, _⟩ := hu.open
  have J0 := f23Awake hD w
  have JF := toHid fun W (k : Kept Nought w W) (hm : un ≤ 10000) => hF uo un uc bs c fr W (hu.grew k) db hc2 hm hf0 hf1
  obtain ⟨R, hR⟩ : ∃ R : Nat, R = if xs = bs then 1 else 0 := ⟨_, rfl⟩
  have JQ := toHid fun W (k : Kept Nought w W) (hl : M ≤ 10000) (hm : un ≤ 10000) => hQ mo uo M mc un uc xs bs R W hR (hx.grew k) (hu.grew k) dx db hl hm
  have JS := toHid fun W (k : Kept Nought w W) => r13Same (.slice mo M mc) (.slice uo un uc) xs bs W (hx.grew k) (hu.grew k) dx db
  have HRD : Hid (R = if decide (xs = bs) = true then 1 else 0) := by
    unfold Hid
    rw [hR]
    by_cases e : xs = bs
    · rw [if_pos e, decide_eq_true e, if_pos rfl]
    · rw [if_neg e, decide_eq_false e, if_neg (by decide)]
  have HU := toHid hu
  have HUL := toHid hul.out
  generalize decide (xs = bs) = D at *
  clear hx hu dx db hfr hD hF hQ hM hul hc hR
  by_cases hf : M ≤ 1200 ∧ un ≤ 1200
  · have HFEW := toHid fun W => few23b mo uo M un mc uc W true (iff_of_true rfl hf)
    obtain ⟨hl, hm⟩ := hf
    go_enter Try.func5, Try.ntmps5
    go_wp2_with fail
    refine J0.mono ?_
    rintro e w1 ⟨rfl, k1⟩
    have HK2 := toHid (k1.alloc (.cells #[.slice mo M mc, .slice uo un uc] 22))
    have J1 := HFEW.out w1
    clear J0 k1
    go_wp2_with fail
    refine J1.mono ?_
    rintro e w2 ⟨rfl, rfl⟩
    generalize w1.alloc (.cells #[.slice mo M mc, .slice uo un uc] 22) = w2 at *
    have J2 := JF.out w2 HK2.out (by omega)
    clear J1
    go_wp2_with fail
    refine J2.mono ?_
    rintro e w3 ⟨a, s, rfl, hfnd, k3⟩
    have HK3 := toHid (HK2.out.trans k3)
    have HFND := toHid hfnd
    have hR3 := HU.out.grew HK3.out
    have HR3 := toHid hR3
    have gw0 : IntKind.i64.wrap ((un : Int) - 1) = (un : Int) - 1 := by rw [IntKind.wrap_i64]; omega
    clear J2 k3 hfnd hR3
    go_wp2_with fail
    go_loop [11, 12, 13] (fun wv fv iv => ∃ (b s' : Nat) (i : Int), wv = .int .i64 ((b : Nat) : Int) ∧ fv = .int .u64 ((s' : Nat) : Int) ∧ iv = .int .i64 i ∧ -1 ≤ i ∧ i < (un : Int) ∧ Hid (FndR bs c fr i b s')) (fun _ _ iv => (intOf iv + 1).toNat)
    case atStart => exact ⟨un, 0, (un : Int) - 1, rfl, rfl, by first | rfl | rw [gw0], by omega, by omega, by have h := FndR.start bs c fr; rw [HUL.out] at h; exact h⟩
    case round =>
      obtain ⟨b, s', i, rfl, rfl, rfl, hi0, hi1, hall⟩ := hrel
      by_cases h1 : i ≥ 0
      · obtain ⟨j, rfl⟩ := Int.eq_ofNat_of_zero_le h1
        have hjn : j < un := by omega
        have g0 : (0 : Int) ≤ (j : Int) := by omega
        have gj : (j : Int) < (un : Int) := by omega
        have gw : IntKind.i64.wrap ((j : Int) - 1) = (j : Int) - 1 := by rw [IntKind.wrap_i64]; omega
        by_cases h2 : (j : Int) ≥ fr
        · have h2' : fr ≤ (j : Int) := h2
          obtain ⟨_, _, _, e1, _, _, _, _, hnum⟩ := HR3.out.open
          cases e1
          obtain ⟨bb, off, rfl, hcell⟩ := hnum j hjn
          have HJL : Hid (j < bs.length) := by unfold Hid; rw [HUL.out]; exact hjn
          obtain ⟨z, hz⟩ : ∃ z, z = bs.getD j 0 := ⟨_, rfl⟩
          rw [← hz] at hcell
          have HZ := toHid hz
          clear hnum hz
          by_cases h3 : z = c
          · subst h3
            have HNx := toHid (fnd_hit HJL.out h2' HZ.out.symm)
            clear h2
            go_wp2_with fail
            go_round
            case rel => exact ⟨j, 1, (j : Int) - 1, by first | rfl | simp, by first | rfl | simp, by first | rfl | rw [gw], by omega, by omega, HNx⟩
            case measure => first | (simp [intOf]; done) | (simp [intOf]; omega)
          · have h3' : ¬ (z : Int) = (c : Int) := by omega
            have HNx := toHid (hall.out.miss (by rw [← HZ.out]; exact h3))
            clear h2
            go_wp2_with fail
            go_round
            case rel => exact ⟨b, s', (j : Int) - 1, by first | rfl | simp, by first | rfl | simp, by first | rfl | rw [gw], by omega, by omega, HNx⟩
            case measure => first | (simp [intOf]; done) | (simp [intOf]; omega)
        · have h2' : ¬ fr ≤ (j : Int) := h2
          obtain ⟨rfl, rfl⟩ := HFND.out.uniq (hall.out.done (.inr (by omega)) (by omega))
          have J4 := JQ.out w3 HK3.out (by omega) (by omega)
          clear hall HFND
          go_wp2_with fail
          refine J4.mono ?_
          rintro e w4 ⟨rfl, k4⟩
          have HK4 := toHid (HK3.out.trans k4)
          have J5 := JS.out w4 HK4.out
          clear J4 k4
          go_wp2_with fail
          refine J5.mono ?_
          rintro e w5 ⟨rfl, rfl⟩
          have J6 := r23One D R HRD.out w5
          clear J5
          go_wp2_with fail
          refine J6.mono ?_
          rintro e w6 ⟨rfl, rfl⟩
          clear J6
          go_wp2_with fail
          go_ret
          exact ⟨by first | rfl | simp, below_kept HK4.out (Nat.le_refl _)⟩
      · have h1' : ¬ 0 ≤ i := h1
        obtain ⟨rfl, rfl⟩ := HFND.out.uniq (hall.out.done (.inl (by omega)) (by omega))
        have J4 := JQ.out w3 HK3.out (by omega) (by omega)
        clear hall HFND
        go_wp2_with fail
        refine J4.mono ?_
        rintro e w4 ⟨rfl, k4⟩
        have HK4 := toHid (HK3.out.trans k4)
        have J5 := JS.out w4 HK4.out
        clear J4 k4
        go_wp2_with fail
        refine J5.mono ?_
        rintro e w5 ⟨rfl, rfl⟩
        have J6 := r23One D R HRD.out w5
        clear J5
        go_wp2_with fail
        refine J6.mono ?_
        rintro e w6 ⟨rfl, rfl⟩
        clear J6
        go_wp2_with fail
        go_ret
        exact ⟨by first | rfl | simp, below_kept HK4.out (Nat.le_refl _)⟩
  · have HFEW := toHid fun W => few23b mo uo M un mc uc W false (iff_of_false (by decide) hf)
    go_enter Try.func5, Try.ntmps5
    go_wp2_with fail
    refine J0.mono ?_
    rintro e w1 ⟨rfl, k1⟩
    have HK2 := toHid (k1.alloc (.cells #[.slice mo M mc, .slice uo un uc] 22))
    have J1 := HFEW.out w1
    clear J0 k1 hf
    go_wp2_with fail
    refine J1.mono ?_
    rintro e w2 ⟨rfl, rfl⟩
    clear J1
    go_wp2_with fail
    go_ret
    exact ⟨rfl, below_kept HK2.out (Nat.le_refl _)⟩

end Go.Proofs.Ytegjdjfnpphipaa
