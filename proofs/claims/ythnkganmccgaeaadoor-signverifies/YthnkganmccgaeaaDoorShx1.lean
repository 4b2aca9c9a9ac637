/- Package sha256: its tables in memory; words turned by closures. -/
import Derived.Test.YthnkganmccgaeaaDoorSha5
import Derived.Test.YthnkganmccgaeaaDoorArr1
import Derived.Deep.RegionHeld3
namespace Go.Proofs.YthnkganmccgaeaaDoor
open Go.RowKit

/-- The package's tables, as they lie in memory. -/
structure Tab11 (w : World) : Prop where
  start : ∀ i, i < 8 → w.cell? ⟨0, i, none⟩ = some (.int .u32 (H256.getD i 0 : Nat))
  words : ∀ i, i < 64 → w.cell? ⟨4, i, none⟩ = some (.int .u32 (K256.getD i 0 : Nat))

theorem Tab11.grew {w w' : World} (h : Tab11 w) (k : Kept Nought w w') : Tab11 w' := ⟨fun i hi => k.cellN (h.start i hi), fun i hi => k.cellN (h.words i hi)⟩

theorem and31 (M : Nat) (hM : M < 18446744073709551616) : bits .and .u64 (M : Int) 31 = ((M % 32 : Nat) : Int) := by
  have h := u64_and_nat M 31 hM (by omega)
  rw [show (31 : Int) = ((31 : Nat) : Int) from rfl, h]
  congr 1
  exact Nat.and_two_pow_sub_one_eq_mod M 5

set_option maxHeartbeats 400000 in
/-- bits.RotateLeft32 by a count below 0. -/
theorem hRot (x n : Nat) (hx : x < 4294967296) (hn0 : 0 < n) (hn : n < 32) (w : World) :
    Calls Tryd.prog 62 #[.int .u32 (x : Nat), .int .i64 (-(n : Int))] w fun e w' => e = .returned (.int .u32 (rot32 x n : Nat)) ∧ w' = w := by
  have h1 : x / 2 ^ n < 4294967296 := Nat.lt_of_le_of_lt (Nat.div_le_self _ _) hx
  have h2 : x * 2 ^ (32 - n) % 4294967296 < 4294967296 := Nat.mod_lt _ (by omega)
  have hor := u32_or_nat _ _ h2 h1
  rw [show (x * 2 ^ (32 - n) % 4294967296 ||| x / 2 ^ n) = rot32 x n from Nat.or_comm _ _] at hor
  obtain ⟨k, hk⟩ : ∃ k, k = 32 - n := ⟨_, rfl⟩
  obtain ⟨M, hM⟩ : ∃ M : Nat, M = 18446744073709551616 - n := ⟨_, rfl⟩
  rw [← hk] at hor
  have hw : IntKind.u64.wrap (-(n : Int)) = (M : Int) := by rw [IntKind.wrap_u64]; omega
  have ha : bits .and .u64 (M : Int) 31 = (k : Int) := by
    rw [and31 M (by omega)]
    congr 1
    omega
  have g1 : (32 : Int) - (k : Int) = (n : Int) := by omega
  have gk : k < 32 := by omega
  have c1 : ((x / 2 ^ n : Nat) : Int) = (x : Int) / 2 ^ n := by simp
  have c2 : ((x * 2 ^ k % 4294967296 : Nat) : Int) = (x : Int) * 2 ^ k % 4294967296 := by simp
  rw [c1, c2] at hor
  clear c1 c2 hk hM h1 h2
  go_enter Tryd.func62, Tryd.ntmps62
  go_wp2_with fail
  go_ret
  exact ⟨rfl, rfl⟩

set_option maxHeartbeats 400000 in
/-- right. -/
theorem hRight (x n : Nat) (hx : x < 4294967296) (hn0 : 0 < n) (hn : n < 32) (w : World) :
    Calls Tryd.prog 59 #[.int .u32 (x : Nat), .int .i64 (n : Int)] w fun e w' => e = .returned (.int .u32 (rot32 x n : Nat)) ∧ w' = w := by
  have h := hRot x n hx hn0 hn w
  go_enter Tryd.func59, Tryd.ntmps59
  go_wp2_with fail
  refine h.mono ?_
  rintro e w1 ⟨rfl, rfl⟩
  go_wp2_with fail
  go_ret
  exact ⟨rfl, rfl⟩

/-- Three counts, as a closure holds them. -/
structure Cnt3 (w : World) (b n1 n2 n3 : Nat) : Prop where
  c1 : w.cell? ⟨b, 0, none⟩ = some (.int .i64 (n1 : Int))
  c2 : w.cell? ⟨b + 1, 0, none⟩ = some (.int .i64 (n2 : Int))
  c3 : w.cell? ⟨b + 1 + 1, 0, none⟩ = some (.int .i64 (n3 : Int))

theorem Cnt3.grew {w w' : World} {b n1 n2 n3 : Nat} (h : Cnt3 w b n1 n2 n3) (k : Kept Nought w w') : Cnt3 w' b n1 n2 n3 := ⟨k.cellN h.c1, k.cellN h.c2, k.cellN h.c3⟩

/-- A closure of three counts. -/
def cls3 (f b : Nat) : Value := .func (.func f) #[] #[.pointer (some ⟨b, 0, none⟩), .pointer (some ⟨b + 1, 0, none⟩), .pointer (some ⟨b + 1 + 1, 0, none⟩)]

set_option maxHeartbeats 1000000 in
/-- turner's closure. -/
theorem hTurn (x n1 n2 n3 b : Nat) (hx : x < 4294967296) (h1 : 0 < n1 ∧ n1 < 32) (h2 : 0 < n2 ∧ n2 < 32) (h3 : 0 < n3 ∧ n3 < 32) (w : World) (hc : Cnt3 w b n1 n2 n3) :
    Calls Tryd.prog 58 #[.int .u32 (x : Nat), .pointer (some ⟨b, 0, none⟩), .pointer (some ⟨b + 1, 0, none⟩), .pointer (some ⟨b + 1 + 1, 0, none⟩)] w fun e w' => e = .returned (.int .u32 ((rot32 x n1 ^^^ rot32 x n2 ^^^ rot32 x n3 : Nat) : Int)) ∧ Kept Nought w w' := by
  obtain ⟨c1, c2, c3⟩ := hc
  have hxx := xor3 (rot32_lt x n1 hx) (rot32_lt x n2 hx) (rot32_lt x n3 hx)
  have J1 : Hid (∀ W, Calls Tryd.prog 59 #[.int .u32 (x : Nat), .int .i64 (n1 : Int)] W fun e w' => e = .returned (.int .u32 (rot32 x n1 : Nat)) ∧ w' = W) := fun W => hRight x n1 hx h1.1 h1.2 W
  have J2 : Hid (∀ W, Calls Tryd.prog 59 #[.int .u32 (x : Nat), .int .i64 (n2 : Int)] W fun e w' => e = .returned (.int .u32 (rot32 x n2 : Nat)) ∧ w' = W) := fun W => hRight x n2 hx h2.1 h2.2 W
  have J3 : Hid (∀ W, Calls Tryd.prog 59 #[.int .u32 (x : Nat), .int .i64 (n3 : Int)] W fun e w' => e = .returned (.int .u32 (rot32 x n3 : Nat)) ∧ w' = W) := fun W => hRight x n3 hx h3.1 h3.2 W
  generalize rot32 x n1 = r1 at *
  generalize rot32 x n2 = r2 at *
  generalize rot32 x n3 = r3 at *
  clear h1 h2 h3
  go_enter Tryd.func58, Tryd.ntmps58
  go_wp2_with fail
  go_region_held3 (fun w' => w'.cell? ⟨b, 0, none⟩ = some (.int .i64 (n1 : Int)) ∧ w'.cell? ⟨b + 1, 0, none⟩ = some (.int .i64 (n2 : Int)) ∧ w'.cell? ⟨b + 1 + 1, 0, none⟩ = some (.int .i64 (n3 : Int)))
    (((try dsimp only); (repeat' apply And.intro) <;> first | (go_keep; done) | assumption))
    (first
    | (go_at_call_of 59 (Value.int IntKind.i64 (n1 : Int)); refine (J1.out _).mono ?_; rintro e w9 ⟨rfl, rfl⟩)
    | (go_at_call_of 59 (Value.int IntKind.i64 (n2 : Int)); refine (J2.out _).mono ?_; rintro e w9 ⟨rfl, rfl⟩)
    | (go_at_call_of 59 (Value.int IntKind.i64 (n3 : Int)); refine (J3.out _).mono ?_; rintro e w9 ⟨rfl, rfl⟩))
  all_goals
    go_wp2_with fail
    go_ret
    exact ⟨rfl, (Kept.refl _ _).drew⟩

end Go.Proofs.YthnkganmccgaeaaDoor
