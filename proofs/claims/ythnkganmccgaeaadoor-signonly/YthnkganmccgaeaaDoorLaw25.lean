/- Layer 25: what the landed functions must answer, as propositions (T: what the hashes' tables are in memory); awake. -/
import Derived.Test.YthnkganmccgaeaaDoorSgn1
namespace Go.Proofs.YthnkganmccgaeaaDoor
open Go.RowKit

/-- A fact of memory that stands while nothing old is written. -/
def Stands (T : World → Prop) : Prop := ∀ a b, T a → Kept Nought a b → T b

/-- Encode, landed. -/
def SEnc (T : World → Prop) : Prop := ∀ (h : Int) (mo : Option Addr) (M mc : Nat) (ms : List Nat) (k : Int) (w : World), T w → -9223372036854775808 ≤ h → h ≤ 9223372036854775807 → -9223372036854775808 ≤ k → k ≤ 9223372036854775807 → Row .u8 w (.slice mo M mc) ms → Digs 256 ms → M ≤ 10000 →
  Calls Tryd.prog 7 #[.int .i64 h, .slice mo M mc, .int .i64 k] w fun e w' => ∃ u, e = .returned (.tuple #[u, .int .i64 (siE h ms k : Nat)]) ∧ (Row .u8 w' u (siL h ms k) ∧ ∀ b, u.ownBlock = some b → w.heap.size ≤ b) ∧ Kept Nought w w'

/-- Verify, landed. -/
def SVer (T : World → Prop) : Prop := ∀ (h : Int) (mo : Option Addr) (M mc : Nat) (ms : List Nat) (eo : Option Addr) (L ec : Nat) (em : List Nat) (R : Bool) (w : World), R = decide (siE h ms (L : Int) = 0 ∧ siL h ms (L : Int) = em) → T w → -9223372036854775808 ≤ h → h ≤ 9223372036854775807 → Row .u8 w (.slice mo M mc) ms → Digs 256 ms → M ≤ 10000 → Row .u8 w (.slice eo L ec) em → Digs 256 em → L ≤ 10000 →
  Calls Tryd.prog 10 #[.int .i64 h, .slice mo M mc, .slice eo L ec] w fun e w' => e = .returned (.bool R) ∧ Kept Nought w w'

theorem si62 : (siE 1 [] 62 = 0 ∧ siE 1 [] 61 = 232) ∧ (siL 1 [] 62).length = 62 ∧ (siL 1 [] 62).getD 0 0 = 0 ∧ (siL 1 [] 62).getD 1 0 = 1 ∧ (siL 1 [] 62).getD 9 0 = 255 ∧ (siL 1 [] 62).getD 10 0 = 0 ∧ (siL 1 [] 62).getD 11 0 = 48 := by
  have hs : hszN 1 = 32 := by decide +kernel
  have hl : (siT 1 []).length = 51 := by
    unfold siT
    rw [List.length_append, preN_length (by omega), hshN_length, hs]
  have e0 : siE 1 [] 62 = 0 := by
    unfold siE
    rw [hl, hs]
    decide
  have e1 : siE 1 [] 61 = 232 := by
    unfold siE
    rw [hl, hs]
    decide
  have hp : ∃ q, preN 1 = 48 :: q := by
    unfold preN
    rw [if_neg (by omega)]
    exact ⟨_, rfl⟩
  obtain ⟨q, hq⟩ := hp
  have hL : siL 1 [] 62 = [0, 1, 255, 255, 255, 255, 255, 255, 255, 255, 0, 48] ++ (q ++ hshN 1 []) := by
    unfold siL
    rw [if_pos e0, hl]
    unfold siT
    rw [hq]
    rfl
  have hlen : (siL 1 [] 62).length = 62 := by
    unfold siL
    rw [if_pos e0, hl]
    simp [hl]
  refine ⟨⟨e0, e1⟩, hlen, ?_⟩
  rw [hL]
  simp

set_option maxRecDepth 20000 in
set_option maxHeartbeats 1000000 in
/-- awake. -/
theorem f25Awake {T : World → Prop} (hT : Stands T) (hE : SEnc T) (w : World) (ht : T w) : Calls Tryd.prog 6 #[] w fun r w' => r = .returned (.bool true) ∧ Kept Nought w w' := by
  obtain ⟨⟨e0, e1⟩, hlen, g0, g1, g9, g10, g11⟩ := si62
  have J1 := hE 1 none 0 0 [] 62 w ht (by omega) (by omega) (by omega) (by omega) (Row.nil _ _) (Digs.nil _) (by omega)
  rw [e0] at J1
  have HJ2 := toHid fun W (k : Kept Nought w W) => hE 1 none 0 0 [] 61 W (hT _ _ ht k) (by omega) (by omega) (by omega) (by omega) (Row.nil _ _) (Digs.nil _) (by omega)
  rw [e1] at HJ2
  generalize siL 1 [] 62 = SL at *
  clear hE e0 e1
  go_enter Tryd.func6, Tryd.ntmps6
  go_wp2_with fail
  refine J1.mono ?_
  rintro r w1 ⟨v1, rfl, ⟨r1, _⟩, k1⟩
  obtain ⟨ao, n1, c1, rfl, hL, _⟩ := r1.open
  obtain rfl : n1 = 62 := by rw [← hL.out, hlen]
  have HK1 := toHid k1
  have J2 := HJ2.out w1 HK1.out
  have HR1 := toHid r1
  clear J1 hL k1 r1
  go_wp2_with fail
  refine J2.mono ?_
  rintro r w2 ⟨v2, rfl, ⟨r2, _⟩, k2⟩
  obtain ⟨fo, n2, c2, rfl, _⟩ := r2.open
  obtain ⟨_, _, _, e9, _, _, _, _, hnum⟩ := (HR1.out.grew k2).open
  cases e9
  obtain ⟨b, off, rfl, q0⟩ := hnum 0 (by omega)
  obtain ⟨_, _, x1, q1⟩ := hnum 1 (by omega)
  cases x1
  obtain ⟨_, _, x9, q9⟩ := hnum 9 (by omega)
  cases x9
  obtain ⟨_, _, x10, q10⟩ := hnum 10 (by omega)
  cases x10
  obtain ⟨_, _, x11, q11⟩ := hnum 11 (by omega)
  cases x11
  rw [g0] at q0
  rw [g1] at q1
  rw [g9] at q9
  rw [g10] at q10
  rw [g11] at q11
  have q0' : w2.cell? ⟨b, off, none⟩ = some (.int .u8 0) := q0
  have q1' : w2.cell? ⟨b, off + 1, none⟩ = some (.int .u8 1) := q1
  have q9' : w2.cell? ⟨b, off + 9, none⟩ = some (.int .u8 255) := q9
  have q10' : w2.cell? ⟨b, off + 10, none⟩ = some (.int .u8 0) := q10
  have q11' : w2.cell? ⟨b, off + 11, none⟩ = some (.int .u8 48) := q11
  have HK2 := toHid (HK1.out.trans k2)
  clear J2 r2 k2 hnum q0 q1 q9 q10 q11 HR1 hlen g0 g1 g9 g10 g11
  go_wp2_with fail
  go_ret
  exact ⟨rfl, HK2.out⟩

end Go.Proofs.YthnkganmccgaeaaDoor
