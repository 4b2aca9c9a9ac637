/- Melted of: MonE MonF MonG. -/
import Derived.Test.YtcjaafmlflonhaaDoorPro2
import Derived.Test.YtcjaafmlflonhaaDoorBase4
import Derived.Test.YtcjaafmlflonhaaDoorMon2
import Derived.Test.YtcjaafmlflonhaaDoorRef6m

/- Package mont: attempt, refuse, needs, refuseNumber. -/
namespace Go.Proofs.YtcjaafmlflonhaaDoor
open Go.RowKit

theorem needs_words (V : Nat) : (blen V + 63) / 64 = wordsN V := by
  unfold blen wordsN
  by_cases h : V = 0
  · rw [if_pos h, if_pos h]
  · rw [if_neg h, if_neg h]
    omega

/-- What a number is refused with. -/
def rfn (L V : Nat) : Nat := if 130 < L then 2 else if V < 2 then 1 else if V % 2 = 0 then 60 else 0

end Go.Proofs.YtcjaafmlflonhaaDoor

/- Package mont: isPrepared. -/
namespace Go.Proofs.YtcjaafmlflonhaaDoor
open Go.RowKit

theorem want_list (N : Nat) : (List.replicate (N + 1) 0).set N 1 = List.replicate N 0 ++ [1] := by
  rw [List.replicate_succ', List.set_append_right _ _ (by simp)]
  simp

theorem want_val (N : Nat) : val 18446744073709551616 (List.replicate N 0 ++ [1]) = 18446744073709551616 ^ N := by
  rw [val_snoc, val_zeros _ (fun d hd => (List.mem_replicate.1 hd).2), List.length_replicate]
  omega

theorem want_digs (N : Nat) : Digs 18446744073709551616 (List.replicate N 0 ++ [1]) := fun d hd => by
  rw [List.mem_append, List.mem_replicate, List.mem_singleton] at hd
  omega

/-- What isPrepared says. -/
def prepN (V K R n : Nat) : Nat := if (V * K + 1) % 18446744073709551616 = 0 ∧ R = 18446744073709551616 ^ (2 * n) % V then 1 else 0

theorem and_bits (a b : Bool) : bits .and .u64 ((oneN a : Nat) : Int) ((oneN b : Nat) : Int) = ((oneN (a && b) : Nat) : Int) := by
  cases a <;> cases b <;> decide

theorem zer_bits (x : Nat) : zer (x : Int) = ((oneN (decide (x = 0)) : Nat) : Int) := by
  unfold zer oneN
  by_cases h : x = 0
  · rw [if_pos (by omega), decide_eq_true h, if_pos rfl]
    rfl
  · rw [if_neg (by omega), decide_eq_false h, if_neg (by decide)]
    rfl

/-- The three tests come to what isPrepared says. -/
theorem prep_bits {V K R n Q A c : Nat} (hn : 0 < n) (hV : V < 18446744073709551616 ^ n) (hV1 : 18446744073709551616 ^ (n - 1) < V) (hodd : V % 2 = 1) (hv : A + 18446744073709551616 ^ (n + (n + 1)) * c = R + V * Q) (hQ : Q < 18446744073709551616 ^ (n + 1)) (hlow : (V * K + 1) % 18446744073709551616 = 0 → 0 < n → A % 18446744073709551616 ^ (n + 1) = 0) :
    oneN (decide ((V * K + 1) % 18446744073709551616 = 0) && decide (R < V) && decide (A = 18446744073709551616 ^ (2 * n))) = prepN V K R n := by
  unfold prepN oneN
  have hV0 : 0 < V := by omega
  by_cases h1 : (V * K + 1) % 18446744073709551616 = 0
  · by_cases h2 : R < V
    · have hco : Nat.Coprime V (18446744073709551616 ^ (n + 1)) := by rw [B64]; exact odd_coprime hodd
      obtain ⟨n', rfl⟩ : ∃ n', n = n' + 1 := ⟨n - 1, by omega⟩
      have hW : 18446744073709551616 ^ (2 * (n' + 1)) % 18446744073709551616 ^ (n' + 1 + 1) = 0 := by
        rw [show 2 * (n' + 1) = (n' + 1 + 1) + n' by omega, Nat.pow_add]
        exact Nat.mul_mod_right _ _
      have hWV : 18446744073709551616 ^ (2 * (n' + 1)) / V < 18446744073709551616 ^ (n' + 1 + 1) := by
        rw [Nat.div_lt_iff_lt_mul hV0]
        rw [Nat.add_sub_cancel] at hV1
        have h3 : 18446744073709551616 ^ (n' + 1 + 1) * 18446744073709551616 ^ n' < 18446744073709551616 ^ (n' + 1 + 1) * V := Nat.mul_lt_mul_of_pos_left hV1 (Nat.pow_pos (by omega))
        rw [← Nat.pow_add, show n' + 1 + 1 + n' = 2 * (n' + 1) by omega] at h3
        exact h3
      have hE : V * 18446744073709551616 ^ (n' + 1 + 1) ≤ 18446744073709551616 ^ (n' + 1 + (n' + 1 + 1)) := by
        rw [Nat.pow_add _ (n' + 1) (n' + 1 + 1)]
        exact Nat.mul_le_mul_right _ (Nat.le_of_lt hV)
      have key := prep_num h2 hQ hE hv (hlow h1 hn) hco hW hWV
      by_cases h3 : A = 18446744073709551616 ^ (2 * (n' + 1))
      · rw [decide_eq_true h1, decide_eq_true h2, decide_eq_true h3, if_pos (by decide), if_pos ⟨h1, key.1 h3⟩]
      · rw [decide_eq_true h1, decide_eq_true h2, decide_eq_false h3, if_neg (by decide), if_neg (fun h => h3 (key.2 h.2))]
    · rw [decide_eq_true h1, decide_eq_false h2, if_neg (by simp), if_neg]
      rintro ⟨_, h3⟩
      apply h2
      rw [h3]
      exact Nat.mod_lt _ hV0
  · rw [decide_eq_false h1, if_neg (by simp), if_neg (fun h => h1 h.1)]

end Go.Proofs.YtcjaafmlflonhaaDoor

/- Package mont: Check. -/
namespace Go.Proofs.YtcjaafmlflonhaaDoor
open Go.RowKit

/-- What Check tests is what a modulus should be. -/
theorem chk_iff {ms rs : List Nat} {K n l : Nat} (hn : ms.length = n) (hl : rs.length = l) (hmd : Digs 18446744073709551616 ms) (hrd : Digs 18446744073709551616 rs) (hK : K < 18446744073709551616) :
    okMod ms K rs ↔ (rfn n (val 18446744073709551616 ms) = 0 ∧ wordsN (val 18446744073709551616 ms) = n ∧ l = n ∧ prepN (val 18446744073709551616 ms) K (val 18446744073709551616 rs) n = 1) := by
  have hVn : val 18446744073709551616 ms < 18446744073709551616 ^ n := by rw [← hn]; exact val_lt (by omega) hmd
  have hB2 : 18446744073709551616 ^ (2 * n) = 2 ^ (128 * n) := by rw [B64]; congr 1; omega
  obtain ⟨V, hV⟩ : ∃ V, V = val 18446744073709551616 ms := ⟨_, rfl⟩
  unfold okMod rfn prepN
  rw [← hV] at hVn ⊢
  constructor
  · rintro ⟨h1, h2, h3, h4⟩
    obtain ⟨m1, m2, m3⟩ := montE_ok h1
    unfold modM at h2
    unfold modR at h4
    rw [if_pos h1] at h2 h4
    have hw : wordsN V = n := by rw [← hn, ← h2, digs_length]
    rw [hw] at h4 m1
    refine ⟨?_, hw, by rw [← hl, ← h4, digs_length], ?_⟩
    · rw [if_neg (by omega), if_neg (by omega), if_neg (by omega)]
    · rw [if_pos]
      refine ⟨h3.2.1 h1, ?_⟩
      rw [← h4, val_digs, hB2, Nat.mod_eq_of_lt (Nat.lt_trans (Nat.mod_lt _ (by omega)) hVn)]
  · rintro ⟨h1, h2, h3, h4⟩
    have g1 : ¬ 130 < n := fun h => by rw [if_pos h] at h1; omega
    rw [if_neg g1] at h1
    have g2 : ¬ V < 2 := fun h => by rw [if_pos h] at h1; omega
    rw [if_neg g2] at h1
    have g3 : ¬ V % 2 = 0 := fun h => by rw [if_pos h] at h1; omega
    have hE : montE V = 0 := by
      unfold montE
      rw [h2, if_neg g1, if_neg g2, if_neg g3]
    by_cases h5 : (V * K + 1) % 18446744073709551616 = 0 ∧ val 18446744073709551616 rs = 18446744073709551616 ^ (2 * n) % V
    · refine ⟨hE, ?_, ⟨hK, fun _ => h5.1, fun h => absurd hE h⟩, ?_⟩
      · unfold modM
        rw [if_pos hE, h2]
        exact (digs_val (by omega) hmd hn (by rw [← hV, Nat.mod_eq_of_lt hVn])).symm
      · unfold modR
        rw [if_pos hE, h2, ← hB2]
        exact (digs_val (by omega) hrd (hl.trans h3) (by rw [h5.2, Nat.mod_eq_of_lt (Nat.lt_trans (Nat.mod_lt _ (by omega)) hVn)])).symm
    · rw [if_neg h5] at h4
      omega

/-- A number that needs n words is above 2^(64 (n - 1)), if it is odd and not 1. -/
theorem above_top {V n : Nat} (h : wordsN V = n) (hn : 0 < n) (h2 : 2 ≤ V) (ho : V % 2 = 1) : 18446744073709551616 ^ (n - 1) < V := by
  have h1 : ¬ wordsN V ≤ n - 1 := by omega
  rw [wordsN_le] at h1
  rcases Nat.lt_or_ge (18446744073709551616 ^ (n - 1)) V with h3 | h3
  · exact h3
  · exfalso
    have e : V = 18446744073709551616 ^ (n - 1) := by omega
    rcases Nat.eq_zero_or_pos (n - 1) with h4 | h4
    · rw [h4, Nat.pow_zero] at e; omega
    · obtain ⟨k, hk⟩ : ∃ k, n - 1 = k + 1 := ⟨n - 1 - 1, by omega⟩
      rw [hk, Nat.pow_succ] at e
      omega

end Go.Proofs.YtcjaafmlflonhaaDoor
