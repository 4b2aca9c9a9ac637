/- What the statements' comparison of bytes and the plain Get answer. -/
import Derived.Test.YtaddnmnnpnkahaaRPut
import Derived.Laws.BytesArg
namespace Go.Proofs.Ytaddnmnnpnkahaa
open Go.RowKit

set_option maxHeartbeats 400000 in
/-- Rows that hold the same bytes are the same. -/
theorem same_eq (zs : List Int) (n b1 o1 c1 b2 o2 c2 : Nat) (hn : zs.length = n) (w : World)
    (h1 : ∀ i, i < n → w.cell? ⟨b1, o1 + i, none⟩ = some (.int .u8 (zs.getD i 0))) (h2 : ∀ i, i < n → w.cell? ⟨b2, o2 + i, none⟩ = some (.int .u8 (zs.getD i 0))) :
    Calls Try.prog 26 #[.slice (some ⟨b1, o1, none⟩) n c1, .slice (some ⟨b2, o2, none⟩) n c2] w fun e w' => e = .returned (.bool true) ∧ w' = w := by
  have k1 := run_convert_bytes_arg (P := Try.prog) w 35 5 Try.underlying35 Try.underlying5 b1 o1 n c1 zs hn h1 9 Try.underlying9
  have k2 := run_convert_bytes_arg (P := Try.prog) w 35 5 Try.underlying35 Try.underlying5 b2 o2 n c2 zs hn h2 9 Try.underlying9
  generalize strOfNums zs = s at k1 k2
  clear h1 h2 hn
  go_enter Try.func26, Try.ntmps26
  go_wp2
  go_ret
  exact ⟨rfl, rfl⟩

set_option maxHeartbeats 400000 in
/-- The plain Get. -/
theorem rGet (a : Option Addr) (len cap : Nat) (zs : List Int) (hm : len ≤ 9223372036854775807) (hz : AreBytes zs) (w : World) (hr : ReadsRow w a len zs) :
    Calls Try.prog 30 #[.slice a len cap] w fun e w' => e = .returned (.int .u64 (getN zs (min len 8))) ∧ w' = w := by
  have HR : Hid (ReadsRow w a len zs) := hr
  clear hr
  obtain ⟨n, hn⟩ : ∃ n : Nat, min len 8 = n := ⟨_, rfl⟩
  rw [hn]
  have HN : Hid (min len 8 = n) := hn
  have n1 : n ≤ len := by omega
  have n2 : n ≤ 8 := by omega
  clear hn
  go_enter Try.func30, Try.ntmps30
  go_wp2_with fail
  go_loop [3, 4] (fun x i => ∃ k : Nat, k ≤ n ∧ i = .int .i64 (k : Int) ∧ x = .int .u64 (getN zs k)) (fun _ i => ((n : Int) - intOf i).toNat)
  case atStart => exact ⟨0, by omega, rfl, rfl⟩
  case round =>
    obtain ⟨k, hk, rfl, rfl⟩ := hrel
    by_cases hp : k < n
    · obtain ⟨b, off, rfl, hc⟩ := HR.out k (by omega)
      obtain ⟨b0, b1⟩ := hz k
      obtain ⟨g0, g1⟩ := getN_lt zs hz k (by omega)
      have hs : Hid (getN zs (k + 1) = getN zs k * 256 + zs.getD k 0) := rfl
      generalize zs.getD k 0 = z at *
      have hor := or_byte (getN zs k) z g0 g1 b0 b1
      have t1 : decide ((k : Int) < len) = true := by simp; omega
      have t2 : decide ((k : Int) < 8) = true := by simp; omega
      go_wp2_with fail
      go_round
      case rel => exact ⟨k + 1, by omega, by go_num, by rw [hs.out]⟩
      case measure => simp [intOf]; omega
    · obtain rfl : k = n := by omega
      have hmin := HN.out
      by_cases hl : k < len
      · have t1 : decide ((k : Int) < len) = true := by simp; omega
        have t2 : decide ((k : Int) < 8) = false := by simp; omega
        clear hmin
        go_wp2_with fail
        go_ret
        exact ⟨rfl, rfl⟩
      · have t1 : decide ((k : Int) < len) = false := by simp; omega
        clear hmin
        go_wp2_with fail
        go_ret
        exact ⟨rfl, rfl⟩
end Go.Proofs.Ytaddnmnnpnkahaa
