/- Package ring: sum, difference, half. -/
import Derived.Test.YtiljkgoafknefaaGreatMon5
import Derived.Test.YtiljkgoafknefaaGreatLimH
import Derived.Test.YtiljkgoafknefaaGreatRef7C
namespace Go.Proofs.YtiljkgoafknefaaGreat
open Go.RowKit

theorem one_le (b : Bool) : oneN b ≤ 1 := by unfold oneN; split <;> omega

theorem digs_cong {a b n : Nat} (h : a % 18446744073709551616 ^ n = b % 18446744073709551616 ^ n) : digs 18446744073709551616 a n = digs 18446744073709551616 b n :=
  digs_val (by omega) (digs_digs (by omega) _ _) (digs_length _ _ _) (by rw [val_digs]; exact h)

theorem sum_num {X Z V n : Nat} (hX : X < V) (hZ : Z < V) (hV : V < 18446744073709551616 ^ n) : lesY ((X + Z) % 18446744073709551616 ^ n) V (oneN (decide (2 ^ (64 * n) ≤ X + Z))) n = (X + Z) % V := by
  have hP : 0 < 18446744073709551616 ^ n := Nat.pow_pos (by omega)
  rw [← B64]
  have e : (X + Z) % 18446744073709551616 ^ n + 18446744073709551616 ^ n * oneN (decide (18446744073709551616 ^ n ≤ X + Z)) = X + Z := by
    generalize 18446744073709551616 ^ n = P at *
    unfold oneN
    by_cases h : P ≤ X + Z
    · rw [decide_eq_true h, if_pos rfl, Nat.mod_eq_sub_mod h, Nat.mod_eq_of_lt (by omega)]
      omega
    · rw [decide_eq_false h, if_neg (by decide), Nat.mod_eq_of_lt (by omega)]
      omega
  rw [les_ok (Nat.mod_lt _ hP) hV (one_le _) (by rw [e]; omega), e]

theorem sub_num {X Z V n : Nat} (_ : X < V) (hZ : Z < V) (hV : V < 18446744073709551616 ^ n) : digs 18446744073709551616 (selN (oneN (decide (X < Z))) (subN X Z n % 18446744073709551616 ^ n + V) (subN X Z n % 18446744073709551616 ^ n)) n = digs 18446744073709551616 (subM X Z V) n := by
  apply digs_cong
  unfold subN subM selN oneN
  rw [← B64]
  generalize 18446744073709551616 ^ n = P at *
  by_cases h : X < Z
  · rw [decide_eq_true h, if_pos rfl, if_pos rfl, if_pos h, if_neg (by omega), Nat.mod_eq_of_lt (show X + P - Z < P by omega), show X + P - Z + V = X + V - Z + P by omega, Nat.add_mod_right]
  · rw [if_neg h, if_pos (show Z ≤ X by omega)]
    simp [h]

theorem half_num {X V n : Nat} (hX : X < V) (hV : V < 18446744073709551616 ^ n) :
    ((selN (X % 2) (X + V) X % 18446744073709551616 ^ n + selN (X % 2) (oneN (decide (2 ^ (64 * n) ≤ X + V))) 0 % 2 * 18446744073709551616 ^ n) / 2) = halfM X V := by
  unfold halfM selN oneN
  rw [← B64]
  generalize 18446744073709551616 ^ n = P at *
  congr 1
  rcases (show X % 2 = 0 ∨ X % 2 = 1 by omega) with h | h
  · have e1 : ¬ X % 2 % 2 = 1 := by omega
    have e2 : ¬ X % 2 = 1 := by omega
    rw [if_neg e1, if_neg e1, if_neg e2, Nat.mod_eq_of_lt (by omega)]
    omega
  · have e1 : X % 2 % 2 = 1 := by omega
    rw [if_pos e1, if_pos e1, if_pos h]
    by_cases h2 : P ≤ X + V
    · rw [decide_eq_true h2, if_pos rfl, Nat.mod_eq_sub_mod h2, Nat.mod_eq_of_lt (by omega)]
      omega
    · rw [decide_eq_false h2, if_neg (by decide), Nat.mod_eq_of_lt (by omega)]
      omega

theorem half_lt {X V : Nat} (hX : X < V) : halfM X V < V := by
  unfold halfM
  split <;> omega

theorem half_dbl {X V : Nat} (hX : X < V) (hV : V % 2 = 1) : (halfM X V + halfM X V) % V = X := by
  unfold halfM
  by_cases h : X % 2 = 1
  · rw [if_pos h, show (X + V) / 2 + (X + V) / 2 = X + V by omega, Nat.add_mod_right, Nat.mod_eq_of_lt hX]
  · rw [if_neg h, show X / 2 + X / 2 = X by omega, Nat.mod_eq_of_lt hX]

theorem subM_lt {X Z V : Nat} (hX : X < V) (hZ : Z < V) : subM X Z V < V := by
  unfold subM
  split <;> omega

set_option maxRecDepth 20000 in
set_option maxHeartbeats 2000000 in
/-- difference: the first number may have no words. -/
theorem gDiff (o : Tr) (ao bo xo yo : Option Addr) (n n1 mcap rl rcap xc yc : Nat) (K : Int) (xs ys ms : List Nat) (w : World) (ht : TrRoom w o 2) (hx : RowT w o (.slice xo n1 xc) xs) (hy : RowT w o (.slice yo n yc) ys) (hm : RowT w o (.slice ao n mcap) ms) (hdx : Digs 18446744073709551616 xs) (hdy : Digs 18446744073709551616 ys) (hdm : Digs 18446744073709551616 ms) (hn : n ≤ 100000) (hn1 : n1 ≤ n) :
    Calls Tryz.prog 155 #[trPtr o, .agg #[.slice ao n mcap, .int .u64 K, .slice bo rl rcap], .slice xo n1 xc, .slice yo n yc] w fun e w' => ∃ v', e = .returned v' ∧ Done w o (List.replicate 2 (1, (n : Int), 0)) n (fun Y => val 18446744073709551616 xs < val 18446744073709551616 ms → val 18446744073709551616 ys < val 18446744073709551616 ms → digs 18446744073709551616 Y n = digs 18446744073709551616 (subM (val 18446744073709551616 xs) (val 18446744073709551616 ys) (val 18446744073709551616 ms)) n) w' v' := by
  obtain ⟨_, _, _, e1, hLx, _, _, _, _⟩ := hx.1.open
  cases e1
  obtain ⟨_, _, _, e1, hLy, _, _, _, _⟩ := hy.1.open
  cases e1
  obtain ⟨_, _, _, e1, hLm, _, _, _, _⟩ := hm.1.open
  cases e1
  have hVn : val 18446744073709551616 ms < 18446744073709551616 ^ n := by rw [← hLm.out]; exact val_lt (by omega) hdm
  have k0 : Kept Nought w (w.alloc (.cells #[.slice ao n mcap, .int .u64 K, .slice bo rl rcap] 90)) := (Kept.refl Nought w).alloc _
  have hx0 : (w.alloc (.cells #[.slice ao n mcap, .int .u64 K, .slice bo rl rcap] 90)).heap[w.heap.size]? = some (.cells #[.slice ao n mcap, .int .u64 K, .slice bo rl rcap] 90 (0, 0)) := heap_alloc_new _ _
  obtain ⟨X, hX⟩ : ∃ X, X = val 18446744073709551616 xs := ⟨_, rfl⟩
  obtain ⟨Z, hZ⟩ : ∃ Z, Z = val 18446744073709551616 ys := ⟨_, rfl⟩
  obtain ⟨V, hV⟩ : ∃ V, V = val 18446744073709551616 ms := ⟨_, rfl⟩
  rw [← hX, ← hZ, ← hV]
  rw [← hV] at hVn
  have hSu := lSub o _ _ xs ys _ ((ht.less (by omega)).grew k0) (hx.grew k0) (hy.grew k0) hdx hdy (by rw [hLx.out]; omega) (by rw [hLy.out]; omega)
  rw [hLx.out, hLy.out, Nat.max_eq_right hn1, ← hX, ← hZ] at hSu
  have HN := toHid (fun h1 h2 => sub_num (X := X) (Z := Z) (V := V) (n := n) h1 h2 hVn)
  obtain ⟨c, hc⟩ : ∃ c, c = oneN (decide (X < Z)) := ⟨_, rfl⟩
  have hc1 : c ≤ 1 := by rw [hc]; exact one_le _
  rw [← hc] at hSu HN
  have HAd : Hid (∀ (W : World) (o1 : Tr) (m1 : List Ev) (v1 : Value), Did w o m1 W o1 → m1.length = 1 → RowT W o1 v1 (digs 18446744073709551616 (subN X Z n) n) → Calls Tryz.prog 166 #[trPtr o, .int .u64 (c : Nat), v1, .slice ao n mcap] W fun e w' => ∃ v' c', e = .returned (.tuple #[v', .int .u64 c']) ∧ OwnN .u64 24 w' W.heap.size v' n (digs 18446744073709551616 (selN c (subN X Z n % 18446744073709551616 ^ n + V) (subN X Z n % 18446744073709551616 ^ n)) n) ∧ ∃ o', Did W o1 [(1, (n : Nat), 0)] w' o') := fun W o1 m1 v1 d hl hr => by
    have := lAddIf o1 c (by omega) v1 _ _ ms W (d.room (by rw [hl]; exact ht.less (by omega))) hr (hm.did d) (digs_digs (by omega) _ _) hdm (by rw [digs_length]; omega) (by rw [hLm.out]; omega)
    rw [digs_length, hLm.out, Nat.max_self, val_digs, ← hV, d.ptr] at this
    refine this.mono ?_
    rintro e w' ⟨v', rfl, h1, h2⟩
    exact ⟨v', _, rfl, h1, h2⟩
  have HT := toHid ht.1
  have HTR := toHid ht
  obtain ⟨po, hpo⟩ := trPtr_shape o
  rw [hpo] at hSu HAd ⊢
  have K0 := toHid k0
  clear hm hx hy ht hLx hLy hLm hdx hdy hdm k0 hX hZ hV hVn hc hpo hn1
  obtain ⟨p0, p1, p2⟩ := cells3 hx0
  go_enter Tryz.func155, Tryz.ntmps155
  go_wp2_with fail
  refine hSu.mono ?_
  rintro e w1 ⟨v1, rfl, ho1, o1, d1⟩
  have d01 := Did.after K0.out d1
  have hx1 := (d1.kept.block _ (lt_of_block hx0) (cells_apart hx0 (HT.out.grew K0.out) (by decide) (by decide))).trans hx0
  have ti1 := (d01.room (k := 0) (HTR.out.less (by simp))).1
  have hr1 := own_rowT ho1 (digs_length _ _ _) ti1
  obtain ⟨q0, q1, q2⟩ := cells3 hx1
  have hS1 := HAd.out w1 o1 _ v1 d01 rfl hr1
  clear hSu p0 p1 p2 hx0
  go_wp2_with fail
  refine hS1.mono ?_
  rintro e w2 ⟨v2, c2, rfl, ho2, o2, d2⟩
  go_wp2_with fail
  go_ret
  refine ⟨_, rfl, _, o2, own_base ho2 (fun b hb => ?_), (fun h1 h2 => HN.out h1 h2), d01.trans d2⟩
  have := (ho2.lt b hb).1
  have := d01.size
  omega

end Go.Proofs.YtiljkgoafknefaaGreat
