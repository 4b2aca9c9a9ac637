/- Package mont: Mul. -/
import Derived.Test.YtpgccioblgcjaaaMonO
namespace Go.Proofs.Ytpgccioblgcjaaa
open Go.RowKit

/-- What a modulus that is one has. -/
theorem okMod.facts {ms rs : List Nat} {K n l : Nat} (h : okMod ms K rs) (hn : ms.length = n) (hl : rs.length = l) (hmd : Digs 18446744073709551616 ms) (hrd : Digs 18446744073709551616 rs) (hK : K < 18446744073709551616) :
    (val 18446744073709551616 ms * K + 1) % 18446744073709551616 = 0 ∧ 0 < n ∧ n ≤ 130 ∧ l = n ∧ val 18446744073709551616 ms % 2 = 1 ∧ val 18446744073709551616 ms < 18446744073709551616 ^ n ∧ val 18446744073709551616 rs = 18446744073709551616 ^ (2 * n) % val 18446744073709551616 ms := by
  obtain ⟨h1, h2, h3, h4⟩ := (chk_iff hn hl hmd hrd hK).1 h
  have hVn : val 18446744073709551616 ms < 18446744073709551616 ^ n := by rw [← hn]; exact val_lt (by omega) hmd
  obtain ⟨V, hV⟩ : ∃ V, V = val 18446744073709551616 ms := ⟨_, rfl⟩
  rw [← hV] at h1 h2 h4 hVn ⊢
  have m := montE_ok h.1
  rw [← hV] at m
  unfold prepN at h4
  by_cases h5 : (V * K + 1) % 18446744073709551616 = 0 ∧ val 18446744073709551616 rs = 18446744073709551616 ^ (2 * n) % V
  · refine ⟨h5.1, ?_, by omega, h3, m.2.2, hVn, h5.2⟩
    rcases Nat.eq_zero_or_pos n with h0 | h0
    · rw [h0, Nat.pow_zero] at hVn
      omega
    · exact h0
  · rw [if_neg h5] at h4
    omega

/-- The events of times. -/
def timesEvs (n : Nat) : List Ev := List.replicate n (1, (n : Int), 0) ++ List.replicate (n + 2) (1, (n : Int), 0)

theorem Reduced.done {W : World} {o : Tr} {m : List Ev} {n K X V : Nat} {w' : World} {v' : Value} {G : Nat → Prop} (h : Reduced W o m n K X V w' v') (hG : ∀ Y, ((V * K + 1) % 18446744073709551616 = 0 → 0 < n → X < V * 18446744073709551616 ^ n → Y < V ∧ 18446744073709551616 ^ n * Y % V = X % V) → G Y) : Done W o (m ++ List.replicate (n + 2) (1, (n : Int), 0)) n G w' v' := by
  obtain ⟨Y, o', h1, h2, h3⟩ := h
  exact ⟨Y, o', h1, hG Y h2, h3⟩

/-- The product's place, whatever the numbers are. -/
def MulG (n V X Z : Nat) (Y : Nat) : Prop := Y < V ∧ 2 ^ (64 * n) * Y % V = (X * Z) % V

set_option maxRecDepth 20000 in
set_option maxHeartbeats 4000000 in
/-- What Mul asks for. -/
theorem mMul1 (o : Tr) (ao bo xo yo : Option Addr) (n l K mcap rcap N1 N2 xc yc bT bM bA bB : Nat) (ms rs xs ys : List Nat) (w : World)
    (ht : TrRoom w o 1000) (hm : RowT w o (.slice ao n mcap) ms) (hx : RowT w o (.slice xo N1 xc) xs) (hy : RowT w o (.slice yo N2 yc) ys) (hmd : Digs 18446744073709551616 ms) (hrd : Digs 18446744073709551616 rs) (hdx : Digs 18446744073709551616 xs) (hdy : Digs 18446744073709551616 ys) (hrl : rs.length = l) (hK : K < 18446744073709551616) (hn : n ≤ 130)
    (hT : Box w bT (trPtr o) 54) (hM : w.heap[bM]? = some (.cells #[.slice ao n mcap, .int .u64 (K : Nat), .slice bo l rcap] 28 (0, 0))) (hA : Box w bA (.slice xo N1 xc) 23) (hB : Box w bB (.slice yo N2 yc) 23) :
    Calls Try.prog 49 #[.int .i64 (n : Int), .pointer (some ⟨bT, 0, none⟩), .pointer (some ⟨bM, 0, none⟩), .pointer (some ⟨bA, 0, none⟩), .pointer (some ⟨bB, 0, none⟩)] w fun e w' => ∃ v', e = .returned v' ∧
      Done w o (timesEvs n) n (fun Y => okMod ms K rs → (N1 = n ∧ val 18446744073709551616 xs < val 18446744073709551616 ms) → (N2 = n ∧ val 18446744073709551616 ys < val 18446744073709551616 ms) → MulG n (val 18446744073709551616 ms) (val 18446744073709551616 xs) (val 18446744073709551616 ys) Y) w' v' := by
  obtain ⟨_, _, _, e1, hLm, _, _, _, _⟩ := hm.1.open
  cases e1
  obtain ⟨po, hpo⟩ := trPtr_shape o
  have hti := ht.1
  have JC : Hid (∀ W m o', Did w o m W o' → W.cell? ⟨bT, 0, none⟩ = some (.pointer po) ∧ W.cell? ⟨bA, 0, none⟩ = some (.slice xo N1 xc) ∧ W.cell? ⟨bB, 0, none⟩ = some (.slice yo N2 yc) ∧ W.cell? ⟨bM, 0, none⟩ = some (.slice ao n mcap) ∧ W.cell? ⟨bM, 1, none⟩ = some (.int .u64 (K : Nat)) ∧ W.cell? ⟨bM, 2, none⟩ = some (.slice bo l rcap)) := fun W m o' d => by
    rw [← hpo]
    exact ⟨(hT.did d hti (by decide) (by decide)).cell, (hA.did d hti (by decide) (by decide)).cell, (hB.did d hti (by decide) (by decide)).cell, cells3 ((d.kept.block _ (lt_of_block hM) (cells_apart hM hti (by decide) (by decide))).trans hM)⟩
  have JF : Hid (∀ W (zo : Option Addr) (z zc : Nat) (zs : List Nat), Kept Nought w W → RowT w o (.slice zo z zc) zs → Digs 18446744073709551616 zs → Calls Try.prog 51 #[.slice zo z zc, .int .i64 (n : Int)] W fun e w' => ∃ g, e = .returned (.slice (some ⟨g, 0, none⟩) n n) ∧ Kept Nought W w' ∧ RowT w' o (.slice (some ⟨g, 0, none⟩) n n) (digs 18446744073709551616 (val 18446744073709551616 zs) n)) := fun W zo z zc zs k hz hdz => by
    refine (mFit (.slice zo z zc) zs n W (hz.1.grew k) hdz (by omega)).mono ?_
    rintro e w' ⟨rfl, ho, k'⟩
    exact ⟨_, rfl, k', own_rowT ho (digs_length _ _ _) (ht.grew (k.trans k')).1⟩
  have JX : Hid (∀ W, Kept Nought w W → Calls Try.prog 51 #[.slice xo N1 xc, .int .i64 (n : Int)] W fun e w' => ∃ g, e = .returned (.slice (some ⟨g, 0, none⟩) n n) ∧ Kept Nought W w' ∧ RowT w' o (.slice (some ⟨g, 0, none⟩) n n) (digs 18446744073709551616 (val 18446744073709551616 xs) n)) := fun W k => JF.out W _ _ _ _ k hx hdx
  have JY : Hid (∀ W, Kept Nought w W → Calls Try.prog 51 #[.slice yo N2 yc, .int .i64 (n : Int)] W fun e w' => ∃ g, e = .returned (.slice (some ⟨g, 0, none⟩) n n) ∧ Kept Nought W w' ∧ RowT w' o (.slice (some ⟨g, 0, none⟩) n n) (digs 18446744073709551616 (val 18446744073709551616 ys) n)) := fun W k => JF.out W _ _ _ _ k hy hdy
  have JT : Hid (∀ W g h, Kept Nought w W → RowT W o (.slice (some ⟨g, 0, none⟩) n n) (digs 18446744073709551616 (val 18446744073709551616 xs) n) → RowT W o (.slice (some ⟨h, 0, none⟩) n n) (digs 18446744073709551616 (val 18446744073709551616 ys) n) → Calls Try.prog 50 #[.pointer po, .agg #[.slice ao n mcap, .int .u64 (K : Nat), .slice bo l rcap], .slice (some ⟨g, 0, none⟩) n n, .slice (some ⟨h, 0, none⟩) n n] W fun e w' => ∃ v', e = .returned v' ∧ Done w o (timesEvs n) n (fun Y => okMod ms K rs → (N1 = n ∧ val 18446744073709551616 xs < val 18446744073709551616 ms) → (N2 = n ∧ val 18446744073709551616 ys < val 18446744073709551616 ms) → MulG n (val 18446744073709551616 ms) (val 18446744073709551616 xs) (val 18446744073709551616 ys) Y) w' v') := fun W g h k hg hh => by
    have := mTimes o n K mcap l rcap n n ao bo _ _ _ _ ms W (ht.grew k) hg hh (hm.grew k) (digs_digs (by omega) _ _) (digs_digs (by omega) _ _) hmd hn
    rw [hpo] at this
    refine this.mono ?_
    rintro e w' ⟨v', rfl, hR⟩
    refine ⟨v', rfl, ?_⟩
    obtain ⟨Y, o', h1, h2, h3⟩ := hR.done (G := fun Y => okMod ms K rs → (N1 = n ∧ val 18446744073709551616 xs < val 18446744073709551616 ms) → (N2 = n ∧ val 18446744073709551616 ys < val 18446744073709551616 ms) → MulG n (val 18446744073709551616 ms) (val 18446744073709551616 xs) (val 18446744073709551616 ys) Y) (fun Y hY hok h1 h2 => by
      obtain ⟨f1, f2, f3, f4, f5, f6, f7⟩ := hok.facts hLm.out hrl hmd hrd hK
      rw [val_digs, val_digs, Nat.mod_eq_of_lt (Nat.lt_trans h1.2 f6), Nat.mod_eq_of_lt (Nat.lt_trans h2.2 f6)] at hY
      have := hY f1 f2 (Nat.mul_lt_mul_of_lt_of_le h1.2 (Nat.le_of_lt (Nat.lt_trans h2.2 f6)) (Nat.pow_pos (by omega)))
      rw [B64] at this
      exact this)
    exact ⟨Y, o', own_base h1 (fun b hb => Nat.le_trans k.size (h1.lt b hb).1), h2, Did.after k h3⟩
  have h0 := Did.of_kept (Kept.refl Nought w) hti
  obtain ⟨c0, c1, c2, c3, c4, c5⟩ := JC.out _ _ _ h0
  have HTI := toHid hti
  have JD : Hid (∀ (W : World) (v' : Value) (G : Nat → Prop), Done w o (timesEvs n) n G W v' → ∃ m o', Did w o m W o') := fun W v' G h => by
    obtain ⟨Y, o', _, _, d⟩ := h
    exact ⟨_, _, d⟩
  clear ht hm hx hy hmd hrd hdx hdy hrl hK hT hM hA hB hpo hti h0 JF hLm
  generalize (fun Y => okMod ms K rs → (N1 = n ∧ val 18446744073709551616 xs < val 18446744073709551616 ms) → (N2 = n ∧ val 18446744073709551616 ys < val 18446744073709551616 ms) → MulG n (val 18446744073709551616 ms) (val 18446744073709551616 xs) (val 18446744073709551616 ys) Y) = G at *
  generalize val 18446744073709551616 xs = X at *
  generalize val 18446744073709551616 ys = Z at *
  go_enter Try.func49, Try.ntmps49
  go_wp2_with fail
  go_region_held3 (fun w' => w'.cell? ⟨bT, 0, none⟩ = some (.pointer po) ∧ w'.cell? ⟨bA, 0, none⟩ = some (.slice xo N1 xc) ∧ w'.cell? ⟨bB, 0, none⟩ = some (.slice yo N2 yc) ∧ w'.cell? ⟨bM, 0, none⟩ = some (.slice ao n mcap) ∧ w'.cell? ⟨bM, 1, none⟩ = some (.int .u64 (K : Int)) ∧ w'.cell? ⟨bM, 2, none⟩ = some (.slice bo l rcap))
    (((try dsimp only); (repeat' apply And.intro) <;> first | (go_keep; done) | assumption))
    (first
    | (go_at_call_of 51 (Value.slice xo N1 xc); refine (JX.out _ ?_).mono ?_; (exact (Kept.refl _ _).drew); rintro e w2 ⟨g2, rfl, k2, r2⟩; obtain ⟨q0, q1, q2, q3, q4, q5⟩ := JC.out _ _ _ (Did.of_kept ((Kept.refl _ _).drew.trans k2) HTI.out))
    | (go_at_call_of 51 (Value.slice yo N2 yc); refine (JY.out _ ?_).mono ?_; (exact (Kept.refl _ _).drew.trans k2); rintro e w3 ⟨g3, rfl, k3, r3⟩; obtain ⟨s0, s1, s2, s3, s4, s5⟩ := JC.out _ _ _ (Did.of_kept ((Kept.refl _ _).drew.trans (k2.trans k3)) HTI.out))
    | (go_at_call 50; refine (JT.out _ g2 g3 ?_ ?_ ?_).mono ?_; (exact (Kept.refl _ _).drew.trans (k2.trans k3)); (exact r2.grew k3); (exact r3); rintro e w4 ⟨v4, rfl, hd4⟩; obtain ⟨m4, o4, d4⟩ := JD.out _ _ _ hd4; obtain ⟨t0, t1, t2, t3, t4, t5⟩ := JC.out _ _ _ d4))
  all_goals
    go_wp2_with fail
    go_ret
    exact ⟨_, rfl, hd4⟩

end Go.Proofs.Ytpgccioblgcjaaa
