/- Package mont: what Enter and Leave ask for. -/
import Derived.Test.YtpgccioblgcjaaaMonP
namespace Go.Proofs.Ytpgccioblgcjaaa
open Go.RowKit

/-- What goes in. -/
def EntG (n V X : Nat) (Y : Nat) : Prop := Y = 2 ^ (64 * n) * X % V

theorem ent_num {V n X Y : Nat} (hodd : V % 2 = 1) (hY : Y < V) (h : 18446744073709551616 ^ n * Y % V = (X * (18446744073709551616 ^ (2 * n) % V)) % V) : EntG n V X Y := by
  unfold EntG
  have hco : Nat.Coprime (18446744073709551616 ^ n) V := by rw [B64]; exact (odd_coprime hodd).symm
  rw [← B64, ← Nat.mod_eq_of_lt hY]
  apply cancel_mod hco
  rw [h, Nat.mul_mod, Nat.mod_mod, ← Nat.mul_mod, Nat.two_mul, Nat.pow_add]
  congr 1
  generalize 18446744073709551616 ^ n = p
  grind

/-- What comes out. -/
def LeaG (n V X : Nat) (Y : Nat) : Prop := Y < V ∧ 2 ^ (64 * n) * Y % V = X % V

set_option maxRecDepth 20000 in
set_option maxHeartbeats 4000000 in
/-- What Enter asks for. -/
theorem mEnter1 (o : Tr) (ao bo xo : Option Addr) (n l K mcap rcap N1 xc bT bM bA : Nat) (ms rs xs : List Nat) (w : World)
    (ht : TrRoom w o 1000) (hm : RowT w o (.slice ao n mcap) ms) (hx : RowT w o (.slice xo N1 xc) xs) (hy : RowT w o (.slice bo l rcap) rs) (hmd : Digs 18446744073709551616 ms) (hrd : Digs 18446744073709551616 rs) (hdx : Digs 18446744073709551616 xs) (hrl : rs.length = l) (hK : K < 18446744073709551616) (hn : n ≤ 130)
    (hT : Box w bT (trPtr o) 54) (hM : w.heap[bM]? = some (.cells #[.slice ao n mcap, .int .u64 (K : Nat), .slice bo l rcap] 28 (0, 0))) (hA : Box w bA (.slice xo N1 xc) 23) :
    Calls Try.prog 54 #[.int .i64 (n : Int), .pointer (some ⟨bT, 0, none⟩), .pointer (some ⟨bM, 0, none⟩), .pointer (some ⟨bA, 0, none⟩)] w fun e w' => ∃ v', e = .returned v' ∧
      Done w o (timesEvs n) n (fun Y => okMod ms K rs → (N1 = n ∧ val 18446744073709551616 xs < val 18446744073709551616 ms) → EntG n (val 18446744073709551616 ms) (val 18446744073709551616 xs) Y) w' v' := by
  obtain ⟨_, _, _, e1, hLm, _, _, _, _⟩ := hm.1.open
  cases e1
  obtain ⟨po, hpo⟩ := trPtr_shape o
  have hti := ht.1
  have JC : Hid (∀ W m o', Did w o m W o' → W.cell? ⟨bT, 0, none⟩ = some (.pointer po) ∧ W.cell? ⟨bA, 0, none⟩ = some (.slice xo N1 xc) ∧ W.cell? ⟨bM, 0, none⟩ = some (.slice ao n mcap) ∧ W.cell? ⟨bM, 1, none⟩ = some (.int .u64 (K : Nat)) ∧ W.cell? ⟨bM, 2, none⟩ = some (.slice bo l rcap)) := fun W m o' d => by
    rw [← hpo]
    exact ⟨(hT.did d hti (by decide) (by decide)).cell, (hA.did d hti (by decide) (by decide)).cell, cells3 ((d.kept.block _ (lt_of_block hM) (cells_apart hM hti (by decide) (by decide))).trans hM)⟩
  have JF : Hid (∀ W (zo : Option Addr) (z zc : Nat) (zs : List Nat), Kept Nought w W → RowT w o (.slice zo z zc) zs → Digs 18446744073709551616 zs → Calls Try.prog 51 #[.slice zo z zc, .int .i64 (n : Int)] W fun e w' => ∃ g, e = .returned (.slice (some ⟨g, 0, none⟩) n n) ∧ Kept Nought W w' ∧ RowT w' o (.slice (some ⟨g, 0, none⟩) n n) (digs 18446744073709551616 (val 18446744073709551616 zs) n)) := fun W zo z zc zs k hz hdz => by
    refine (mFit (.slice zo z zc) zs n W (hz.1.grew k) hdz (by omega)).mono ?_
    rintro e w' ⟨rfl, ho, k'⟩
    exact ⟨_, rfl, k', own_rowT ho (digs_length _ _ _) (ht.grew (k.trans k')).1⟩
  have JX : Hid (∀ W, Kept Nought w W → Calls Try.prog 51 #[.slice xo N1 xc, .int .i64 (n : Int)] W fun e w' => ∃ g, e = .returned (.slice (some ⟨g, 0, none⟩) n n) ∧ Kept Nought W w' ∧ RowT w' o (.slice (some ⟨g, 0, none⟩) n n) (digs 18446744073709551616 (val 18446744073709551616 xs) n)) := fun W k => JF.out W _ _ _ _ k hx hdx
  have JY : Hid (∀ W, Kept Nought w W → Calls Try.prog 51 #[.slice bo l rcap, .int .i64 (n : Int)] W fun e w' => ∃ g, e = .returned (.slice (some ⟨g, 0, none⟩) n n) ∧ Kept Nought W w' ∧ RowT w' o (.slice (some ⟨g, 0, none⟩) n n) (digs 18446744073709551616 (val 18446744073709551616 rs) n)) := fun W k => JF.out W _ _ _ _ k hy hrd
  have JT : Hid (∀ W g h, Kept Nought w W → RowT W o (.slice (some ⟨g, 0, none⟩) n n) (digs 18446744073709551616 (val 18446744073709551616 xs) n) → RowT W o (.slice (some ⟨h, 0, none⟩) n n) (digs 18446744073709551616 (val 18446744073709551616 rs) n) → Calls Try.prog 50 #[.pointer po, .agg #[.slice ao n mcap, .int .u64 (K : Nat), .slice bo l rcap], .slice (some ⟨g, 0, none⟩) n n, .slice (some ⟨h, 0, none⟩) n n] W fun e w' => ∃ v', e = .returned v' ∧ Done w o (timesEvs n) n (fun Y => okMod ms K rs → (N1 = n ∧ val 18446744073709551616 xs < val 18446744073709551616 ms) → EntG n (val 18446744073709551616 ms) (val 18446744073709551616 xs) Y) w' v') := fun W g h k hg hh => by
    have := mTimes o n K mcap l rcap n n ao bo _ _ _ _ ms W (ht.grew k) hg hh (hm.grew k) (digs_digs (by omega) _ _) (digs_digs (by omega) _ _) hmd hn
    rw [hpo] at this
    refine this.mono ?_
    rintro e w' ⟨v', rfl, hR⟩
    refine ⟨v', rfl, ?_⟩
    obtain ⟨Y, o', h1, h2, h3⟩ := hR.done (G := fun Y => okMod ms K rs → (N1 = n ∧ val 18446744073709551616 xs < val 18446744073709551616 ms) → EntG n (val 18446744073709551616 ms) (val 18446744073709551616 xs) Y) (fun Y hY hok h1 => by
      obtain ⟨f1, f2, f3, f4, f5, f6, f7⟩ := hok.facts hLm.out hrl hmd hrd hK
      have hRV : val 18446744073709551616 rs < val 18446744073709551616 ms := by rw [f7]; exact Nat.mod_lt _ (by omega)
      rw [val_digs, val_digs, Nat.mod_eq_of_lt (Nat.lt_trans h1.2 f6), Nat.mod_eq_of_lt (Nat.lt_trans hRV f6)] at hY
      have h2 := hY f1 f2 (Nat.mul_lt_mul_of_lt_of_le h1.2 (Nat.le_of_lt (Nat.lt_trans hRV f6)) (Nat.pow_pos (by omega)))
      exact ent_num f5 h2.1 (by rw [f7] at h2; exact h2.2))
    exact ⟨Y, o', own_base h1 (fun b hb => Nat.le_trans k.size (h1.lt b hb).1), h2, Did.after k h3⟩
  have h0 := Did.of_kept (Kept.refl Nought w) hti
  obtain ⟨c0, c1, c3, c4, c5⟩ := JC.out _ _ _ h0
  have HTI := toHid hti
  have JD : Hid (∀ (W : World) (v' : Value) (G : Nat → Prop), Done w o (timesEvs n) n G W v' → ∃ m o', Did w o m W o') := fun W v' G h => by
    obtain ⟨Y, o', _, _, d⟩ := h
    exact ⟨_, _, d⟩
  clear ht hm hx hy hmd hrd hdx hrl hK hT hM hA hpo hti h0 JF hLm
  generalize (fun Y => okMod ms K rs → (N1 = n ∧ val 18446744073709551616 xs < val 18446744073709551616 ms) → EntG n (val 18446744073709551616 ms) (val 18446744073709551616 xs) Y) = G at *
  generalize val 18446744073709551616 xs = X at *
  generalize val 18446744073709551616 rs = Z at *
  go_enter Try.func54, Try.ntmps54
  go_wp2_with fail
  go_region_held3 (fun w' => w'.cell? ⟨bT, 0, none⟩ = some (.pointer po) ∧ w'.cell? ⟨bA, 0, none⟩ = some (.slice xo N1 xc) ∧ w'.cell? ⟨bM, 0, none⟩ = some (.slice ao n mcap) ∧ w'.cell? ⟨bM, 1, none⟩ = some (.int .u64 (K : Int)) ∧ w'.cell? ⟨bM, 2, none⟩ = some (.slice bo l rcap))
    (((try dsimp only); (repeat' apply And.intro) <;> first | (go_keep; done) | assumption))
    (first
    | (go_at_call_of 51 (Value.slice xo N1 xc); refine (JX.out _ ?_).mono ?_; (exact (Kept.refl _ _).drew); rintro e w2 ⟨g2, rfl, k2, r2⟩; obtain ⟨q0, q1, q3, q4, q5⟩ := JC.out _ _ _ (Did.of_kept ((Kept.refl _ _).drew.trans k2) HTI.out))
    | (go_at_call_of 51 (Value.slice bo l rcap); refine (JY.out _ ?_).mono ?_; (exact (Kept.refl _ _).drew.trans k2); rintro e w3 ⟨g3, rfl, k3, r3⟩; obtain ⟨s0, s1, s3, s4, s5⟩ := JC.out _ _ _ (Did.of_kept ((Kept.refl _ _).drew.trans (k2.trans k3)) HTI.out))
    | (go_at_call 50; refine (JT.out _ g2 g3 ?_ ?_ ?_).mono ?_; (exact (Kept.refl _ _).drew.trans (k2.trans k3)); (exact r2.grew k3); (exact r3); rintro e w4 ⟨v4, rfl, hd4⟩; obtain ⟨m4, o4, d4⟩ := JD.out _ _ _ hd4; obtain ⟨t0, t1, t3, t4, t5⟩ := JC.out _ _ _ d4))
  all_goals
    go_wp2_with fail
    go_ret
    exact ⟨_, rfl, hd4⟩

set_option maxRecDepth 20000 in
set_option maxHeartbeats 4000000 in
/-- What Leave asks for. -/
theorem mLeave1 (o : Tr) (ao bo xo : Option Addr) (n l K mcap rcap N1 xc bT bM bA : Nat) (ms rs xs : List Nat) (w : World)
    (ht : TrRoom w o 1000) (hm : RowT w o (.slice ao n mcap) ms) (hx : RowT w o (.slice xo N1 xc) xs) (hmd : Digs 18446744073709551616 ms) (hrd : Digs 18446744073709551616 rs) (hdx : Digs 18446744073709551616 xs) (hrl : rs.length = l) (hK : K < 18446744073709551616) (hn : n ≤ 130)
    (hT : Box w bT (trPtr o) 54) (hM : w.heap[bM]? = some (.cells #[.slice ao n mcap, .int .u64 (K : Nat), .slice bo l rcap] 28 (0, 0))) (hA : Box w bA (.slice xo N1 xc) 23) :
    Calls Try.prog 55 #[.int .i64 (n : Int), .pointer (some ⟨bT, 0, none⟩), .pointer (some ⟨bM, 0, none⟩), .pointer (some ⟨bA, 0, none⟩)] w fun e w' => ∃ v', e = .returned v' ∧
      Done w o (List.replicate (n + 2) (1, (n : Int), 0)) n (fun Y => okMod ms K rs → (N1 = n ∧ val 18446744073709551616 xs < val 18446744073709551616 ms) → LeaG n (val 18446744073709551616 ms) (val 18446744073709551616 xs) Y) w' v' := by
  obtain ⟨_, _, _, e1, hLm, _, _, _, _⟩ := hm.1.open
  cases e1
  obtain ⟨po, hpo⟩ := trPtr_shape o
  have hti := ht.1
  obtain ⟨N, hN⟩ : ∃ N, N = n + n := ⟨_, rfl⟩
  have JC : Hid (∀ W m o', Did w o m W o' → W.cell? ⟨bT, 0, none⟩ = some (.pointer po) ∧ W.cell? ⟨bA, 0, none⟩ = some (.slice xo N1 xc) ∧ W.cell? ⟨bM, 0, none⟩ = some (.slice ao n mcap) ∧ W.cell? ⟨bM, 1, none⟩ = some (.int .u64 (K : Nat)) ∧ W.cell? ⟨bM, 2, none⟩ = some (.slice bo l rcap)) := fun W m o' d => by
    rw [← hpo]
    exact ⟨(hT.did d hti (by decide) (by decide)).cell, (hA.did d hti (by decide) (by decide)).cell, cells3 ((d.kept.block _ (lt_of_block hM) (cells_apart hM hti (by decide) (by decide))).trans hM)⟩
  have JX : Hid (∀ W, Kept Nought w W → Calls Try.prog 51 #[.slice xo N1 xc, .int .i64 (N : Int)] W fun e w' => ∃ g, e = .returned (.slice (some ⟨g, 0, none⟩) N N) ∧ Kept Nought w w' ∧ w.heap.size ≤ g ∧ OwnN .u64 26 w' g (.slice (some ⟨g, 0, none⟩) N N) N (digs 18446744073709551616 (val 18446744073709551616 xs) N)) := fun W k => by
    refine (mFit (.slice xo N1 xc) xs N W (hx.1.grew k) hdx (by omega)).mono ?_
    rintro e w' ⟨rfl, ho, k'⟩
    exact ⟨_, rfl, k.trans k', k.size, ho⟩
  have JT : Hid (∀ W g, Kept Nought w W → w.heap.size ≤ g → OwnN .u64 26 W g (.slice (some ⟨g, 0, none⟩) N N) N (digs 18446744073709551616 (val 18446744073709551616 xs) N) → Calls Try.prog 56 #[.pointer po, .agg #[.slice ao n mcap, .int .u64 (K : Nat), .slice bo l rcap], .slice (some ⟨g, 0, none⟩) N N] W fun e w' => ∃ v', e = .returned v' ∧ Done w o (List.replicate (n + 2) (1, (n : Int), 0)) n (fun Y => okMod ms K rs → (N1 = n ∧ val 18446744073709551616 xs < val 18446744073709551616 ms) → LeaG n (val 18446744073709551616 ms) (val 18446744073709551616 xs) Y) w' v') := fun W g k hg ho => by
    have := mReduced w o o [] g g N N n K mcap l rcap ao bo _ ms W (Did.of_kept k hti) (ht.less (by simp; omega)) hg ho (digs_length _ _ _) (digs_digs (by omega) _ _) hN (by omega) hm hmd
    rw [hpo] at this
    refine this.mono ?_
    rintro e w' ⟨v', rfl, hR⟩
    refine ⟨v', rfl, ?_⟩
    have := hR.done (G := fun Y => okMod ms K rs → (N1 = n ∧ val 18446744073709551616 xs < val 18446744073709551616 ms) → LeaG n (val 18446744073709551616 ms) (val 18446744073709551616 xs) Y) (fun Y hY hok h1 => by
      obtain ⟨f1, f2, f3, f4, f5, f6, f7⟩ := hok.facts hLm.out hrl hmd hrd hK
      have hp : 18446744073709551616 ^ n ≤ 18446744073709551616 ^ N := Nat.pow_le_pow_right (by omega) (by omega)
      rw [val_digs, Nat.mod_eq_of_lt (Nat.lt_of_lt_of_le (Nat.lt_trans h1.2 f6) hp)] at hY
      have := hY f1 f2 (Nat.lt_of_lt_of_le h1.2 (Nat.le_mul_of_pos_right _ (Nat.pow_pos (by omega))))
      rw [B64] at this
      exact this)
    exact this
  have h0 := Did.of_kept (Kept.refl Nought w) hti
  obtain ⟨c0, c1, c3, c4, c5⟩ := JC.out _ _ _ h0
  have HTI := toHid hti
  have JD : Hid (∀ (W : World) (v' : Value) (G : Nat → Prop), Done w o (List.replicate (n + 2) (1, (n : Int), 0)) n G W v' → ∃ m o', Did w o m W o') := fun W v' G h => by
    obtain ⟨Y, o', _, _, d⟩ := h
    exact ⟨_, _, d⟩
  have g2 : IntKind.i64.wrap (2 * (n : Int)) = (N : Int) := by rw [IntKind.wrap_i64]; omega
  clear ht hm hx hmd hrd hdx hrl hK hT hM hA hpo hti h0 hLm hN
  generalize (fun Y => okMod ms K rs → (N1 = n ∧ val 18446744073709551616 xs < val 18446744073709551616 ms) → LeaG n (val 18446744073709551616 ms) (val 18446744073709551616 xs) Y) = G at *
  generalize val 18446744073709551616 xs = X at *
  go_enter Try.func55, Try.ntmps55
  go_wp2_with fail
  go_region_held3 (fun w' => w'.cell? ⟨bT, 0, none⟩ = some (.pointer po) ∧ w'.cell? ⟨bA, 0, none⟩ = some (.slice xo N1 xc) ∧ w'.cell? ⟨bM, 0, none⟩ = some (.slice ao n mcap) ∧ w'.cell? ⟨bM, 1, none⟩ = some (.int .u64 (K : Int)) ∧ w'.cell? ⟨bM, 2, none⟩ = some (.slice bo l rcap))
    (((try dsimp only); (repeat' apply And.intro) <;> first | (go_keep; done) | assumption))
    (first
    | (go_at_call 51; refine (JX.out _ ?_).mono ?_; (exact (Kept.refl _ _).drew); rintro e w2 ⟨g2', rfl, k2, hg2, r2⟩; obtain ⟨q0, q1, q3, q4, q5⟩ := JC.out _ _ _ (Did.of_kept k2 HTI.out))
    | (go_at_call 56; refine (JT.out _ g2' k2 hg2 r2).mono ?_; rintro e w4 ⟨v4, rfl, hd4⟩; obtain ⟨m4, o4, d4⟩ := JD.out _ _ _ hd4; obtain ⟨t0, t1, t3, t4, t5⟩ := JC.out _ _ _ d4))
  all_goals
    go_wp2_with fail
    go_ret
    exact ⟨_, rfl, hd4⟩

end Go.Proofs.Ytpgccioblgcjaaa
