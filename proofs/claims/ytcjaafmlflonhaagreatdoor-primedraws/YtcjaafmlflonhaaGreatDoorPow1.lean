/- Melted of: PowN PowA PowB. -/
import Derived.Test.YtcjaafmlflonhaaGreatDoorMonA
import Derived.Test.YtcjaafmlflonhaaGreatDoorMon5
import Derived.Test.YtcjaafmlflonhaaGreatDoorSeq1
import Derived.Deep.RegionLaw
import Derived.Deep.AppendLies

/- Package power: its numbers: Montgomery's form, windows of four bits. -/
namespace Go.Proofs.YtcjaafmlflonhaaGreatDoor
open Go.RowKit

/-- A number as Enter has it. -/
def mon (n V X : Nat) : Nat := 2 ^ (64 * n) * X % V

theorem mon_lt {n V X : Nat} (hV : 0 < V) : mon n V X < V := Nat.mod_lt _ hV

theorem mon_mod (n V X : Nat) : mon n V (X % V) = mon n V X := by
  unfold mon
  rw [Nat.mul_mod, Nat.mod_mod, ← Nat.mul_mod]

theorem mon_zero (n V : Nat) : mon n V 0 = 0 := by
  unfold mon
  rw [Nat.mul_zero, Nat.zero_mod]

theorem mon_mul {n V A B Y : Nat} (hodd : V % 2 = 1) (h1 : Y < V) (h2 : 2 ^ (64 * n) * Y % V = mon n V A * mon n V B % V) : Y = mon n V (A * B) := by
  have hco : Nat.Coprime (2 ^ (64 * n)) V := (odd_coprime hodd).symm
  refine (Nat.mod_eq_of_lt h1).symm.trans ?_
  unfold mon at *
  refine cancel_mod hco ?_
  rw [h2, ← Nat.mul_mod]
  congr 1
  generalize 2 ^ (64 * n) = R
  grind

theorem mon_leave {n V A Y : Nat} (hodd : V % 2 = 1) (h1 : Y < V) (h2 : 2 ^ (64 * n) * Y % V = mon n V A % V) : Y = A % V := by
  have hco : Nat.Coprime (2 ^ (64 * n)) V := (odd_coprime hodd).symm
  refine (Nat.mod_eq_of_lt h1).symm.trans ?_
  refine cancel_mod hco ?_
  rw [h2]
  unfold mon
  rw [Nat.mod_mod]

/-- A word turned left by four bits. -/
def rot4 (w : Nat) : Nat := w * 16 % 18446744073709551616 + w / 1152921504606846976

def rotN (y : Nat) : Nat → Nat
  | 0 => y
  | k + 1 => rot4 (rotN y k)

theorem rot4_lt {w : Nat} (h : w < 18446744073709551616) : rot4 w < 18446744073709551616 := by
  unfold rot4
  omega

theorem rotN_lt {y : Nat} (h : y < 18446744073709551616) : ∀ k, rotN y k < 18446744073709551616
  | 0 => h
  | k + 1 => rot4_lt (rotN_lt h k)

theorem rot_step {M N y : Nat} (hM : 0 < M) (hMN : M * N = 1152921504606846976) (hy : y < 18446744073709551616) : rot4 (y % (16 * M) * N + y / (16 * M)) = y % M * (16 * N) + y / M := by
  obtain ⟨A, hA⟩ : ∃ A, A = y / (16 * M) := ⟨_, rfl⟩
  obtain ⟨r, hr⟩ : ∃ r, r = y % (16 * M) := ⟨_, rfl⟩
  obtain ⟨d, hd⟩ : ∃ d, d = r / M := ⟨_, rfl⟩
  obtain ⟨B, hB⟩ : ∃ B, B = r % M := ⟨_, rfl⟩
  have e1 : y = 16 * M * A + r := by rw [hA, hr]; exact (Nat.div_add_mod y (16 * M)).symm
  have e2 : r = M * d + B := by rw [hd, hB]; exact (Nat.div_add_mod r M).symm
  have hr16 : r < 16 * M := by rw [hr]; exact Nat.mod_lt _ (by omega)
  have hd16 : d < 16 := by rw [hd]; exact Nat.div_lt_of_lt_mul (by rw [Nat.mul_comm]; exact hr16)
  have hBM : B < M := by rw [hB]; exact Nat.mod_lt _ hM
  have hAN : A < N := by
    rw [hA]
    refine Nat.div_lt_of_lt_mul ?_
    rw [Nat.mul_assoc, hMN]
    exact hy
  have e3 : y = M * (16 * A + d) + B := by rw [e1, e2]; grind
  have e4 : y / M = 16 * A + d := by rw [e3, Nat.mul_add_div hM, Nat.div_eq_of_lt hBM, Nat.add_zero]
  have e5 : y % M = B := by rw [e3, Nat.mul_add_mod, Nat.mod_eq_of_lt hBM]
  rw [e4, e5, ← hA, ← hr]
  have h6 : B * N + A < 1152921504606846976 := by
    have : (B + 1) * N ≤ M * N := Nat.mul_le_mul_right N hBM
    rw [hMN, Nat.add_mul, Nat.one_mul] at this
    omega
  have e7 : r * N + A = 1152921504606846976 * d + (B * N + A) := by
    rw [e2, ← hMN]
    grind
  rw [e7]
  generalize hQ : B * N = Q at *
  have e8 : B * (16 * N) = 16 * Q := by rw [← hQ]; grind
  rw [e8]
  unfold rot4
  omega

theorem rotN_eq {y : Nat} (hy : y < 18446744073709551616) : ∀ k, k ≤ 16 → rotN y k = y % 16 ^ (16 - k) * 16 ^ k + y / 16 ^ (16 - k)
  | 0, _ => by
    rw [rotN, Nat.sub_zero, show (16 : Nat) ^ 16 = 18446744073709551616 from rfl, Nat.pow_zero, Nat.mul_one, Nat.mod_eq_of_lt hy, Nat.div_eq_of_lt hy, Nat.add_zero]
  | k + 1, hk => by
    have ih := rotN_eq hy k (by omega)
    have e : 16 - k = (16 - (k + 1)) + 1 := by omega
    rw [rotN, ih, e, Nat.pow_succ, Nat.mul_comm (16 ^ (16 - (k + 1))) 16]
    have h := rot_step (M := 16 ^ (16 - (k + 1))) (N := 16 ^ k) (y := y) (Nat.pow_pos (by omega)) (by rw [← Nat.pow_add, show 16 - (k + 1) + k = 15 by omega]) hy
    rw [h, Nat.pow_succ, Nat.mul_comm (16 ^ k) 16]

/-- Window j of a number of L words, from its top on. -/
def winN (ys : List Nat) (L j : Nat) : Nat := rotN (ys.getD (L - 1 - j / 16) 0) (j % 16 + 1) % 16

theorem win_dig {ys : List Nat} {L j : Nat} (hd : Digs 18446744073709551616 ys) (hj : j < 16 * L) : winN ys L j = val 18446744073709551616 ys / 16 ^ (16 * L - 1 - j) % 16 := by
  unfold winN
  have hy : ys.getD (L - 1 - j / 16) 0 < 18446744073709551616 := hd.getD (by omega) _
  rw [rotN_eq hy (j % 16 + 1) (by omega)]
  have e1 : 16 ^ (j % 16 + 1) = 16 * 16 ^ (j % 16) := by rw [Nat.pow_succ, Nat.mul_comm]
  rw [e1, show ∀ a b c : Nat, a * (16 * b) + c = 16 * (a * b) + c from fun a b c => by grind, Nat.mul_add_mod]
  rw [← dig_val (by omega) hd]
  unfold dig
  obtain ⟨k, hk⟩ : ∃ k, k = j % 16 := ⟨_, rfl⟩
  obtain ⟨i, hi⟩ : ∃ i, i = L - 1 - j / 16 := ⟨_, rfl⟩
  have ex : 16 * L - 1 - j = 16 * i + (15 - k) := by omega
  rw [← hk, ← hi, ex, show 16 - (k + 1) = 15 - k by omega, show (18446744073709551616 : Nat) = 16 ^ 16 from rfl, ← Nat.pow_mul]
  generalize val (16 ^ 16) ys = E
  have hk15 : k ≤ 15 := by omega
  have e2 : (16 : Nat) ^ 16 = 16 ^ (15 - k) * 16 ^ (k + 1) := by rw [← Nat.pow_add, show 15 - k + (k + 1) = 16 by omega]
  rw [e2, Nat.mod_mul_right_div_self, Nat.div_div_eq_div_mul, ← Nat.pow_add, Nat.pow_succ]
  exact Nat.mod_mod_of_dvd _ (Nat.dvd_mul_left 16 _)

/-- What windows come to. -/
def wndN (l : List Nat) : Nat := l.foldl (fun a d => 16 * a + d) 0

theorem wndN_snoc (l : List Nat) (d : Nat) : wndN (l ++ [d]) = 16 * wndN l + d := by simp [wndN]

theorem wnd_upto {E N : Nat} (hE : E < 16 ^ N) : ∀ j, j ≤ N → wndN ((List.range j).map fun i => E / 16 ^ (N - 1 - i) % 16) = E / 16 ^ (N - j)
  | 0, _ => by
    rw [List.range_zero, List.map_nil, Nat.sub_zero, Nat.div_eq_of_lt hE]
    rfl
  | j + 1, hj => by
    rw [List.range_succ, List.map_append, List.map_cons, List.map_nil, wndN_snoc, wnd_upto hE j (by omega)]
    have e : N - j = (N - 1 - j) + 1 := by omega
    rw [e, Nat.pow_succ, ← Nat.div_div_eq_div_mul, show N - (j + 1) = N - 1 - j by omega]
    omega

theorem wnd_all {ys : List Nat} {L : Nat} (hd : Digs 18446744073709551616 ys) (hl : ys.length = L) : wndN ((List.range (16 * L)).map (winN ys L)) = val 18446744073709551616 ys := by
  have hE : val 18446744073709551616 ys < 16 ^ (16 * L) := by
    have := val_lt (B := 18446744073709551616) (by omega) hd
    rw [hl, show (18446744073709551616 : Nat) = 16 ^ 16 from rfl, ← Nat.pow_mul] at this
    exact this
  have h := wnd_upto hE (16 * L) (Nat.le_refl _)
  rw [Nat.sub_self, Nat.pow_zero, Nat.div_one] at h
  rw [← h]
  congr 1
  refine List.map_congr_left (fun j hj => ?_)
  exact win_dig hd (List.mem_range.1 hj)

theorem win_lt (ys : List Nat) (L j : Nat) : winN ys L j < 16 := Nat.mod_lt _ (by omega)

end Go.Proofs.YtcjaafmlflonhaaGreatDoor

/- Package power: attempt, refuse, step; a modulus and numbers in Montgomery's form, in memory; Mul, Enter and Leave on them. -/
namespace Go.Proofs.YtcjaafmlflonhaaGreatDoor
open Go.RowKit

/-- A modulus that is one, apart from the trace. -/
structure Mod8 (w : World) (o : Tr) (ao bo : Option Addr) (n l K mcap rcap : Nat) (ms rs : List Nat) : Prop where
  hm : RowT w o (.slice ao n mcap) ms
  hr : RowT w o (.slice bo l rcap) rs
  hmd : Digs 18446744073709551616 ms
  hrd : Digs 18446744073709551616 rs
  hK : K < 18446744073709551616
  ok : okMod ms K rs

theorem Mod8.did {w w' : World} {o o' : Tr} {m : List Ev} {ao bo : Option Addr} {n l K mcap rcap : Nat} {ms rs : List Nat} (h : Mod8 w o ao bo n l K mcap rcap ms rs) (d : Did w o m w' o') : Mod8 w' o' ao bo n l K mcap rcap ms rs := ⟨h.hm.did d, h.hr.did d, h.hmd, h.hrd, h.hK, h.ok⟩

theorem Mod8.grew {w w' : World} {o : Tr} {ao bo : Option Addr} {n l K mcap rcap : Nat} {ms rs : List Nat} (h : Mod8 w o ao bo n l K mcap rcap ms rs) (k : Kept Nought w w') : Mod8 w' o ao bo n l K mcap rcap ms rs := ⟨h.hm.grew k, h.hr.grew k, h.hmd, h.hrd, h.hK, h.ok⟩

/-- What is known of its numbers. -/
theorem Mod8.facts {w : World} {o : Tr} {ao bo : Option Addr} {n l K mcap rcap : Nat} {ms rs : List Nat} (h : Mod8 w o ao bo n l K mcap rcap ms rs) : (0 < n ∧ n ≤ 130) ∧ l = n ∧ val 18446744073709551616 ms % 2 = 1 ∧ 2 ≤ val 18446744073709551616 ms ∧ val 18446744073709551616 ms < 18446744073709551616 ^ n := by
  obtain ⟨_, _, _, e1, h1, _⟩ := h.hm.1.open
  cases e1
  obtain ⟨_, _, _, e1, h2, _⟩ := h.hr.1.open
  cases e1
  obtain ⟨_, f2, f3, f4, f5, f6, _⟩ := h.ok.facts h1.out h2.out h.hmd h.hrd h.hK
  have m := montE_ok h.ok.1
  exact ⟨⟨f2, f3⟩, f4, f5, by omega, f6⟩

/-- A number in Montgomery's form, in a block of words. -/
def MonAt (w : World) (v : Value) (n V P : Nat) : Prop := Row .u64 w v (digs 18446744073709551616 (mon n V P) n) ∧ U64s w v

theorem MonAt.did {w w' : World} {o o' : Tr} {m : List Ev} {v : Value} {n V P : Nat} (h : MonAt w v n V P) (d : Did w o m w' o') (ht : TrIn w o) : MonAt w' v n V P := ⟨((h.2.rowT h.1 ht).did d).1, h.2.did d ht⟩

theorem MonAt.grew {w w' : World} {v : Value} {n V P : Nat} (h : MonAt w v n V P) (k : Kept Nought w w') : MonAt w' v n V P := ⟨h.1.grew k, h.2.grew k⟩

theorem MonAt.kept {S : Nat → Prop} {w w' : World} {v : Value} {n V P : Nat} (h : MonAt w v n V P) (k : Kept S w w') (hs : ∀ b, v.ownBlock = some b → ¬ S b) : MonAt w' v n V P := ⟨h.1.kept k hs, h.2.kept k hs⟩

theorem MonAt.shape {w : World} {v : Value} {n V P : Nat} (h : MonAt w v n V P) : ∃ xo xc, v = .slice xo n xc := by
  obtain ⟨xo, xn, xc, rfl, hl, _⟩ := h.1.open
  have := hl.out
  rw [digs_length] at this
  subst this
  exact ⟨_, _, rfl⟩

theorem mon_val {n V P : Nat} (hV : 0 < V) (hn : V < 18446744073709551616 ^ n) : val 18446744073709551616 (digs 18446744073709551616 (mon n V P) n) = mon n V P := by
  rw [val_digs, Nat.mod_eq_of_lt (Nat.lt_trans (mon_lt hV) hn)]

/-- What a product, an entry, a leave write down. -/
def mulEv8 (n : Nat) : List Ev := List.replicate 2 (1, (n : Int), 0) ++ timesEvs n

def entEv8 (n : Nat) : List Ev := List.replicate 1 (1, (n : Int), 0) ++ timesEvs n

def leaEv8 (n : Nat) : List Ev := List.replicate 1 (1, (n : Int), 0) ++ List.replicate (n + 2) (1, (n : Int), 0)

theorem ev8_len {n : Nat} (h : n ≤ 130) : (mulEv8 n).length ≤ 2000 ∧ (entEv8 n).length ≤ 2000 ∧ (leaEv8 n).length ≤ 2000 := by
  unfold mulEv8 entEv8 leaEv8 timesEvs
  simp
  omega

/-- The product of two such numbers. -/
theorem mul8 (o : Tr) (ao bo xo yo : Option Addr) (n l K mcap rcap xc yc P Q : Nat) (ms rs : List Nat) (w : World) (ht : TrRoom w o 2000) (hM : Mod8 w o ao bo n l K mcap rcap ms rs) (hx : MonAt w (.slice xo n xc) n (val 18446744073709551616 ms) P) (hy : MonAt w (.slice yo n yc) n (val 18446744073709551616 ms) Q) :
    Calls Tryz.prog 115 #[trPtr o, .agg #[.slice ao n mcap, .int .u64 (K : Nat), .slice bo l rcap], .slice xo n xc, .slice yo n yc] w fun e w' => ∃ zo zc, e = .returned (.tuple #[.slice zo n zc, .int .i64 0]) ∧ MonAt w' (.slice zo n zc) n (val 18446744073709551616 ms) (P * Q) ∧ Fresh w (.slice zo n zc) ∧ ∃ o', Did w o (mulEv8 n) w' o' := by
  obtain ⟨⟨f0, f1⟩, f2, f3, f4, f5⟩ := hM.facts
  have hV : 0 < val 18446744073709551616 ms := by omega
  have ex := mon_val (P := P) hV f5
  have ey := mon_val (P := Q) hV f5
  refine (mMul o ao bo xo yo n l K mcap rcap n n xc yc 0 ms rs _ _ w ht hM.hm hM.hr (hx.2.rowT hx.1 ht.1) (hy.2.rowT hy.1 ht.1) hM.hmd hM.hrd (digs_digs (by omega) _ _) (digs_digs (by omega) _ _) hM.hK (by omega) ⟨fun _ => ⟨hM.ok, ⟨rfl, by rw [ex]; exact mon_lt hV⟩, rfl, by rw [ey]; exact mon_lt hV⟩, fun _ => rfl⟩ (by omega)).mono ?_
  rintro e w' ⟨v', rfl, ⟨Y, hR, hG⟩, ⟨hF, hU⟩, o', d⟩
  rw [if_pos f1] at d
  rw [if_pos rfl] at hR
  have hG' := hG rfl
  rw [ex, ey] at hG'
  rw [mon_mul f3 hG'.1 hG'.2] at hR
  have hA : MonAt w' v' n (val 18446744073709551616 ms) (P * Q) := ⟨hR, hU⟩
  obtain ⟨zo, zc, rfl⟩ := hA.shape
  exact ⟨zo, zc, rfl, hA, hF, o', d⟩

/-- A number goes in. -/
theorem ent8 (o : Tr) (ao bo xo : Option Addr) (n l K mcap rcap xc : Nat) (ms rs xs : List Nat) (w : World) (ht : TrRoom w o 2000) (hM : Mod8 w o ao bo n l K mcap rcap ms rs) (hx : RowT w o (.slice xo n xc) xs) (hdx : Digs 18446744073709551616 xs) (hlt : val 18446744073709551616 xs < val 18446744073709551616 ms) :
    Calls Tryz.prog 112 #[trPtr o, .agg #[.slice ao n mcap, .int .u64 (K : Nat), .slice bo l rcap], .slice xo n xc] w fun e w' => ∃ zo zc, e = .returned (.tuple #[.slice zo n zc, .int .i64 0]) ∧ MonAt w' (.slice zo n zc) n (val 18446744073709551616 ms) (val 18446744073709551616 xs) ∧ Fresh w (.slice zo n zc) ∧ ∃ o', Did w o (entEv8 n) w' o' := by
  obtain ⟨⟨f0, f1⟩, f2, f3, f4, f5⟩ := hM.facts
  refine (mEnter o ao bo xo n l K mcap rcap n xc 0 ms rs xs w ht hM.hm hM.hr hx hM.hmd hM.hrd hdx hM.hK (by omega) ⟨fun _ => ⟨hM.ok, rfl, hlt⟩, fun _ => rfl⟩ (by omega)).mono ?_
  rintro e w' ⟨v', rfl, ⟨Y, hR, hG⟩, ⟨hF, hU⟩, o', d⟩
  rw [if_pos f1] at d
  rw [if_pos rfl] at hR
  have hG' : Y = mon n (val 18446744073709551616 ms) (val 18446744073709551616 xs) := hG rfl
  rw [hG'] at hR
  have hA : MonAt w' v' n (val 18446744073709551616 ms) (val 18446744073709551616 xs) := ⟨hR, hU⟩
  obtain ⟨zo, zc, rfl⟩ := hA.shape
  exact ⟨zo, zc, rfl, hA, hF, o', d⟩

/-- A number comes out. -/
theorem lea8 (o : Tr) (ao bo xo : Option Addr) (n l K mcap rcap xc P : Nat) (ms rs : List Nat) (w : World) (ht : TrRoom w o 2000) (hM : Mod8 w o ao bo n l K mcap rcap ms rs) (hx : MonAt w (.slice xo n xc) n (val 18446744073709551616 ms) P) :
    Calls Tryz.prog 143 #[trPtr o, .agg #[.slice ao n mcap, .int .u64 (K : Nat), .slice bo l rcap], .slice xo n xc] w fun e w' => ∃ zo zc, e = .returned (.tuple #[.slice zo n zc, .int .i64 0]) ∧ (Row .u64 w' (.slice zo n zc) (digs 18446744073709551616 (P % val 18446744073709551616 ms) n) ∧ U64s w' (.slice zo n zc)) ∧ Fresh w (.slice zo n zc) ∧ ∃ o', Did w o (leaEv8 n) w' o' := by
  obtain ⟨⟨f0, f1⟩, f2, f3, f4, f5⟩ := hM.facts
  have hV : 0 < val 18446744073709551616 ms := by omega
  have ex := mon_val (P := P) hV f5
  refine (mLeave o ao bo xo n l K mcap rcap n xc 0 ms rs _ w ht hM.hm hM.hr (hx.2.rowT hx.1 ht.1) hM.hmd hM.hrd (digs_digs (by omega) _ _) hM.hK (by omega) ⟨fun _ => ⟨hM.ok, rfl, by rw [ex]; exact mon_lt hV⟩, fun _ => rfl⟩ (by omega)).mono ?_
  rintro e w' ⟨v', rfl, ⟨Y, hR, hG⟩, ⟨hF, hU⟩, o', d⟩
  rw [if_pos f1] at d
  rw [if_pos rfl] at hR
  have hG' := hG rfl
  rw [ex] at hG'
  rw [mon_leave f3 hG'.1 hG'.2] at hR
  obtain ⟨zo, zn, zc, rfl, hl, _⟩ := hR.open
  have hln := hl.out
  rw [digs_length] at hln
  subst hln
  exact ⟨zo, zc, rfl, ⟨hR, hU⟩, hF, o', d⟩

end Go.Proofs.YtcjaafmlflonhaaGreatDoor

/- Package power: the sixteen powers that stand ready (powers). -/
namespace Go.Proofs.YtcjaafmlflonhaaGreatDoor
open Go.RowKit

theorem Tryz.infoP31 : (Tryz.prog.info? 31).map (fun i => (i.zero, i.size, i.bytes)) = some (some (.slice none 0 0), 1, 24) := by kernel_rfl

/-- A row of numbers, in a block of its own type, is no part of a trace. -/
theorem ownN_apart {w : World} {o : Tr} {base size n : Nat} {v : Value} {xs : List Value} (h : w.ownsRow base 31 size v n xs) (ht : TrIn w o) : ∀ b, v.ownBlock = some b → ¬ trFoot o b := by
  rcases h.2 with ⟨rfl, _⟩ | ⟨g', cap, cur, rfl, _, hgg, _⟩
  · intro b hb
    cases hb
  · intro b hb
    have e : g' = b := by simpa [Value.ownBlock] using hb
    subst e
    exact cells_apart hgg ht (by decide) (by decide)

/-- Numbers lie in other blocks than a row of numbers. -/
theorem u64s_ne {w : World} {base size n : Nat} {v u : Value} {xs : List Value} (h : w.ownsRow base 31 size v n xs) (hu : U64s w u) : ∀ b, u.ownBlock = some b → v.ownBlock ≠ some b := by
  intro b hb e
  obtain ⟨cs, fr, hg⟩ := hu b hb
  rcases h.2 with ⟨rfl, _⟩ | ⟨g', cap, cur, rfl, _, hgg, _⟩
  · cases e
  · have e' : g' = b := by simpa [Value.ownBlock] using e
    subst e'
    rw [hgg] at hg
    simp only [Option.some.injEq, Obj.cells.injEq] at hg
    exact absurd hg.2.1 (by decide)

/-- A table: the first k powers of X in Montgomery's form; each number is new since w0, or xv. -/
def Tab8 (w0 w : World) (xv v : Value) (n k : Nat) (A : Nat → Option Addr) (C : Nat → Nat) (V X : Nat) : Prop :=
  w.ownsRow w0.heap.size 31 1 v k ((List.range k).map fun j => .slice (A j) n (C j)) ∧ ∀ j, j < k → MonAt w (.slice (A j) n (C j)) n V (X ^ j) ∧ (Fresh w0 (.slice (A j) n (C j)) ∨ Value.slice (A j) n (C j) = xv)

theorem Tab8.did {w0 w w' : World} {o o' : Tr} {m : List Ev} {xv v : Value} {n k V X : Nat} {A : Nat → Option Addr} {C : Nat → Nat} (h : Tab8 w0 w xv v n k A C V X) (d : Did w o m w' o') (ht : TrIn w o) : Tab8 w0 w' xv v n k A C V X :=
  ⟨d.kept.own h.1 (ownN_apart h.1 ht), fun j hj => ⟨(h.2 j hj).1.did d ht, (h.2 j hj).2⟩⟩

theorem Tab8.grew {w0 w w' : World} {xv v : Value} {n k V X : Nat} {A : Nat → Option Addr} {C : Nat → Nat} (h : Tab8 w0 w xv v n k A C V X) (kk : Kept Nought w w') : Tab8 w0 w' xv v n k A C V X :=
  ⟨kk.own h.1 (fun _ _ f => f), fun j hj => ⟨(h.2 j hj).1.grew kk, (h.2 j hj).2⟩⟩

theorem Tab8.push {w0 W w4 : World} {xv out : Value} {n k V X g cap : Nat} {A : Nat → Option Addr} {C : Nat → Nat} {yo : Option Addr} {yc : Nat} (h : Tab8 w0 W xv out n k A C V X) (hy : MonAt W (.slice yo n yc) n V (X ^ k)) (hf : Fresh w0 (.slice yo n yc))
    (ho : w4.ownsRow w0.heap.size 31 1 (.slice (some ⟨g, 0, none⟩) (k + 1) cap) (k + 1) (((List.range k).map fun j => .slice (A j) n (C j)) ++ [.slice yo n yc])) (hg : W.grownBy w4 out.ownBlock) :
    Tab8 w0 w4 xv (.slice (some ⟨g, 0, none⟩) (k + 1) cap) n (k + 1) (fun j => if j = k then yo else A j) (fun j => if j = k then yc else C j) V X := by
  have kk : Kept (fun b => out.ownBlock = some b) W w4 := (Kept.refl _ W).grown hg (fun b e _ => e)
  refine ⟨?_, fun j hj => ?_⟩
  · rw [List.range_succ, List.map_append, List.map_cons, List.map_nil]
    dsimp only
    rw [if_pos rfl, if_pos rfl]
    have e : ((List.range k).map fun j => Value.slice (if j = k then yo else A j) n (if j = k then yc else C j)) = (List.range k).map fun j => Value.slice (A j) n (C j) := by
      refine List.map_congr_left (fun j hj => ?_)
      have : j < k := List.mem_range.1 hj
      rw [if_neg (by omega), if_neg (by omega)]
    rw [e]
    exact ho
  · by_cases e : j = k
    · subst e
      dsimp only
      rw [if_pos rfl, if_pos rfl]
      exact ⟨hy.kept kk (u64s_ne h.1 hy.2), .inl hf⟩
    · dsimp only
      rw [if_neg e, if_neg e]
      obtain ⟨h1, h2⟩ := h.2 j (by omega)
      exact ⟨h1.kept kk (u64s_ne h.1 h1.2), h2⟩

theorem Tab8.after {w0 W w : World} {xv v : Value} {n k V X : Nat} {A : Nat → Option Addr} {C : Nat → Nat} (h : Tab8 W w xv v n k A C V X) (kk : Kept Nought w0 W) : Tab8 w0 w xv v n k A C V X :=
  ⟨own_base h.1 (fun b e => Nat.le_trans kk.size (World.ownsRow.lt h.1 b e).1), fun j hj => ⟨(h.2 j hj).1, (h.2 j hj).2.imp (fun f => f.after kk) id⟩⟩

theorem Tab8.at {w0 w : World} {xv : Value} {n k c g V X : Nat} {A : Nat → Option Addr} {C : Nat → Nat} (h : Tab8 w0 w xv (.slice (some ⟨g, 0, none⟩) k c) n k A C V X) {j : Nat} (hj : j < k) : w.cell? ⟨g, j, none⟩ = some (.slice (A j) n (C j)) := by
  rw [World.ownsRow.cellAt h.1 j (by omega), List.getElem?_map, List.getElem?_range hj]
  rfl

/-- What powers writes down. -/
def powEv8 (n : Nat) (k : Nat) : List Ev := entEv8 n ++ (List.replicate k (mulEv8 n)).flatten

theorem powEv8_succ (n k : Nat) : powEv8 n (k + 1) = powEv8 n k ++ mulEv8 n := by
  unfold powEv8
  rw [List.replicate_succ', List.flatten_append, List.append_assoc]
  simp

theorem flat_len {m : List Ev} {b : Nat} (h : m.length ≤ b) : ∀ k, (List.replicate k m).flatten.length ≤ k * b
  | 0 => by simp
  | k + 1 => by
    have := flat_len h k
    rw [List.replicate_succ, List.flatten_cons, List.length_append, Nat.add_mul]
    omega

theorem powEv8_len {n : Nat} (h : n ≤ 130) (k : Nat) : (powEv8 n k).length ≤ 2000 + k * 2000 := by
  obtain ⟨h1, h2, _⟩ := ev8_len h
  have := flat_len h1 k
  unfold powEv8
  rw [List.length_append]
  omega

end Go.Proofs.YtcjaafmlflonhaaGreatDoor
