/- Put together of: Seq1 Sho1 Pow1. -/
import Derived.Test.YtldbfcifoijliaaGreatDoorPk6
import Derived.Test.YtldbfcifoijliaaGreatDoorPk11
import Derived.Test.YtldbfcifoijliaaGreatDoorPk12
import Derived.Test.YtldbfcifoijliaaGreatDoorPk18
import Derived.Deep.RegionLaw
import Derived.Deep.AppendLies

/- What a range over a function asks of memory (Seq0), and of traces. -/
namespace Go.Proofs.YtldbfcifoijliaaGreatDoor
open Go.RowKit Go.Shelf

theorem Turn.isTr {B : Nat} {W W' : World} (t : Turn B W W') {p : Nat} {g : Option Nat} {l : List Ev} (h : IsTr W p g l) : IsTr W' p g l := by
  obtain ⟨v, s, h1, h2, h3, h4⟩ := h
  exact ⟨v, s, t.cells h1, h2, t.own h3, h4⟩

theorem Turn.did {B : Nat} {w W W' : World} (t : Turn B W W') {o o' : Tr} {m : List Ev} (d : Did w o m W o') (hB : w.heap.size ≤ B) : Did w o m W' o' := by
  refine ⟨t.kept d.1 hB, ?_⟩
  rcases d.2 with h1 | ⟨p, g, l, g', e1, e2, ht, hg⟩
  · exact .inl h1
  · exact .inr ⟨p, g, l, g', e1, e2, t.isTr ht, hg⟩

end Go.Proofs.YtldbfcifoijliaaGreatDoor


/- Package short: the bits of a number, the highest ahead, as a range over a function hands them out (bitsOf). -/
namespace Go.Proofs.YtldbfcifoijliaaGreatDoor
open Go.RowKit Go.Shelf

attribute [local go_sem] Oper.semAt_some

theorem bits_le {ys : List Nat} {L : Nat} (hd : Digs 18446744073709551616 ys) (hL : ys.length = L) : blen (val 18446744073709551616 ys) ≤ 64 * L := by
  rw [blen_le]
  have := val_lt (B := 18446744073709551616) (by omega) hd
  rw [hL, show (18446744073709551616 : Nat) = 2 ^ 64 from rfl, ← Nat.pow_mul] at this
  exact this

/-- What bits come to. -/
def bndN (l : List Nat) : Nat := l.foldl (fun a d => 2 * a + d) 0

theorem bndN_snoc (l : List Nat) (d : Nat) : bndN (l ++ [d]) = 2 * bndN l + d := by simp [bndN]

theorem bnd_upto {E N : Nat} (hE : E < 2 ^ N) : ∀ j, j ≤ N → bndN ((List.range j).map fun i => E / 2 ^ (N - 1 - i) % 2) = E / 2 ^ (N - j)
  | 0, _ => by
    rw [List.range_zero, List.map_nil, Nat.sub_zero, Nat.div_eq_of_lt hE]
    rfl
  | j + 1, hj => by
    rw [List.range_succ, List.map_append, List.map_cons, List.map_nil, bndN_snoc, bnd_upto hE j (by omega)]
    have e : N - j = (N - 1 - j) + 1 := by omega
    rw [e, Nat.pow_succ, ← Nat.div_div_eq_div_mul, show N - (j + 1) = N - 1 - j by omega]
    omega

theorem bnd_all {E N : Nat} (hE : blen E = N) : bndN ((List.range N).map fun i => E / 2 ^ (N - 1 - i) % 2) = E := by
  have h := bnd_upto ((blen_le E N).1 (Nat.le_of_eq hE)) N (Nat.le_refl _)
  rw [Nat.sub_self, Nat.pow_zero, Nat.div_one] at h
  exact h

set_option maxRecDepth 100000 in
set_option maxHeartbeats 2000000 in
/-- bitsOf's closure. -/
theorem sho1 (n : Nat) (hn : 1 ≤ n) (l Bs L N : Nat) (g : Nat → Nat) (v : Value) (ys : List Nat) (hd : Digs 18446744073709551616 ys) (hL : Hid (ys.length = L)) (hN : Hid (blen (val 18446744073709551616 ys) = N)) (hb : L ≤ 1000000) (hg : Hid (∀ j, val 18446744073709551616 ys / 2 ^ (N - 1 - j) % 2 = g j)) (S : Nat → Prop) (hS : S Bs) (hSv : ∀ b, v.ownBlock = some b → 0 < L → S b)
    (J Jx : List (Fin N) → World → Prop)
    (hY : ∀ pre (x : Fin N) W, J pre W → pre.length < N → YieldAt Fence.wide (n - 1) Tryz.prog l #[.int .u64 (g x.val : Nat)] W fun e W' =>
      (e = .returned (.bool true) ∧ J (pre ++ [x]) W' ∧ KeepB S W W') ∨ (e = .returned (.bool false) ∧ Jx (pre ++ [x]) W'))
    (W : World) (hBs : W.cell? ⟨Bs, 0, none⟩ = some v) (hr : Row .u64 W v ys) (h0 : J [] W) :
    CallsIn Fence.wide n Tryz.prog 104 #[.func (.yield l) #[] #[], .pointer (some ⟨Bs, 0, none⟩)] W fun e W' => (∃ v, e = .returned v) ∧
      ((∃ zs, zs.map Fin.val = List.range N ∧ J zs W') ∨ (∃ pre, True ∧ Jx pre W')) := by
  obtain ⟨ao, m, cap, rfl, hlen, c1, c2, c3, hnum⟩ := hr.open
  obtain rfl : m = L := by rw [← hlen.out]; exact hL.out
  have HNb : Hid (N ≤ 64000000) := by have := bits_le hd hL.out; have := hN.out; unfold Hid; omega
  have hBits := nBits _ ys W hr hd (by have := hL.out; omega)
  rw [hN.out] at hBits
  have HBIT : Hid (∀ (i j : Nat) (W' : World), KeepB S W W' → i = N - 1 - j → i ≤ 64000000 → Calls Tryz.prog 63 #[.slice ao m cap, .int .i64 (i : Int)] W' fun r w' => r = .returned (.int .u64 (g j : Nat)) ∧ w' = W') := fun i j W' k hi hb => by
    have := nBit _ ys (i : Int) W' (k.row (fun b hb hp => hSv b hb (by have := hL.out; omega)) hr) hd (by omega)
    rw [bitN_nat, hi, hg.out] at this
    rw [hi]
    exact this
  clear hnum hr hL hlen hd hN hg
  refine callsIn_of_wp Tryz.func104 rfl trivial ?_ rfl
  simp only [Tryz.ntmps104, List.size_toArray, List.length_cons, List.length_nil, Nat.reduceAdd, Nat.reduceSub, Array.replicate_succ, Array.replicate_zero, List.push_toArray, List.append_toArray, List.nil_append, List.cons_append]
  gi_wp2_with fail
  refine ⟨trivial, ?_⟩
  refine (callsIn_wide.2 hBits).mono ?_
  rintro e w' ⟨rfl, rfl⟩
  have gN : IntKind.i64.wrap ((N : Int) - 1) = (N : Int) - 1 := by rw [IntKind.wrap_i64]; have := HNb.out; omega
  clear hBits
  gi_wp2_with fail
  gi_loopw [3] (fun i wr => ∃ (k : Nat) (I : Int), k ≤ N ∧ i = .int .i64 I ∧ Hid (I = (N : Int) - 1 - (k : Int)) ∧ (∃ pre : List (Fin N), Hid (pre.map Fin.val = List.range k) ∧ J pre wr) ∧ KeepB S w' wr)
    (fun i _ => (intOf i + 1).toNat)
  case atStart => exact ⟨0, _, Nat.zero_le _, rfl, by unfold Hid; omega, ⟨[], by simp [Hid], h0⟩, KeepB.refl _ _⟩
  case round =>
    obtain ⟨k, I, hk, rfl, HI, ⟨pre, hpre, hJs⟩, hkp⟩ := hrel
    by_cases hkm : k < N
    · obtain ⟨i, hi⟩ : ∃ i : Nat, i = N - 1 - k := ⟨_, rfl⟩
      obtain rfl : I = (i : Int) := by have := HI.out; omega
      have gi0 : (0 : Int) ≤ (i : Int) := by omega
      have gi1 : IntKind.i64.wrap ((i : Int) - 1) = (i : Int) - 1 := by rw [IntKind.wrap_i64]; have := HNb.out; omega
      have hbox := (hkp.cell (p := ⟨Bs, 0, none⟩) hS).trans hBs
      have hBit := HBIT.out i k wr hkp hi (by have := HNb.out; omega)
      have hlen2 : pre.length < N := by
        have := congrArg List.length hpre.out
        rw [List.length_map, List.length_range] at this
        omega
      obtain ⟨fn, tmps, assign, body, hy, hR⟩ := hY pre ⟨k, hkm⟩ wr hJs hlen2
      dsimp only at hy
      have HI2 := toHid hi
      clear hi
      gi_wp2_with fail
      refine ⟨trivial, ?_⟩
      refine (callsIn_wide.2 hBit).mono ?_
      rintro e w2 ⟨rfl, rfl⟩
      clear hBit
      gi_wp2_with fail
      refine hR.mono ?_
      rintro e W3 (⟨rfl, hJ3, hk3⟩ | ⟨rfl, hJx3⟩)
      · gi_wp2_with fail
        go_roundw
        case rel => exact ⟨k + 1, (i : Int) - 1, hkm, by first | rfl | (rw [gi1]), by have := HI.out; unfold Hid; omega, ⟨pre ++ [⟨k, hkm⟩], by unfold Hid; rw [List.map_append, hpre.out, List.range_succ]; rfl, hJ3⟩, hkp.trans hk3⟩
        case measure => simp [intOf]
      · gi_wp2_with fail
        refine bodyPost_ret (results_none rfl _ _ _) rfl ?_
        exact ⟨⟨_, rfl⟩, .inr ⟨_, trivial, hJx3⟩⟩
    · obtain rfl : k = N := by omega
      obtain rfl : I = -1 := by have := HI.out; omega
      gi_wp2_with fail
      go_end0
      exact ⟨⟨_, rfl⟩, .inl ⟨pre, hpre.out, hJs⟩⟩

/-- bitsOf: the slice is boxed; the function value holds the box. -/
theorem shoBox (ao : Option Addr) (len cap : Nat) (w : World) :
    Calls Tryz.prog 88 #[.slice ao len cap] w fun e w' => e = .returned (.func (.func 104) #[] #[.pointer (some ⟨w.heap.size, 0, none⟩)]) ∧ w' = w.alloc (.cells #[.slice ao len cap] 23) := by
  go_enter Tryz.func88, Tryz.ntmps88
  go_wp2
  go_ret
  exact ⟨rfl, rfl⟩

/-- bitsOf's value, as a range over it wants it. -/
theorem shoStops (n : Nat) (hn : 1 ≤ n) (Bs L N : Nat) (g : Nat → Nat) (v : Value) (ys : List Nat) (hd : Digs 18446744073709551616 ys) (hL : ys.length = L) (hN : blen (val 18446744073709551616 ys) = N) (hb : L ≤ 1000000) (hg : ∀ j, val 18446744073709551616 ys / 2 ^ (N - 1 - j) % 2 = g j) (S : Nat → Prop) (hS : S Bs) (hSv : ∀ b, v.ownBlock = some b → 0 < L → S b)
    (w : World) (hSw : ∀ k, S k → k < w.heap.size) (hBs : w.cell? ⟨Bs, 0, none⟩ = some v) (hr : Row .u64 w v ys) :
    SeqStopsK Fence.wide n Tryz.prog 104 #[.pointer (some ⟨Bs, 0, none⟩)] (fun x : Fin N => #[Value.int .u64 (g x.val : Nat)]) (KeepB S) (fun zs => zs.map Fin.val = List.range N) (fun _ => True) N w := fun l J Jx W hW _ _ hY h0 => by
  have hk : KeepB S w W := fun k hk => hW.block k (hSw k hk)
  exact sho1 n hn l Bs L N g v ys hd hL hN hb hg S hS hSv J Jx hY W ((hk.cell (p := ⟨Bs, 0, none⟩) hS).trans hBs) (hk.row (fun b hb hp => hSv b hb (by omega)) hr) h0

end Go.Proofs.YtldbfcifoijliaaGreatDoor


/- Melted of: PowN PowA PowB. -/

/- Package power: its numbers: Montgomery's form, windows of four bits. -/
namespace Go.Proofs.YtldbfcifoijliaaGreatDoor
open Go.RowKit

/-- A number as Enter has it. -/
def mon (n V X : Nat) : Nat := 2 ^ (64 * n) * X % V

theorem mon_lt {n V X : Nat} (hV : 0 < V) : mon n V X < V := Nat.mod_lt _ hV

theorem mon_mul {n V A B Y : Nat} (hodd : V % 2 = 1) (h1 : Y < V) (h2 : 2 ^ (64 * n) * Y % V = mon n V A * mon n V B % V) : Y = mon n V (A * B) := by
  have hco : Nat.Coprime (2 ^ (64 * n)) V := (odd_coprime hodd).symm
  refine (Nat.mod_eq_of_lt h1).symm.trans ?_
  unfold mon at *
  refine cancel_mod hco ?_
  rw [h2, ← Nat.mul_mod]
  congr 1
  generalize 2 ^ (64 * n) = R
  grind

theorem mon_leave {n V A Y : Nat} (hodd : V % 2 = 1) (h1 : Y < V) (h2 : 2 ^ (64 * n) * Y % V = mon n V A % V) : Y = A % V := by
  have hco : Nat.Coprime (2 ^ (64 * n)) V := (odd_coprime hodd).symm
  refine (Nat.mod_eq_of_lt h1).symm.trans ?_
  refine cancel_mod hco ?_
  rw [h2]
  unfold mon
  rw [Nat.mod_mod]

end Go.Proofs.YtldbfcifoijliaaGreatDoor

/- Package power: attempt, refuse, step; a modulus and numbers in Montgomery's form, in memory; Mul, Enter and Leave on them. -/
namespace Go.Proofs.YtldbfcifoijliaaGreatDoor
open Go.RowKit

/-- A modulus that is one, apart from the trace. -/
structure Mod8 (w : World) (o : Tr) (ao bo : Option Addr) (n l K mcap rcap : Nat) (ms rs : List Nat) : Prop where
  hm : RowT w o (.slice ao n mcap) ms
  hr : RowT w o (.slice bo l rcap) rs
  hmd : Digs 18446744073709551616 ms
  hrd : Digs 18446744073709551616 rs
  hK : K < 18446744073709551616
  ok : okMod ms K rs

theorem Mod8.did {w w' : World} {o o' : Tr} {m : List Ev} {ao bo : Option Addr} {n l K mcap rcap : Nat} {ms rs : List Nat} (h : Mod8 w o ao bo n l K mcap rcap ms rs) (d : Did w o m w' o') : Mod8 w' o' ao bo n l K mcap rcap ms rs := ⟨h.hm.did d, h.hr.did d, h.hmd, h.hrd, h.hK, h.ok⟩

theorem Mod8.grew {w w' : World} {o : Tr} {ao bo : Option Addr} {n l K mcap rcap : Nat} {ms rs : List Nat} (h : Mod8 w o ao bo n l K mcap rcap ms rs) (k : Kept Nought w w') : Mod8 w' o ao bo n l K mcap rcap ms rs := ⟨h.hm.grew k, h.hr.grew k, h.hmd, h.hrd, h.hK, h.ok⟩

/-- What is known of its numbers. -/
theorem Mod8.facts {w : World} {o : Tr} {ao bo : Option Addr} {n l K mcap rcap : Nat} {ms rs : List Nat} (h : Mod8 w o ao bo n l K mcap rcap ms rs) : (0 < n ∧ n ≤ 130) ∧ l = n ∧ val 18446744073709551616 ms % 2 = 1 ∧ 2 ≤ val 18446744073709551616 ms ∧ val 18446744073709551616 ms < 18446744073709551616 ^ n := by
  obtain ⟨_, _, _, e1, h1, _⟩ := h.hm.1.open
  cases e1
  obtain ⟨_, _, _, e1, h2, _⟩ := h.hr.1.open
  cases e1
  obtain ⟨_, f2, f3, f4, f5, f6, _⟩ := h.ok.facts h1.out h2.out h.hmd h.hrd h.hK
  have m := montE_ok h.ok.1
  exact ⟨⟨f2, f3⟩, f4, f5, by omega, f6⟩

/-- A number in Montgomery's form, in a block of words. -/
def MonAt (w : World) (v : Value) (n V P : Nat) : Prop := Row .u64 w v (digs 18446744073709551616 (mon n V P) n) ∧ U64s w v

theorem MonAt.did {w w' : World} {o o' : Tr} {m : List Ev} {v : Value} {n V P : Nat} (h : MonAt w v n V P) (d : Did w o m w' o') (ht : TrIn w o) : MonAt w' v n V P := ⟨((h.2.rowT h.1 ht).did d).1, h.2.did d ht⟩

theorem MonAt.grew {w w' : World} {v : Value} {n V P : Nat} (h : MonAt w v n V P) (k : Kept Nought w w') : MonAt w' v n V P := ⟨h.1.grew k, h.2.grew k⟩

theorem MonAt.kept {S : Nat → Prop} {w w' : World} {v : Value} {n V P : Nat} (h : MonAt w v n V P) (k : Kept S w w') (hs : ∀ b, v.ownBlock = some b → ¬ S b) : MonAt w' v n V P := ⟨h.1.kept k hs, h.2.kept k hs⟩

theorem MonAt.shape {w : World} {v : Value} {n V P : Nat} (h : MonAt w v n V P) : ∃ xo xc, v = .slice xo n xc := by
  obtain ⟨xo, xn, xc, rfl, hl, _⟩ := h.1.open
  have := hl.out
  rw [digs_length] at this
  subst this
  exact ⟨_, _, rfl⟩

theorem mon_val {n V P : Nat} (hV : 0 < V) (hn : V < 18446744073709551616 ^ n) : val 18446744073709551616 (digs 18446744073709551616 (mon n V P) n) = mon n V P := by
  rw [val_digs, Nat.mod_eq_of_lt (Nat.lt_trans (mon_lt hV) hn)]

end Go.Proofs.YtldbfcifoijliaaGreatDoor

/- Package power: the sixteen powers that stand ready (powers). -/
namespace Go.Proofs.YtldbfcifoijliaaGreatDoor
open Go.RowKit

/-- A row of numbers, in a block of its own type, is no part of a trace. -/
theorem ownN_apart {w : World} {o : Tr} {base size n : Nat} {v : Value} {xs : List Value} (h : w.ownsRow base 23 size v n xs) (ht : TrIn w o) : ∀ b, v.ownBlock = some b → ¬ trFoot o b := by
  rcases h.2 with ⟨rfl, _⟩ | ⟨g', cap, cur, rfl, _, hgg, _⟩
  · intro b hb
    cases hb
  · intro b hb
    have e : g' = b := by simpa [Value.ownBlock] using hb
    subst e
    exact cells_apart hgg ht (by decide) (by decide)

/-- A table: the first k powers of X in Montgomery's form; each number is new since w0, or xv. -/
def Tab8 (w0 w : World) (xv v : Value) (n k : Nat) (A : Nat → Option Addr) (C : Nat → Nat) (V X : Nat) : Prop :=
  w.ownsRow w0.heap.size 23 1 v k ((List.range k).map fun j => .slice (A j) n (C j)) ∧ ∀ j, j < k → MonAt w (.slice (A j) n (C j)) n V (X ^ j) ∧ (Fresh w0 (.slice (A j) n (C j)) ∨ Value.slice (A j) n (C j) = xv)

theorem Tab8.did {w0 w w' : World} {o o' : Tr} {m : List Ev} {xv v : Value} {n k V X : Nat} {A : Nat → Option Addr} {C : Nat → Nat} (h : Tab8 w0 w xv v n k A C V X) (d : Did w o m w' o') (ht : TrIn w o) : Tab8 w0 w' xv v n k A C V X :=
  ⟨d.kept.own h.1 (ownN_apart h.1 ht), fun j hj => ⟨(h.2 j hj).1.did d ht, (h.2 j hj).2⟩⟩

theorem Tab8.grew {w0 w w' : World} {xv v : Value} {n k V X : Nat} {A : Nat → Option Addr} {C : Nat → Nat} (h : Tab8 w0 w xv v n k A C V X) (kk : Kept Nought w w') : Tab8 w0 w' xv v n k A C V X :=
  ⟨kk.own h.1 (fun _ _ f => f), fun j hj => ⟨(h.2 j hj).1.grew kk, (h.2 j hj).2⟩⟩

theorem Tab8.after {w0 W w : World} {xv v : Value} {n k V X : Nat} {A : Nat → Option Addr} {C : Nat → Nat} (h : Tab8 W w xv v n k A C V X) (kk : Kept Nought w0 W) : Tab8 w0 w xv v n k A C V X :=
  ⟨own_base h.1 (fun b e => Nat.le_trans kk.size (World.ownsRow.lt h.1 b e).1), fun j hj => ⟨(h.2 j hj).1, (h.2 j hj).2.imp (fun f => f.after kk) id⟩⟩

theorem Tab8.at {w0 w : World} {xv : Value} {n k c g V X : Nat} {A : Nat → Option Addr} {C : Nat → Nat} (h : Tab8 w0 w xv (.slice (some ⟨g, 0, none⟩) k c) n k A C V X) {j : Nat} (hj : j < k) : w.cell? ⟨g, j, none⟩ = some (.slice (A j) n (C j)) := by
  rw [World.ownsRow.cellAt h.1 j (by omega), List.getElem?_map, List.getElem?_range hj]
  rfl

end Go.Proofs.YtldbfcifoijliaaGreatDoor

