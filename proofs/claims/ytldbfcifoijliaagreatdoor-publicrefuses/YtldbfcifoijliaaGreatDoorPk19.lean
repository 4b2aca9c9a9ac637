/- Put together of: Ref6o Iva1 Iva2 Iva3 RinB RinC Iva4 Law6. -/
import Derived.Test.YtldbfcifoijliaaGreatDoorPk1
import Derived.Test.YtldbfcifoijliaaGreatDoorPk4
import Derived.Test.YtldbfcifoijliaaGreatDoorPk10
import Derived.Test.YtldbfcifoijliaaGreatDoorPk11
import Derived.Test.YtldbfcifoijliaaGreatDoorPk14
import Derived.Test.YtldbfcifoijliaaGreatDoorPk15
import Derived.Test.YtldbfcifoijliaaGreatDoorPk16
import Derived.Test.YtldbfcifoijliaaGreatDoorPk17
import Derived.Test.YtldbfcifoijliaaGreatDoorPk18
import Derived.Deep.RegionWith
import Derived.Deep.RegionHeld3

/- Melted of: Ref6F Ref6G Ref6H. -/

/- The plain side of layer 6: times: products modulo a modulus. -/
namespace Go.Proofs.YtldbfcifoijliaaGreatDoor
open Go.RowKit

theorem okMod.len {ms rs : List Nat} {K : Nat} (h : okMod ms K rs) : ms.length ≤ 130 ∧ ms.length = wordsN (val 18446744073709551616 ms) ∧ 2 ≤ val 18446744073709551616 ms ∧ val 18446744073709551616 ms % 2 = 1 := by
  obtain ⟨h1, h2, _, _⟩ := h
  obtain ⟨e1, e2, e3⟩ := montE_ok h1
  unfold modM at h2
  rw [if_pos h1] at h2
  have : ms.length = wordsN (val 18446744073709551616 ms) := by
    have := congrArg List.length h2
    rw [digs_length] at this
    exact this.symm
  exact ⟨by omega, this, e2, e3⟩

/-- The value v lies in memory that w has not yet. -/
def NewIn (w : World) (v : Value) : Prop := ∀ b, v.ownBlock = some b → w.heap.size ≤ b

theorem NewIn.nil (w : World) : NewIn w (.slice none 0 0) := fun b hb => by cases hb

theorem NewIn.of {w W : World} {v : Value} (h : v.ownBlock = some W.heap.size) (k : Kept Nought w W) : NewIn w v := fun b hb => by
  rw [h] at hb
  cases hb
  exact k.size

theorem NewIn.after {w W : World} {v : Value} (h : NewIn W v) (k : Kept Nought w W) : NewIn w v := fun b hb => Nat.le_trans k.size (h b hb)

/-- n slices in a row, at ao (the plain side's word for it). -/
def SlotsR (w : World) (ao : Option Addr) (n : Nat) (A : Nat → Option Addr) (L C : Nat → Nat) : Prop :=
  ∀ i, i < n → ∃ b off, ao = some ⟨b, off, none⟩ ∧ w.cell? ⟨b, off + i, none⟩ = some (.slice (A i) (L i) (C i))

theorem SlotsR.grew {w w' : World} {ao : Option Addr} {n : Nat} {A : Nat → Option Addr} {L C : Nat → Nat} (h : SlotsR w ao n A L C) (k : Kept Nought w w') : SlotsR w' ao n A L C := by
  intro i hi
  obtain ⟨b, off, rfl, hc⟩ := h i hi
  exact ⟨b, off, rfl, k.cellN hc⟩

end Go.Proofs.YtldbfcifoijliaaGreatDoor

/- The plain side of layer 6: Enter, Leave, Mul, One. -/
namespace Go.Proofs.YtldbfcifoijliaaGreatDoor
open Go.RowKit

end Go.Proofs.YtldbfcifoijliaaGreatDoor

/- The plain side of layer 6: Leave, Mul, One, and what a bad modulus does. -/
namespace Go.Proofs.YtldbfcifoijliaaGreatDoor
open Go.RowKit

end Go.Proofs.YtldbfcifoijliaaGreatDoor


/- Melted of: Dst1 Dst2 Ivn1. -/

/- Numbers of layer 10: behind so many of the document's steps g is 0 and f is the greatest divisor, or less than 0 by as much. What a round from d = 1 to d = 1 makes of f and g lies in a polygon that shrinks. -/
namespace Go.Proofs.YtldbfcifoijliaaGreatDoor

end Go.Proofs.YtldbfcifoijliaaGreatDoor

/- Numbers of layer 10: the steps themselves; behind Steps of them g is 0 and f is the greatest divisor, or less than 0 by as much. -/
namespace Go.Proofs.YtldbfcifoijliaaGreatDoor

/-- A step: d, f, g. -/
def dst (s : Int × Int × Int) : Int × Int × Int := if 0 < s.1 ∧ s.2.2 % 2 = 1 then (1 - s.1, s.2.2, (s.2.2 - s.2.1) / 2) else (1 + s.1, s.2.1, (s.2.2 + s.2.2 % 2 * s.2.1) / 2)

def dsts (s : Int × Int × Int) : Nat → Int × Int × Int
  | 0 => s
  | t + 1 => dst (dsts s t)

end Go.Proofs.YtldbfcifoijliaaGreatDoor

/- Numbers of layer 10: two's complement, what a step makes of the numbers and of their coefficients, what stands there in the end. -/
namespace Go.Proofs.YtldbfcifoijliaaGreatDoor

/-- What a step picks: 1, if f and g change places. -/
def swN (d g : Int) : Nat := if 0 < d ∧ g % 2 = 1 then 1 else 0

theorem dst_eq (d f g : Int) : dst (d, f, g) = ((if swN d g = 1 then 1 - d else 1 + d), (if swN d g = 1 then g else f), (g + ((g % 2) - 2 * (swN d g : Int)) * f) / 2) := by
  unfold dst swN
  by_cases h : 0 < d ∧ g % 2 = 1
  · rw [if_pos h, if_pos h, if_pos rfl, if_pos rfl, h.2]
    rw [show g + ((1 : Int) - 2 * ((1 : Nat) : Int)) * f = g - f by omega]
  · rw [if_neg h, if_neg h, if_neg (by omega), if_neg (by omega)]
    rw [show g % 2 - 2 * ((0 : Nat) : Int) = g % 2 by omega]

/-- What is known of the steps' numbers ahead of step t, whatever the modulus. -/
def StIn (Q : Nat) (t : Nat) (s : Int × Int × Int) : Prop := (-(t : Int) ≤ s.1 ∧ s.1 ≤ t + 1) ∧ (-(Q : Int) < s.2.1 ∧ s.2.1 < Q) ∧ (-(Q : Int) < s.2.2 ∧ s.2.2 < Q)

theorem StIn.step {Q t : Nat} {s : Int × Int × Int} (h : StIn Q t s) : StIn Q (t + 1) (dst s) := by
  obtain ⟨d, f, g⟩ := s
  unfold StIn dst at *
  dsimp only at h ⊢
  split
  · dsimp only
    omega
  · dsimp only
    have h2 : g % 2 = 0 ∨ g % 2 = 1 := by omega
    rcases h2 with h2 | h2 <;> rw [h2] <;> omega

theorem StIn.all {Q : Nat} {s : Int × Int × Int} (h : StIn Q 0 s) : ∀ t, StIn Q t (dsts s t)
  | 0 => h
  | t + 1 => (StIn.all h t).step

/-- The coefficients: modulo M, f is u times a and g is v times a. -/
def CoOk (M a U V : Nat) (s : Int × Int × Int) : Prop := U < M ∧ V < M ∧ (M : Int) ∣ (U : Int) * a - s.2.1 ∧ (M : Int) ∣ (V : Int) * a - s.2.2

theorem dvd_half {M : Nat} {x : Int} (hM : M % 2 = 1) (h : (M : Int) ∣ 2 * x) : (M : Int) ∣ x := by
  obtain ⟨z, hz⟩ := h
  obtain ⟨q, hq⟩ : ∃ q : Int, (M : Int) = 2 * q + 1 := ⟨(M / 2 : Nat), by omega⟩
  refine ⟨x - q * z, ?_⟩
  rw [Int.mul_sub, show (M : Int) * (q * z) = q * (M * z) by grind, ← hz, hq]
  grind

theorem CoOk.step {M a U V U' V' : Nat} {d f g : Int} (h : CoOk M a U V (d, f, g)) (hM : M % 2 = 1) (hf : f % 2 = 1) (hU : U' = if swN d g = 1 then V else U) (hV : V' < M) (h2 : (M : Int) ∣ 2 * (V' : Int) - (V + ((g % 2) - 2 * (swN d g : Int)) * U)) : CoOk M a U' V' (dst (d, f, g)) := by
  obtain ⟨h1, h3, h4, h5⟩ := h
  dsimp only at h4 h5
  rw [dst_eq]
  refine ⟨?_, hV, ?_, ?_⟩
  · rw [hU]; split <;> assumption
  · dsimp only
    rw [hU]
    split <;> assumption
  · dsimp only
    obtain ⟨c, hc⟩ : ∃ c, c = g % 2 - 2 * (swN d g : Int) := ⟨_, rfl⟩
    rw [← hc] at h2 ⊢
    have he : (g + c * f) % 2 = 0 := by
      have h01 : g % 2 = 0 ∨ g % 2 = 1 := by omega
      have hs : swN d g = 0 ∨ swN d g = 1 := by unfold swN; split <;> omega
      have hc' : (c = 0 ∧ g % 2 = 0) ∨ (c = 1 ∧ g % 2 = 1) ∨ (c = -1 ∧ g % 2 = 1) := by
        unfold swN at hc hs
        by_cases hh : 0 < d ∧ g % 2 = 1
        · rw [if_pos hh] at hc; omega
        · rw [if_neg hh] at hc; omega
      rcases hc' with ⟨rfl, _⟩ | ⟨rfl, _⟩ | ⟨rfl, _⟩ <;> omega
    obtain ⟨G, hG⟩ : ∃ G, G = (g + c * f) / 2 := ⟨_, rfl⟩
    rw [← hG]
    have hG2 : 2 * G = g + c * f := by omega
    apply dvd_half hM
    have e : 2 * ((V' : Int) * a - G) = (2 * (V' : Int) - (V + c * U)) * a + ((V : Int) * a - g) + c * ((U : Int) * a - f) := by
      have : 2 * ((V' : Int) * a - G) = 2 * (V' : Int) * a - 2 * G := by grind
      rw [this, hG2]
      grind
    rw [e]
    exact Int.dvd_add (Int.dvd_add (Int.dvd_mul_of_dvd_left h2) h5) (Int.dvd_mul_of_dvd_right h4)

end Go.Proofs.YtldbfcifoijliaaGreatDoor


/- Melted of: Ivn2 Ivn3 Ivn4. -/

/- Package inverse: numbers of fixed lengths beside a trace: the calls of limbs as the steps want them; fitted, sign, halved, combined, Steps. -/
namespace Go.Proofs.YtldbfcifoijliaaGreatDoor
open Go.RowKit

/-- A number of n words, apart from the trace. -/
def NumT (w : World) (o : Tr) (v : Value) (n X : Nat) : Prop := RowT w o v (digs 18446744073709551616 X n) ∧ X < 18446744073709551616 ^ n

theorem NumT.did {w w' : World} {o o' : Tr} {m : List Ev} {v : Value} {n X : Nat} (h : NumT w o v n X) (d : Did w o m w' o') : NumT w' o' v n X := ⟨h.1.did d, h.2⟩

theorem NumT.grew {w w' : World} {o : Tr} {v : Value} {n X : Nat} (h : NumT w o v n X) (k : Kept Nought w w') : NumT w' o v n X := ⟨h.1.grew k, h.2⟩

theorem NumT.of {w : World} {o : Tr} {v : Value} {xs : List Nat} {n : Nat} (h : RowT w o v xs) (hd : Digs 18446744073709551616 xs) (hl : xs.length = n) : NumT w o v n (val 18446744073709551616 xs) := by
  subst hl
  refine ⟨?_, val_lt (by omega) hd⟩
  rw [digs_val_self hd]
  exact h

theorem NumT.own {w : World} {o : Tr} {base n : Nat} {v : Value} {X : Nat} (h : OwnN .u64 24 w base v n (digs 18446744073709551616 X n)) (hX : X < 18446744073709551616 ^ n) (ht : TrIn w o) : NumT w o v n X := ⟨own_rowT h (digs_length _ _ _) ht, hX⟩

theorem NumT.shape {w : World} {o : Tr} {v : Value} {n X : Nat} (h : NumT w o v n X) : ∃ ao cap, v = .slice ao n cap := by
  obtain ⟨ao, L, cap, rfl, hL, _⟩ := h.1.1.open
  have := hL.out
  rw [digs_length] at this
  subst this
  exact ⟨ao, cap, rfl⟩

/-- Such a number in a block of words. -/
def NumN (w : World) (o : Tr) (v : Value) (n X : Nat) : Prop := NumT w o v n X ∧ U64s w v

theorem NumN.did {w w' : World} {o o' : Tr} {m : List Ev} {v : Value} {n X : Nat} (h : NumN w o v n X) (d : Did w o m w' o') (ht : TrIn w o) : NumN w' o' v n X := ⟨h.1.did d, h.2.did d ht⟩

theorem NumN.own {w : World} {o : Tr} {base n : Nat} {v : Value} {X : Nat} (h : OwnN .u64 24 w base v n (digs 18446744073709551616 X n)) (hX : X < 18446744073709551616 ^ n) (ht : TrIn w o) : NumN w o v n X := ⟨NumT.own h hX ht, U64s.own h⟩

/-- It stays where a struct's cells are written. -/
theorem NumN.put {w w' : World} {o : Tr} {v : Value} {n X p : Nat} {cs : Array Value} {t : TypeId} {fr : Nat × Nat} (h : NumN w o v n X) (hp : w.heap[p]? = some (.cells cs t fr)) (ht : t ≠ 24) (k : Kept (fun b => b = p) w w') : NumN w' o v n X := by
  have hne : ∀ b, v.ownBlock = some b → ¬ b = p := fun b hb e => by
    obtain ⟨cs', fr', h'⟩ := h.2 b hb
    rw [e, hp] at h'
    cases h'
    exact ht rfl
  exact ⟨⟨⟨h.1.1.1.kept k hne, h.1.1.2⟩, h.1.2⟩, h.2.kept k hne⟩

/-- What has been written down since w0, and the trace as it is. -/
structure Wr (w0 : World) (o0 : Tr) (m : List Ev) (w : World) (o : Tr) (tp : Value) (k : Nat) : Prop where
  did : Did w0 o0 m w o
  room : TrRoom w o k
  ptr : trPtr o = tp

theorem Wr.next {w0 w w' : World} {o0 o o' : Tr} {m m' : List Ev} {tp : Value} {k j : Nat} (s : Wr w0 o0 m w o tp j) (d : Did w o m' w' o') (hj : m'.length + k ≤ j) : Wr w0 o0 (m ++ m') w' o' tp k :=
  ⟨s.did.trans d, d.room (s.room.less hj), d.ptr.trans s.ptr⟩

theorem Wr.grew {w0 w w' : World} {o0 o : Tr} {m : List Ev} {tp : Value} {k : Nat} (s : Wr w0 o0 m w o tp k) (h : Kept Nought w w') : Wr w0 o0 m w' o tp k := ⟨s.did.grew h, s.room.grew h, s.ptr⟩

theorem Wr.less {w0 w : World} {o0 o : Tr} {m : List Ev} {tp : Value} {k j : Nat} (s : Wr w0 o0 m w o tp j) (h : k ≤ j) : Wr w0 o0 m w o tp k := ⟨s.did, s.room.less h, s.ptr⟩

/-- A struct's cells stay, whatever is written down. -/
theorem Did.cells {w w' : World} {o o' : Tr} {m : List Ev} {g : Nat} {cs : Array Value} {t : TypeId} {fr : Nat × Nat} (d : Did w o m w' o') (h : w.heap[g]? = some (.cells cs t fr)) (ht : TrIn w o) (h1 : t ≠ 152) (h2 : t ≠ 148) : w'.heap[g]? = some (.cells cs t fr) :=
  (d.kept.block g (lt_of_block h) (cells_apart h ht h1 h2)).trans h

end Go.Proofs.YtldbfcifoijliaaGreatDoor

/- Package inverse: fitted; what a step makes of the coefficients. -/
namespace Go.Proofs.YtldbfcifoijliaaGreatDoor
open Go.RowKit

end Go.Proofs.YtldbfcifoijliaaGreatDoor

/- Package inverse: a step. -/
namespace Go.Proofs.YtldbfcifoijliaaGreatDoor
open Go.RowKit

end Go.Proofs.YtldbfcifoijliaaGreatDoor


/- Melted of: Ivn5 Ivn6. -/

/- Package inverse: stepped. -/
namespace Go.Proofs.YtldbfcifoijliaaGreatDoor
open Go.RowKit

end Go.Proofs.YtldbfcifoijliaaGreatDoor

/- Package inverse: what stands ahead of all steps; how many there are. -/
namespace Go.Proofs.YtldbfcifoijliaaGreatDoor
open Go.RowKit

theorem NumN.grew {w w' : World} {o : Tr} {v : Value} {n X : Nat} (h : NumN w o v n X) (k : Kept Nought w w') : NumN w' o v n X := ⟨h.1.grew k, h.2.grew k⟩

end Go.Proofs.YtldbfcifoijliaaGreatDoor


/- Package ring: haveLength, asked. -/
namespace Go.Proofs.YtldbfcifoijliaaGreatDoor
open Go.RowKit

/-- Where an answer lies, where that is told. -/
def Lies (u : Bool) (w w' : World) (v : Value) : Prop := u = true → Fresh w v ∧ U64s w' v

theorem Lies.grew {u : Bool} {w w' w2 : World} {v : Value} (h : Lies u w w' v) (k : Kept Nought w' w2) : Lies u w w2 v := fun e => ⟨(h e).1, (h e).2.grew k⟩

theorem Lies.nil (u : Bool) (w w' : World) : Lies u w w' (.slice none 0 0) := fun _ => ⟨(fun b hb => by cases hb), U64s.nil _⟩

theorem Lies.after {u : Bool} {w W w' : World} {v : Value} (h : Lies u W w' v) (hs : w.heap.size ≤ W.heap.size) : Lies u w w' v := fun e => ⟨fun b hb => Nat.le_trans hs ((h e).1 b hb), (h e).2⟩

/-- What ring's asked answers: R holds of the number and the error where m is a modulus and all are its members, else there is none. -/
def Asked (w : World) (o : Tr) (u : Bool) (P : Prop) (R : List Nat → Nat → Prop) (dE : List Ev) (w' : World) (v' : Value) (c : Nat) : Prop :=
  ∃ (zs : List Nat) (m : List Ev) (o' : Tr), Row .u64 w' v' zs ∧ Lies u w w' v' ∧ Did w o m w' o' ∧ (P → R zs c ∧ m = dE) ∧ (¬ P → zs = [] ∧ c = 1)

end Go.Proofs.YtldbfcifoijliaaGreatDoor


/- Package ring: Add, Sub. -/
namespace Go.Proofs.YtldbfcifoijliaaGreatDoor
open Go.RowKit

theorem Asked.after {w W : World} {o : Tr} {u : Bool} {P : Prop} {R : List Nat → Nat → Prop} {dE : List Ev} {w' : World} {v' : Value} {c : Nat} (k : Kept Nought w W) (h : Asked W o u P R dE w' v' c) : Asked w o u P R dE w' v' c := by
  obtain ⟨zs, m, o', h1, h2, h3, h4⟩ := h
  exact ⟨zs, m, o', h1, h2.after k.size, Did.after k h3, h4⟩

end Go.Proofs.YtldbfcifoijliaaGreatDoor


/- Melted of: Ivn7 Ivn8. -/

/- Package inverse: inverted: all steps, and what is answered behind them. -/
namespace Go.Proofs.YtldbfcifoijliaaGreatDoor
open Go.RowKit

theorem TrIn.put {w w' : World} {o : Tr} {p : Nat} (h : TrIn w o) (k : Kept (fun b => b = p) w w') (hf : ¬ trFoot o p) : TrIn w' o := by
  rcases o with _ | ⟨q, g, l⟩
  · trivial
  · exact ⟨h.1.kept k (fun e => hf (.inl e.symm)) (fun x hx e => hf (.inr (by rw [← e]; exact hx))), h.2⟩

end Go.Proofs.YtldbfcifoijliaaGreatDoor

/- Package inverse: Of. -/
namespace Go.Proofs.YtldbfcifoijliaaGreatDoor
open Go.RowKit

end Go.Proofs.YtldbfcifoijliaaGreatDoor


/- Melted of: L6A L6B L6C. -/

/- The laws' small functions of layers 6 to 8: few, Same, as. -/
namespace Go.Proofs.YtldbfcifoijliaaGreatDoor
open Go.RowKit

end Go.Proofs.YtldbfcifoijliaaGreatDoor

/- The laws' first test of layer 6. -/
namespace Go.Proofs.YtldbfcifoijliaaGreatDoor
open Go.RowKit

/-- What Setup answers is a modulus. -/
theorem setup_ok {V K : Nat} (h : montE V = 0) (hK : isKf V K) : okMod (modM V) K (modR V) ∧ (modM V).length = wordsN V ∧ (modR V).length = wordsN V ∧ val 18446744073709551616 (modM V) = V ∧ Digs 18446744073709551616 (modM V) ∧ Digs 18446744073709551616 (modR V) := by
  have hM : modM V = digs 18446744073709551616 V (wordsN V) := by unfold modM; rw [if_pos h]
  have hR : modR V = digs 18446744073709551616 (2 ^ (128 * wordsN V) % V) (wordsN V) := by unfold modR; rw [if_pos h]
  have hv : val 18446744073709551616 (modM V) = V := by rw [hM, val_digs, Nat.mod_eq_of_lt ((wordsN_le V _).1 (Nat.le_refl _))]
  refine ⟨?_, by rw [hM, digs_length], by rw [hR, digs_length], hv, by rw [hM]; exact digs_digs (by omega) _ _, by rw [hR]; exact digs_digs (by omega) _ _⟩
  unfold okMod
  rw [hv]
  exact ⟨h, rfl, hK, rfl⟩

end Go.Proofs.YtldbfcifoijliaaGreatDoor

/- Both sides of layer 6 with no trace: Mul, Enter, Leave, One. -/
namespace Go.Proofs.YtldbfcifoijliaaGreatDoor
open Go.RowKit

end Go.Proofs.YtldbfcifoijliaaGreatDoor

