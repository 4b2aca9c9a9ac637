/- Put together of: NatG NatH Lsc4 Scr4 Lsc5 Lsc6 Law25 Law24. -/
import Derived.Test.YtnhkfdbeacmepaaDoorPk1
import Derived.Test.YtnhkfdbeacmepaaDoorPk25
import Derived.Test.YtnhkfdbeacmepaaDoorPk32
import Derived.Test.YtnhkfdbeacmepaaDoorPk33
import Derived.BigRegion
import Derived.Laws.OwnMore
import Derived.Deep.OwnRows

/- The words of bytes, the lowest ahead, as a range over a function hands them out (wordsOfBytes). -/
namespace Go.Proofs.YtnhkfdbeacmepaaDoor
open Go.RowKit Go.Shelf

attribute [local go_sem] Oper.semAt_some

/-- A part of a slice. -/
theorem Row.part {k : IntKind} {w : World} {b off n cap s e : Nat} {zs : List Nat} (h : Row k w (.slice (some ⟨b, off, none⟩) n cap) zs) (h1 : s < e) (h2 : e ≤ n) : Row k w (.slice (some ⟨b, off + s, none⟩) (e - s) (cap - s)) ((zs.drop s).take (e - s)) := by
  obtain ⟨ao, cap', e', c1, c2, _, h4⟩ := h
  cases e'
  have hl : ((zs.drop s).take (e - s)).length = e - s := by rw [List.length_take, List.length_drop]; omega
  refine ⟨_, _, by rw [hl], by omega, by omega, (fun e => by cases e), fun i hi => ?_⟩
  rw [hl] at hi
  obtain ⟨b', off', e', hcell⟩ := h4 (s + i) (by omega)
  cases e'
  refine ⟨b, off + s, rfl, ?_⟩
  rw [Nat.add_assoc, hcell, List.getD_eq_getElem?_getD, List.getD_eq_getElem?_getD, List.getElem?_take, if_pos hi, List.getElem?_drop]

end Go.Proofs.YtnhkfdbeacmepaaDoor


/- Package nat: Of: any bytes as a number of a length, or refused. -/
namespace Go.Proofs.YtnhkfdbeacmepaaDoor
open Go.RowKit Go.Shelf

attribute [local go_sem] Oper.semAt_some

/-- Which words have been put: those that came. -/
def Put (g : Nat → Nat) (L n : Nat) (pre : List (Fin L)) (zs : List Nat) : Prop := zs.length = n ∧ ∀ j, zs.getD j 0 = if j ∈ pre.map Fin.val then g j else 0

theorem Put.step {g : Nat → Nat} {L n : Nat} {pre : List (Fin L)} {zs : List Nat} (h : Put g L n pre zs) (x : Fin L) (hx : x.val < n) : Put g L n (pre ++ [x]) (zs.set x.val (g x.val)) := by
  refine ⟨by rw [List.length_set]; exact h.1, fun j => ?_⟩
  rw [List.getD_eq_getElem?_getD, List.getElem?_set, List.map_append]
  by_cases e : x.val = j
  · subst e
    simp [h.1, hx]
  · rw [if_neg e, ← List.getD_eq_getElem?_getD, h.2 j]
    have : ¬ j = x.val := fun h => e h.symm
    simp [this]

theorem Put.all {g : Nat → Nat} {L n V : Nat} {pre : List (Fin L)} {zs : List Nat} (h : Put g L n pre zs) (hp : pre.map Fin.val = List.range L) (hg : ∀ j, dig 18446744073709551616 V j = g j) (hV : wordsN V ≤ L) : zs = digs 18446744073709551616 V n := by
  apply List.ext_getElem
  · rw [h.1, digs_length]
  · intro i h1 h2
    have e := h.2 i
    rw [hp, List.getD_eq_getElem?_getD, List.getElem?_eq_getElem h1, Option.getD_some] at e
    have e2 := digs_getD 18446744073709551616 V n i (by rw [← h.1]; exact h1)
    rw [List.getD_eq_getElem?_getD, List.getElem?_eq_getElem h2, Option.getD_some] at e2
    rw [e, e2]
    by_cases hi : i < L
    · rw [if_pos (by simpa using hi), hg]
    · rw [if_neg (by simpa using hi)]
      unfold dig
      rw [Nat.div_eq_of_lt ((wordsN_le V i).1 (by omega)), Nat.zero_mod]

end Go.Proofs.YtnhkfdbeacmepaaDoor


/- Package script: the draws of a number, as a range over a function hands them out (draws). -/
namespace Go.Proofs.YtnhkfdbeacmepaaDoor
open Go.RowKit Go.Shelf

attribute [local go_sem] Oper.semAt_some

/-- A draw: the bytes from place k z on, in t bits. -/
def drwN (t z : Nat) (bs : List Nat) (k : Nat) : Nat := bev ((bs.drop (k * z)).take z) % 2 ^ t

/-- What is handed out, and what is left of the script then. -/
def DrwX (p : Option Addr) (B t z L : Nat) (bs : List Nat) (N : Nat) (pre : List (Nat × Value)) (x : Nat × Value) (A : World) : Prop :=
  x.1 = pre.length + 1 ∧ (pre.length + 1) * z ≤ bs.length ∧ (Row .u64 A x.2 (digs 18446744073709551616 (drwN t z bs pre.length) L) ∧ ∀ b, x.2.ownBlock = some b → N ≤ b) ∧ Lsc A p B (bs.drop ((pre.length + 1) * z))

theorem DrwX.put {p : Option Addr} {B t z L l N : Nat} {bs : List Nat} {pre : List (Nat × Value)} {x : Nat × Value} {A : World} {o : Obj} (o' : Obj) (h : DrwX p B t z L bs N pre x A) (hl : A.heap[l]? = some o) (ho : o.isCells = false) : DrwX p B t z L bs N pre x (A.putObj l o') :=
  ⟨h.1, h.2.1, ⟨row_put o' h.2.2.1.1 hl ho, h.2.2.1.2⟩, h.2.2.2.put o' hl ho⟩

theorem Lsc.low {A C : World} {p : Option Addr} {B D : Nat} {bs : List Nat} (h : Lsc A p B bs) (k : Below D A C) (hB : B ≤ D) : Lsc C p B bs :=
  h.kept (S := fun x => D ≤ x) ⟨k.os, k.tape, k.output, k.size, fun i _ hs => k.block i (Nat.lt_of_not_le hs)⟩ (fun x hx e => by
    have e' : D ≤ x := e
    omega)

/-- What stands between two draws: the script, the four boxes. -/
structure BtwD (W wr : World) (p : Option Addr) (B z k bp bz bt bn t L : Nat) (bs : List Nat) : Prop where
  few : k * z ≤ bs.length
  scr : Lsc wr p B (bs.drop (k * z))
  pb : Boxed wr bp 25 (.pointer p)
  zb : Boxed wr bz 3 (.int .i64 (z : Nat))
  tb : Boxed wr bt 3 (.int .i64 (t : Nat))
  nb : Boxed wr bn 3 (.int .i64 (L : Nat))
  size : W.heap.size ≤ wr.heap.size

theorem BtwD.kept {S : Nat → Prop} {W wr w' : World} {p : Option Addr} {B z k bp bz bt bn t L : Nat} {bs : List Nat} (b : BtwD W wr p B z k bp bz bt bn t L bs) (kk : Kept S wr w') (hB : ∀ x, x < B → ¬ S x) (h1 : ¬ S bp) (h2 : ¬ S bz) (h3 : ¬ S bt) (h4 : ¬ S bn) : BtwD W w' p B z k bp bz bt bn t L bs :=
  ⟨b.few, b.scr.kept kk hB, boxed_but b.pb kk h1, boxed_but b.zb kk h2, boxed_but b.tb kk h3, boxed_but b.nb kk h4, Nat.le_trans b.size kk.size⟩

/-- One draw further. -/
theorem BtwD.next {S : Nat → Prop} {W wr w' : World} {p : Option Addr} {B z k bp bz bt bn t L : Nat} {bs : List Nat} (b : BtwD W wr p B z k bp bz bt bn t L bs) (kk : Kept S wr w') (hf : (k + 1) * z ≤ bs.length) (hs : Lsc w' p B (bs.drop ((k + 1) * z))) (h1 : ¬ S bp) (h2 : ¬ S bz) (h3 : ¬ S bt) (h4 : ¬ S bn) : BtwD W w' p B z (k + 1) bp bz bt bn t L bs :=
  ⟨hf, hs, boxed_but b.pb kk h1, boxed_but b.zb kk h2, boxed_but b.tb kk h3, boxed_but b.nb kk h4, Nat.le_trans b.size kk.size⟩

end Go.Proofs.YtnhkfdbeacmepaaDoor


/- The plain side of layer 15: Below. -/
namespace Go.Proofs.YtnhkfdbeacmepaaDoor
open Go.RowKit

theorem belF_step {M t z f k : Nat} {bs : List Nat} (hf : bs.length < f) (hz : 0 < z) : (bs.length < z ∧ belF M t z f bs k = (0, 0, [])) ∨
    (¬ bs.length < z ∧ (0 < bev (bs.take z) % 2 ^ t ∧ bev (bs.take z) % 2 ^ t < M) ∧ belF M t z f bs k = (bev (bs.take z) % 2 ^ t, k, bs.drop z)) ∨
    (¬ bs.length < z ∧ ¬ (0 < bev (bs.take z) % 2 ^ t ∧ bev (bs.take z) % 2 ^ t < M) ∧ ∃ g, (bs.drop z).length < g ∧ belF M t z f bs k = belF M t z g (bs.drop z) (k + 1)) := by
  obtain ⟨g, rfl⟩ : ∃ g, f = g + 1 := ⟨f - 1, by omega⟩
  by_cases h1 : bs.length < z
  · exact .inl ⟨h1, by rw [belF, if_pos h1]⟩
  · by_cases h2 : 0 < bev (bs.take z) % 2 ^ t ∧ bev (bs.take z) % 2 ^ t < M
    · exact .inr (.inl ⟨h1, h2, by rw [belF, if_neg h1, if_pos h2]⟩)
    · exact .inr (.inr ⟨h1, h2, g, by rw [List.length_drop]; omega, by rw [belF, if_neg h1, if_neg h2]⟩)

end Go.Proofs.YtnhkfdbeacmepaaDoor


/- Package script: Below. -/
namespace Go.Proofs.YtnhkfdbeacmepaaDoor
open Go.RowKit Go.Shelf

attribute [local go_sem] Oper.semAt_some

/-- A number of some words lies apart from a block that holds none. -/
theorem row_apart {k : IntKind} {w : World} {b : Nat} {cs : Array Value} {t : TypeId} {v : Value} {xs : List Nat} (hb : w.heap[b]? = some (.cells cs t (0, 0))) (hc : ∀ u ∈ cs, ∀ z, u ≠ .int k z) (hv : Row k w v xs) (hx : xs ≠ []) : v.ownBlock ≠ some b := by
  intro e
  obtain ⟨ao, L, cap, rfl, hL, _, _, _, hnum⟩ := hv.open
  have hpos : 0 < L := by
    rw [← hL.out]
    exact List.length_pos_iff.2 hx
  obtain ⟨b', off, rfl, hcell⟩ := hnum 0 hpos
  cases e
  rw [cell_of_row w b' (off + 0) _ _ _ hb] at hcell
  exact hc _ (Array.mem_of_getElem? hcell) _ rfl

theorem Lsc.apart {k : IntKind} {w : World} {p : Option Addr} {B : Nat} {bs xs : List Nat} {v : Value} (h : Lsc w p B bs) (hv : Row k w v xs) (hx : xs ≠ []) (hk : k ≠ .i64 := by decide) : ∀ x, v.ownBlock = some x → ¬ ofP p x := by
  intro x e hp
  rcases h with ⟨rfl, _⟩ | ⟨b, v', ps, pl, rfl, _, h⟩
  · cases hp
  · cases hp
    refine row_apart h.1 ?_ hv hx e
    obtain ⟨_, _, rfl, _⟩ := h.2.1
    intro u hu z
    simp at hu
    rcases hu with rfl | rfl
    · simp
    · intro e
      cases e
      exact hk rfl

/-- How many draws were passed over, and none of them was it. -/
def BelK (M t z : Nat) (bs : List Nat) (k : Nat) : Prop := ∃ f, (bs.drop (k * z)).length < f ∧ belF M t z (bs.length + 1) bs 1 = belF M t z f (bs.drop (k * z)) (k + 1)

theorem BelK.zero (M t z : Nat) (bs : List Nat) : BelK M t z bs 0 := ⟨bs.length + 1, by simp, by simp⟩

theorem BelK.step {M t z k : Nat} {bs : List Nat} (h : BelK M t z bs k) (hz : 0 < z) (hl : (k + 1) * z ≤ bs.length) :
    (0 < drwN t z bs k ∧ drwN t z bs k < M ∧ belF M t z (bs.length + 1) bs 1 = (drwN t z bs k, k + 1, bs.drop ((k + 1) * z))) ∨ (¬ (0 < drwN t z bs k ∧ drwN t z bs k < M) ∧ BelK M t z bs (k + 1)) := by
  obtain ⟨f, hf, e⟩ := h
  have hd : (bs.drop (k * z)).drop z = bs.drop ((k + 1) * z) := by rw [List.drop_drop, Nat.succ_mul]
  have hlen : ¬ (bs.drop (k * z)).length < z := by rw [List.length_drop]; rw [Nat.succ_mul] at hl; omega
  rcases belF_step (M := M) (t := t) (k := k + 1) hf hz with ⟨h1, _⟩ | ⟨_, h2, h3⟩ | ⟨_, h2, f', hf', h3⟩
  · exact absurd h1 hlen
  · rw [hd] at h3
    exact .inl ⟨h2.1, h2.2, e.trans h3⟩
  · rw [hd] at h3 hf'
    exact .inr ⟨h2, f', hf', e.trans h3⟩

end Go.Proofs.YtnhkfdbeacmepaaDoor


/- Scripts: both sides' Below of any number; one script stands while another is read. -/
namespace Go.Proofs.YtnhkfdbeacmepaaDoor
open Go.RowKit

/-- Numbers of some words, or bytes, lie apart from a plain script. -/
theorem ScrAt.apart {k : IntKind} {w : World} {b B : Nat} {bs xs : List Nat} {v : Value} (h : ScrAt w b B bs) (hv : Row k w v xs) (hx : xs ≠ []) : v.ownBlock ≠ some b := by
  obtain ⟨u, h, _⟩ := h
  refine row_apart h.1 ?_ hv hx
  obtain ⟨_, _, rfl, _⟩ := h.2.1
  intro y hy z
  simp at hy
  rw [hy]
  simp

theorem ofP_some {a y : Nat} (h : ofP (some ⟨a, 0, none⟩) y) : y = a := (Option.some.inj h).symm

/-- A script stands while another is read. -/
theorem Lsc.other {w w' : World} {p q : Option Addr} {B C : Nat} {bs cs : List Nat} (h : Lsc w q C cs) (hp : Lsc w p B bs) (k : Kept (ofP p) w w') (hne : ∀ x, ofP p x → ofP q x → False) : Lsc w' q C cs := by
  rcases h with h | ⟨b, v, ps, pl, rfl, e, h1, h2, h3⟩
  · exact .inl h
  · exact .inr ⟨b, v, ps, pl, rfl, e, (k.block b (lt_of_block h1) (fun f => hne b f rfl)).trans h1, h2.kept' k (fun hx => hp.apart h2 hx), h3⟩

theorem ScrAt.noP {w : World} {p : Option Addr} {b B C : Nat} {bs cs : List Nat} (h : ScrAt w b C cs) (hp : Lsc w p B bs) : ¬ ofP p b := by
  obtain ⟨v, ⟨h1, _⟩, _⟩ := h
  intro f
  rcases hp with ⟨rfl, _⟩ | ⟨b', v', ps, pl, rfl, e, h3, _⟩
  · cases f
  · cases f
    have h3' : w.heap[b']? = some (.cells #[v', .int .i64 (pl : Nat)] 55 (0, 0)) := h3
    rw [h3'] at h1
    cases h1

/-- A plain script stands while a script is read, and the other way round. -/
theorem ScrAt.other {w w' : World} {p : Option Addr} {b B C : Nat} {bs cs : List Nat} (h : ScrAt w b C cs) (hp : Lsc w p B bs) (k : Kept (ofP p) w w') : ScrAt w' b C cs := by
  have hn := h.noP hp
  obtain ⟨v, h1, h2, h3⟩ := h
  exact ⟨v, h1.kept k hn (fun hx => hp.apart h1.2.1 hx), h2, h3⟩

theorem Lsc.plain {w w' : World} {p : Option Addr} {b B C : Nat} {bs cs : List Nat} (hp : Lsc w p B bs) (h : ScrAt w b C cs) (k : Kept (fun x => x = b) w w') : Lsc w' p B bs := by
  have hn := h.noP hp
  rcases hp with h' | ⟨b', v, ps, pl, rfl, e, h1, h2, h3⟩
  · exact .inl h'
  · refine .inr ⟨b', v, ps, pl, rfl, e, (k.block b' (lt_of_block h1) (fun f => hn (by rw [f]; rfl))).trans h1, h2.kept' k (fun hx x ex f => h.apart h2 hx (by rw [ex, f])), h3⟩

set_option maxRecDepth 20000 in
set_option maxHeartbeats 1000000 in
/-- Left, as a region that draws asks it. -/
theorem xLeftD (p : Option Addr) (B : Nat) (bs : List Nat) (w : World) (h : Lsc w p B bs) :
    Calls Tryd.prog 14 #[.pointer p] w fun e w' => e = .returned (.int .i64 (bs.length : Nat)) ∧ ∃ m, w' = w.drewN m := by
  rcases h with ⟨rfl, rfl⟩ | ⟨b, v, ps, k, rfl, rfl, h⟩
  · go_enter Tryd.func14, Tryd.ntmps14
    go_wp2_with fail
    go_ret
    exact ⟨rfl, 0, rfl⟩
  · obtain ⟨c0, c1⟩ := h.cells
    obtain ⟨ao, L, cap, rfl, hL, hLc, hcm, hnn, hnum⟩ := h.2.1.open
    have hk : k ≤ L := by rw [← hL.out]; exact h.2.2.1
    have hLb : L ≤ 1000000 := by rw [← hL.out]; exact h.2.2.2.1
    have e1 : (ps.drop k).length = L - k := by rw [List.length_drop, hL.out]
    rw [e1]
    obtain ⟨d, hd⟩ : ∃ d, d = L - k := ⟨_, rfl⟩
    rw [← hd]
    have g1 : (L : Int) - (k : Int) = (d : Int) := by omega
    clear hd e1 hnum h hnn
    go_enter Tryd.func14, Tryd.ntmps14
    go_wp2_with fail
    go_quiet (fail)
    go_wp2_with fail
    go_ret
    exact ⟨rfl, _, rfl⟩

/-- A plain script that is made of bytes. -/
theorem scrNew {w : World} {o : Option Addr} {l c : Nat} {bs : List Nat} (h : Row .u8 w (.slice o l c) bs) : ScrAt (w.alloc (.cells #[.slice o l c] 29)) w.heap.size (w.heap.size + 1) bs := by
  have hlt := h.lt
  have k : Kept Nought w (w.alloc (.cells #[.slice o l c] 29)) := (Kept.refl _ _).alloc _
  refine ⟨_, ⟨heap_alloc_new _ _, h.grew k, fun e x hx => ?_⟩, by omega, fun e x hx => ?_⟩
  · have := hlt e x hx
    omega
  · have := hlt e x hx
    omega

end Go.Proofs.YtnhkfdbeacmepaaDoor


/- Layer 25: what the landed functions must answer, as propositions (T: what the hashes' tables are in memory); awake. -/
namespace Go.Proofs.YtnhkfdbeacmepaaDoor
open Go.RowKit

/-- A fact of memory that stands while nothing old is written. -/
def Stands (T : World → Prop) : Prop := ∀ a b, T a → Kept Nought a b → T b

end Go.Proofs.YtnhkfdbeacmepaaDoor


/- Layer 24: what the landed functions must answer, as propositions (T: what the hashes' tables are in memory); what the laws ask first. (written by wip/gen/w24.py) -/
namespace Go.Proofs.YtnhkfdbeacmepaaDoor
open Go.RowKit

/-- Encode, landed. -/
def OEnc (T : World → Prop) : Prop := ∀ (h : Int) (lo : Option Addr) (ll lc : Nat) (lb : List Nat) (mo : Option Addr) (M mc : Nat) (ms : List Nat) (k : Int) (p : Option Addr) (B : Nat) (bs : List Nat) (w : World), T w → -9223372036854775808 ≤ h → h ≤ 9223372036854775807 → -9223372036854775808 ≤ k → k ≤ 9223372036854775807 → Row .u8 w (.slice lo ll lc) lb → Digs 256 lb → ll ≤ 10000 → Row .u8 w (.slice mo M mc) ms → Digs 256 ms → M ≤ 10000 → Lsc w p B bs → B ≤ w.heap.size → Digs 256 bs → bs.length ≤ 1000000 →
  Calls Tryd.prog 11 #[.int .i64 h, .slice lo ll lc, .slice mo M mc, .int .i64 k, .pointer p] w fun e w' => ∃ u, e = .returned (.tuple #[u, .int .i64 (seE h ms bs k : Nat)]) ∧ (Row .u8 w' u (seL h lb ms bs k) ∧ ∀ b, u.ownBlock = some b → w.heap.size ≤ b) ∧ Lsc w' p B (seR h ms bs k) ∧ Kept (ofP p) w w'

/-- Decode, landed, with no trace. -/
def ODec (T : World → Prop) : Prop := ∀ (h : Int) (lo : Option Addr) (ll lc : Nat) (lb : List Nat) (eo : Option Addr) (L ec : Nat) (em : List Nat) (w : World), T w → -9223372036854775808 ≤ h → h ≤ 9223372036854775807 → Row .u8 w (.slice lo ll lc) lb → Digs 256 lb → ll ≤ 10000 → Row .u8 w (.slice eo L ec) em → Digs 256 em → L ≤ 10000 →
  Calls Tryd.prog 15 #[.pointer none, .int .i64 h, .slice lo ll lc, .slice eo L ec] w fun e w' => ∃ u, e = .returned (.tuple #[u, .int .i64 (opE h lb em : Nat)]) ∧ (Row .u8 w' u (opL h lb em) ∧ ∀ b, u.ownBlock = some b → w.heap.size ≤ b) ∧ Kept Nought w w'

/-- Room, landed. -/
def ORoo : Prop := ∀ (h k : Int) (w : World), -9223372036854775808 ≤ h → h ≤ 9223372036854775807 → -9223372036854775808 ≤ k → k ≤ 9223372036854775807 →
  Calls Tryd.prog 17 #[.int .i64 h, .int .i64 k] w fun e w' => e = .returned (.tuple #[.int .i64 (rmN h k), .int .i64 (rmE h k : Nat)]) ∧ Kept Nought w w'

theorem seL_digs {h : Int} {lb ms bs : List Nat} {k : Int} (db : Digs 256 bs) (dm : Digs 256 ms) : Digs 256 (seL h lb ms bs k) := by
  have dD : Digs 256 (seD h lb ms (rmN h k).toNat) := (((hshN_digs h lb).append (rep_digs _)).append (Digs.one (by omega))).append dm
  have dX : Digs 256 (seX h lb ms bs k) := xorN_digs dD (mskN_digs _ _ _)
  unfold seL
  split
  · exact ((Digs.one (by omega)).append (xorN_digs (read_digs db) (mskN_digs _ _ _))).append dX
  · exact Digs.nil _

theorem opL_digs {h : Int} {lb em : List Nat} (dem : Digs 256 em) : Digs 256 (opL h lb em) := by
  unfold opL
  split
  · unfold opD
    exact (xorN_digs (dem.drop _) (mskN_digs _ _ _)).drop _
  · exact Digs.nil _

/-- Bytes that a slice of bytes shows, by their lengths. -/
def Lots24 (w : World) (ao : Option Addr) (n : Nat) (A : Nat → Option Addr) (L C : Nat → Nat) : Prop :=
  ∀ i, i < n → ∃ b off, ao = some ⟨b, off, none⟩ ∧ w.cell? ⟨b, off + i, none⟩ = some (.slice (A i) (L i) (C i))

set_option maxRecDepth 20000 in
set_option maxHeartbeats 1000000 in
/-- few. -/
theorem f24few (ao : Option Addr) (n cap : Nat) (A : Nat → Option Addr) (L C : Nat → Nat) (w : World) (hn : n ≤ 1000000000000) (R : Bool) (hR : R = true ↔ ∀ i, i < n → L i ≤ 400) (hc : Lots24 w ao n A L C) :
    Calls Tryd.prog 9 #[.slice ao n cap] w fun r w' => r = .returned (.bool R) ∧ w' = w := by
  have HR := toHid hR
  have HC := toHid hc
  clear hR hc
  go_enter Tryd.func9, Tryd.ntmps9
  go_wp2_with fail
  go_loop [7] (fun i => ∃ k : Nat, k ≤ n ∧ i = .int .i64 (k : Int) ∧ Hid (∀ j, j < k → L j ≤ 400)) (fun i => ((n : Int) - intOf i).toNat)
  case atStart => exact ⟨0, Nat.zero_le _, rfl, fun j hj => by omega⟩
  case round =>
    obtain ⟨k, hk, rfl, hall⟩ := hrel
    by_cases hkn : k < n
    · have hk1 : (k : Int) < (n : Int) := by omega
      obtain ⟨b, off, rfl, hcell⟩ := HC.out k hkn
      obtain ⟨ao, hao⟩ : ∃ ao, ao = A k := ⟨_, rfl⟩
      obtain ⟨len, hlen⟩ : ∃ len, len = L k := ⟨_, rfl⟩
      obtain ⟨cp, hcap⟩ : ∃ cap, cap = C k := ⟨_, rfl⟩
      rw [← hao, ← hlen, ← hcap] at hcell
      have HLen := toHid hlen
      have HNx : Hid (len ≤ 400 → ∀ j, j < k + 1 → L j ≤ 400) := fun h j hj => by
        by_cases e : j = k
        · subst e; rw [← hlen]; exact h
        · exact hall.out j (by omega)
      clear hao hlen hcap
      by_cases h4 : len ≤ 400
      · have h4' : ¬ (len : Int) > 400 := by omega
        have h4'' : ¬ (400 : Int) < (len : Int) := by omega
        go_wp2_with fail
        go_round
        case rel => exact ⟨k + 1, by omega, by go_num, HNx.out h4⟩
        case measure => simp [intOf]; omega
      · have h4' : (len : Int) > 400 := by omega
        have h4'' : (400 : Int) < (len : Int) := by omega
        have HF : Hid (R = false) := by
          cases e : R with
          | false => rfl
          | true =>
            have := HR.out.1 e k hkn
            rw [← HLen.out] at this
            omega
        go_wp2_with fail
        go_ret
        refine ⟨?_, rfl⟩
        rw [HF.out]; rfl
    · have hk1 : ¬ (k : Int) < (n : Int) := by omega
      have e : k = n := by omega
      subst e
      have HT : Hid (R = true) := HR.out.2 hall.out
      go_wp2_with fail
      go_ret
      refine ⟨?_, rfl⟩
      rw [HT.out]; rfl

theorem few24_1 (ao : Option Addr) (al ac : Nat) (W : World) (R : Bool) (hR : R = true ↔ al ≤ 400) :
    Calls Tryd.prog 9 #[.slice (some ⟨W.heap.size, 0, none⟩) 1 1] (W.alloc (.cells #[.slice ao al ac] 22)) fun r w' => r = .returned (.bool R) ∧ w' = W.alloc (.cells #[.slice ao al ac] 22) := by
  refine f24few (some ⟨W.heap.size, 0, none⟩) 1 1 (fun i => [ao].getD i none) (fun i => [al].getD i 0) (fun i => [ac].getD i 0) _ (by omega) R ?_ ?_
  · rw [hR]
    refine ⟨fun h i hi => ?_, fun h => h 0 (by omega)⟩
    have : i = 0 := by omega
    rcases this with rfl
    · exact h
  · intro i hi
    refine ⟨_, _, rfl, ?_⟩
    have : i = 0 := by omega
    rcases this with rfl <;> exact (cell_of_row _ _ _ _ _ _ (heap_alloc_new W _)).trans rfl

theorem few24_3 (ao : Option Addr) (al ac : Nat) (bo : Option Addr) (bl bc : Nat) (co : Option Addr) (cl cc : Nat) (W : World) (R : Bool) (hR : R = true ↔ al ≤ 400 ∧ bl ≤ 400 ∧ cl ≤ 400) :
    Calls Tryd.prog 9 #[.slice (some ⟨W.heap.size, 0, none⟩) 3 3] (W.alloc (.cells #[.slice ao al ac, .slice bo bl bc, .slice co cl cc] 22)) fun r w' => r = .returned (.bool R) ∧ w' = W.alloc (.cells #[.slice ao al ac, .slice bo bl bc, .slice co cl cc] 22) := by
  refine f24few (some ⟨W.heap.size, 0, none⟩) 3 3 (fun i => [ao, bo, co].getD i none) (fun i => [al, bl, cl].getD i 0) (fun i => [ac, bc, cc].getD i 0) _ (by omega) R ?_ ?_
  · rw [hR]
    refine ⟨fun h i hi => ?_, fun h => ⟨h 0 (by omega), h 1 (by omega), h 2 (by omega)⟩⟩
    have : i = 0 ∨ i = 1 ∨ i = 2 := by omega
    rcases this with rfl | rfl | rfl
    · exact h.1
    · exact h.2.1
    · exact h.2.2
  · intro i hi
    refine ⟨_, _, rfl, ?_⟩
    have : i = 0 ∨ i = 1 ∨ i = 2 := by omega
    rcases this with rfl | rfl | rfl <;> exact (cell_of_row _ _ _ _ _ _ (heap_alloc_new W _)).trans rfl

theorem few24_4 (ao : Option Addr) (al ac : Nat) (bo : Option Addr) (bl bc : Nat) (co : Option Addr) (cl cc : Nat) (go : Option Addr) (gl gc : Nat) (W : World) (R : Bool) (hR : R = true ↔ al ≤ 400 ∧ bl ≤ 400 ∧ cl ≤ 400 ∧ gl ≤ 400) :
    Calls Tryd.prog 9 #[.slice (some ⟨W.heap.size, 0, none⟩) 4 4] (W.alloc (.cells #[.slice ao al ac, .slice bo bl bc, .slice co cl cc, .slice go gl gc] 22)) fun r w' => r = .returned (.bool R) ∧ w' = W.alloc (.cells #[.slice ao al ac, .slice bo bl bc, .slice co cl cc, .slice go gl gc] 22) := by
  refine f24few (some ⟨W.heap.size, 0, none⟩) 4 4 (fun i => [ao, bo, co, go].getD i none) (fun i => [al, bl, cl, gl].getD i 0) (fun i => [ac, bc, cc, gc].getD i 0) _ (by omega) R ?_ ?_
  · rw [hR]
    refine ⟨fun h i hi => ?_, fun h => ⟨h 0 (by omega), h 1 (by omega), h 2 (by omega), h 3 (by omega)⟩⟩
    have : i = 0 ∨ i = 1 ∨ i = 2 ∨ i = 3 := by omega
    rcases this with rfl | rfl | rfl | rfl
    · exact h.1
    · exact h.2.1
    · exact h.2.2.1
    · exact h.2.2.2
  · intro i hi
    refine ⟨_, _, rfl, ?_⟩
    have : i = 0 ∨ i = 1 ∨ i = 2 ∨ i = 3 := by omega
    rcases this with rfl | rfl | rfl | rfl <;> exact (cell_of_row _ _ _ _ _ _ (heap_alloc_new W _)).trans rfl

theorem ex24 : seE 1 [] (List.replicate 32 0) 66 = 0 ∧ rmE 1 66 = 0 ∧ rmN 1 66 = 0 ∧ rmE 1 65 = 232 := by decide +kernel

set_option maxRecDepth 20000 in
set_option maxHeartbeats 2000000 in
/-- awake. -/
theorem f24Awake {T : World → Prop} (hT : Stands T) (hE : OEnc T) (hD : ODec T) (hR : ORoo) (w : World) (ht : T w) : Calls Tryd.prog 8 #[] w fun r w' => r = .returned (.bool true) ∧ Kept Nought w w' := by
  obtain ⟨i0, hi0, hz0, hz1, hz2⟩ := info_parts Tryd.info8s
  obtain ⟨e1, e2, e3, e4⟩ := ex24
  obtain ⟨CL, hCL⟩ : ∃ CL, CL = madeCells #[Value.int .u8 0] 32 := ⟨_, rfl⟩
  have hmk : ∀ W : World, (Instr.makeSlice 22 (.int .i64 32) (.int .i64 32)).run Tryd.prog W = .ok (.slice (some ⟨W.heap.size, 0, none⟩) 32 32) (W.alloc (.cells CL 5)) := fun W => by rw [hCL]; exact run_make_row (P := Tryd.prog) _ _ i0 _ Tryd.underlying22 hi0 hz0 hz1 rfl _ _ 32 (by rw [hz2]; omega) (by omega) W
  have hCLa : CL = ((List.replicate 32 0).map fun z : Nat => Value.int .u8 (z : Int)).toArray := by
    have h := zeros_map .u8 32
    rw [Nat.mul_one] at h
    rw [← h, hCL]
    simp [Value.cells]
  have HROW : Hid (∀ W : World, Row .u8 (W.alloc (.cells CL 5)) (.slice (some ⟨W.heap.size, 0, none⟩) 32 32) (List.replicate 32 0)) := fun W => by
    rw [hCLa]
    exact Row.of_block (t := 5) (heap_alloc_new _ _) (List.length_replicate ..) (by unfold maxLen; omega)
  have J1 := hR 1 66 w (by omega) (by omega) (by omega) (by omega)
  rw [e2, e3] at J1
  have J2 := toHid fun W => hR 1 65 W (by omega) (by omega) (by omega) (by omega)
  rw [e4] at J2
  have h65 : rmN 1 65 = 0 := by unfold rmN; rw [e4]; rfl
  rw [h65] at J2
  have JE := toHid fun p B W ht hs hB => hE 1 none 0 0 [] none 0 0 [] 66 p B (List.replicate 32 0) W ht (by omega) (by omega) (by omega) (by omega) (Row.nil _ _) (Digs.nil _) (by omega) (Row.nil _ _) (Digs.nil _) (by omega) hs hB (rep_digs 32) (by simp)
  rw [e1] at JE
  obtain ⟨X, hX⟩ : ∃ X, X = seL 1 [] [] (List.replicate 32 0) 66 := ⟨_, rfl⟩
  have hb := (oae_back (lb := []) (ms := []) e1 []).1 rfl
  have hl : X.length = 66 := by have := (oae_open (lb := []) e1).2.2.2.1; rw [← hX] at this; omega
  have dX : Digs 256 X := by rw [hX]; exact seL_digs (rep_digs 32) (Digs.nil _)
  rw [← hX] at JE hb
  have JD := toHid fun o l c W ht hr hl => hD 1 none 0 0 [] o l c X W ht (by omega) (by omega) (Row.nil _ _) (Digs.nil _) (by omega) hr dX hl
  rw [hb.1, hb.2] at JD
  have HT := toHid hT
  have HT0 := toHid ht
  have HXL := toHid hl
  clear hT hE hD hR ht e1 e2 e3 e4 hCL hCLa h65 hX hb hl dX hi0 hz0 hz1 hz2 i0
  go_enter Tryd.func8, Tryd.ntmps8
  go_wp2_with fail
  refine J1.mono ?_
  rintro r w1 ⟨rfl, k1⟩
  have HK1 := toHid k1
  clear J1 k1
  go_wp2_with fail
  refine (J2.out w1).mono ?_
  rintro r w2 ⟨rfl, k2⟩
  have HK2 := toHid ((HK1.out.trans k2).alloc (.cells CL 5))
  have J3 := xNew _ (List.replicate 32 0) _ (HROW.out w2) (by simp)
  clear k2 J2
  go_wp2_with fail
  refine J3.mono ?_
  rintro r w3 ⟨g, rfl, hg, hs3, k3⟩
  have HG : Hid (w.heap.size ≤ g) := Nat.le_trans HK2.out.size hg
  have HK3 := toHid (HK2.out.trans k3)
  have J4 := JE.out (some ⟨g, 0, none⟩) w3.heap.size w3 (HT.out _ _ HT0.out HK3.out) hs3 (Nat.le_refl _)
  clear J3 k3 hs3 hg
  go_wp2_with fail
  refine J4.mono ?_
  rintro r w4 ⟨u4, rfl, ⟨hr4, _⟩, _, k4⟩
  have HK4 : Hid (Kept Nought w w4) := HK3.out.next k4 (fun y hy f => by have h1 := ofP_some f; have h2 := HG.out; omega)
  obtain ⟨o4, n4, c4, rfl, hl4, _, _, _, _⟩ := hr4.open
  have J5 := JD.out o4 n4 c4 w4 (HT.out _ _ HT0.out HK4.out) hr4 (by have h1 := hl4.out; have h2 := HXL.out; omega)
  clear J4 hr4 k4 hl4 JD JE
  go_wp2_with fail
  refine J5.mono ?_
  rintro r w5 ⟨u5, rfl, ⟨hr5, _⟩, k5⟩
  obtain ⟨o5, n5, c5, rfl, hl5, _, _, _, _⟩ := hr5.open
  obtain rfl : 0 = n5 := hl5.out
  have HK5 := toHid (HK4.out.trans k5)
  clear J5 hr5 k5 hl5 hmk
  go_wp2_with fail
  go_ret
  exact ⟨rfl, HK5.out⟩

end Go.Proofs.YtnhkfdbeacmepaaDoor

