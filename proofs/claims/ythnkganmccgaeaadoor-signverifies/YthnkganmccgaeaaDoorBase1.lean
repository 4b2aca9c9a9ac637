/- Melted of: Kept Nums NumRow Bigs BigNat Copies. -/
import Derived.Test.YthnkganmccgaeaaDoorRows
import Derived.WalkKit
import Derived.WalkSpells
import Derived.WalkLawsBesides
import Derived.OwnWalk
import Derived.OneCell
import Derived.Deep.AppendLies
import Derived.Deep.Draws
import Derived.Lib.MinMax
import Derived.Deep.QuietTactic
import Derived.BigQuiet
import Derived.Laws.BitsAllLaws
import Derived.Laws.CopyOwn
import Derived.Laws.IdiomCopy

/- What a call leaves of the memory that was there. -/
namespace Go.Proofs.YthnkganmccgaeaaDoor
open Go.RowKit

/-- But for the blocks of S, and new ones, the world w' is as w was. -/
structure Kept (S : Nat → Prop) (w w' : World) : Prop where
  os : w'.os = w.os
  tape : w'.tape = w.tape
  output : w'.output = w.output
  size : w.heap.size ≤ w'.heap.size
  block : ∀ k, k < w.heap.size → ¬ S k → w'.heap[k]? = w.heap[k]?

def Nought : Nat → Prop := fun _ => False

theorem Kept.refl (S : Nat → Prop) (w : World) : Kept S w w := ⟨rfl, rfl, rfl, Nat.le_refl _, fun _ _ _ => rfl⟩

theorem Kept.trans {S : Nat → Prop} {a b c : World} (h : Kept S a b) (k : Kept S b c) : Kept S a c :=
  ⟨k.os.trans h.os, k.tape.trans h.tape, k.output.trans h.output, Nat.le_trans h.size k.size, fun i hi hs => (k.block i (Nat.lt_of_lt_of_le hi h.size) hs).trans (h.block i hi hs)⟩

theorem Kept.next {S T : Nat → Prop} {a b c : World} (h : Kept S a b) (k : Kept T b c) (ht : ∀ x, x < a.heap.size → T x → S x) : Kept S a c :=
  ⟨k.os.trans h.os, k.tape.trans h.tape, k.output.trans h.output, Nat.le_trans h.size k.size, fun i hi hs => (k.block i (Nat.lt_of_lt_of_le hi h.size) (fun t => hs (ht i hi t))).trans (h.block i hi hs)⟩

theorem Kept.mono {S T : Nat → Prop} {w w' : World} (h : Kept S w w') (hs : ∀ k, k < w.heap.size → S k → T k) : Kept T w w' :=
  ⟨h.os, h.tape, h.output, h.size, fun k hk hn => h.block k hk fun s => hn (hs k hk s)⟩

theorem Kept.any {S : Nat → Prop} {w w' : World} (h : Kept Nought w w') : Kept S w w' := h.mono fun _ _ f => f.elim

theorem Kept.drew {S : Nat → Prop} {a w : World} (h : Kept S a w) : Kept S a w.drew := ⟨h.os, h.tape, h.output, h.size, h.block⟩

theorem Kept.drewN {S : Nat → Prop} {a w : World} (h : Kept S a w) (n : Nat) : Kept S a (w.drewN n) := ⟨h.os, h.tape, h.output, h.size, h.block⟩

theorem Kept.alloc {S : Nat → Prop} {a w : World} (h : Kept S a w) (o : Obj) : Kept S a (w.alloc o) :=
  h.trans ⟨rfl, rfl, rfl, by simp, fun k hk _ => Below.heap_alloc _ _ _ hk⟩

theorem Kept.grown {S : Nat → Prop} {a w w' : World} {row : Option Nat} (h : Kept S a w) (hg : w.grownBy w' row) (hr : ∀ k, row = some k → k < a.heap.size → S k) : Kept S a w' :=
  ⟨hg.os.trans h.os, hg.tape.trans h.tape, hg.output.trans h.output, Nat.le_trans h.size hg.size, fun k hk hn =>
    (hg.block k (Nat.lt_of_lt_of_le hk h.size) (fun e => hn (hr k e.symm hk))).trans (h.block k hk hn)⟩

theorem Kept.setCell {S : Nat → Prop} {a w : World} (h : Kept S a w) (p : Addr) (hp : p.block < a.heap.size → S p.block) (u : Value) : Kept S a (w.setCell p u) :=
  ⟨h.os, h.tape, h.output, by have := h.size; simpa [World.setCell] using this, fun k hk hn =>
    (Below.heap_setCell _ _ _ _ (fun e => hn (by rw [e]; exact hp (by rw [← e]; exact hk)))).trans (h.block k hk hn)⟩

theorem Kept.below {S : Nat → Prop} {w w' : World} {B : Nat} (h : Kept S w w') (hB : B ≤ w.heap.size) (hs : ∀ k, S k → B ≤ k) : Below B w w' :=
  ⟨h.os, h.tape, h.output, h.size, fun k hk => h.block k (by omega) (fun s => by have := hs k s; omega)⟩

theorem Kept.own {S : Nat → Prop} {w w' : World} {base size n : Nat} {e : TypeId} {v : Value} {xs : List Value} (h : Kept S w w') (ho : w.ownsRow base e size v n xs) (hs : ∀ k, v.ownBlock = some k → ¬ S k) : w'.ownsRow base e size v n xs := by
  refine ⟨ho.1, ?_⟩
  rcases ho.2 with hn | ⟨g, cap, cur, rfl, hb, hgg, rest⟩
  · exact .inl hn
  · refine .inr ⟨g, cap, cur, rfl, hb, ?_, rest⟩
    rw [h.block g (Array.getElem?_eq_some_iff.1 hgg).1 (hs g rfl)]
    exact hgg

theorem own_base {w : World} {base base' size n : Nat} {e : TypeId} {v : Value} {xs : List Value} (h : w.ownsRow base e size v n xs) (hb : ∀ k, v.ownBlock = some k → base' ≤ k) : w.ownsRow base' e size v n xs := by
  refine ⟨h.1, ?_⟩
  rcases h.2 with hn | ⟨g, cap, cur, rfl, _, rest⟩
  · exact .inl hn
  · exact .inr ⟨g, cap, cur, rfl, hb g rfl, rest⟩

theorem Kept.cellN {w w' : World} {a : Addr} {u : Value} (h : Kept Nought w w') (hc : w.cell? a = some u) : w'.cell? a = some u :=
  (World.cell?_of_block (h.block a.block (World.block_lt_of_cell? w _ hc) (fun f => f))).trans hc

theorem heapAt_alloc {w : World} {o X : Obj} {p : Nat} (h : w.heap[p]? = some X) : (w.alloc o).heap[p]? = some X := (Below.heap_alloc w o p (lt_of_block h)).trans h

theorem heapAt_drew {w : World} {X : Obj} {p : Nat} (h : w.heap[p]? = some X) : w.drew.heap[p]? = some X := h

theorem heapAt_set {w : World} {b : Nat} {a : Addr} {X : Obj} (h : w.heap[b]? = some X) (hne : b ≠ a.block) (u : Value) : (w.setCell a u).heap[b]? = some X := (Below.heap_setCell w a u b hne).trans h

theorem grown_kept {w w' : World} (h : w.grownBy w' none) : Kept Nought w w' := (Kept.refl Nought w).grown h (fun _ e => by cases e)

theorem own_slice {w : World} {base n size : Nat} {e : TypeId} {v : Value} {xs : List Value} (h : w.ownsRow base e size v n xs) : ∃ ao cap, v = .slice ao n cap := by
  rcases h.2 with ⟨rfl, rfl⟩ | ⟨g, cap, cur, rfl, _⟩
  · exact ⟨none, 0, rfl⟩
  · exact ⟨_, _, rfl⟩

end Go.Proofs.YthnkganmccgaeaaDoor

/- Numbers as lists of digits, the lowest ahead: plain mathematics, over no program. -/
namespace Go.Proofs.YthnkganmccgaeaaDoor

/-- The number of digits to the base B. -/
def val (B : Nat) : List Nat → Nat
  | [] => 0
  | d :: r => d + B * val B r

/-- All digits are below B. -/
def Digs (B : Nat) (l : List Nat) : Prop := ∀ d ∈ l, d < B

theorem Digs.nil (B : Nat) : Digs B [] := fun _ h => by cases h

theorem Digs.append {B : Nat} {l m : List Nat} (h : Digs B l) (k : Digs B m) : Digs B (l ++ m) := fun d hd => by
  rcases List.mem_append.1 hd with h1 | h1
  · exact h d h1
  · exact k d h1

theorem Digs.one {B d : Nat} (h : d < B) : Digs B [d] := fun x hx => by simp at hx; omega

theorem Digs.take {B : Nat} {l : List Nat} (h : Digs B l) (n : Nat) : Digs B (l.take n) := fun d hd => h d (List.mem_of_mem_take hd)

theorem Digs.drop {B : Nat} {l : List Nat} (h : Digs B l) (n : Nat) : Digs B (l.drop n) := fun d hd => h d (List.mem_of_mem_drop hd)

theorem Digs.tail {B x : Nat} {l : List Nat} (h : Digs B (x :: l)) : Digs B l := fun d hd => h d (by simp [hd])

theorem Digs.head {B x : Nat} {l : List Nat} (h : Digs B (x :: l)) : x < B := h x (by simp)

theorem Digs.getD {B : Nat} {l : List Nat} (h : Digs B l) (hB : 0 < B) (i : Nat) : l.getD i 0 < B := by
  rw [List.getD_eq_getElem?_getD]
  by_cases hi : i < l.length
  · rw [List.getElem?_eq_getElem hi]; exact h _ (List.getElem_mem hi)
  · rw [List.getElem?_eq_none (by omega)]; exact hB

theorem val_append (B : Nat) : ∀ l m : List Nat, val B (l ++ m) = val B l + B ^ l.length * val B m
  | [], m => by simp [val]
  | d :: r, m => by
    simp only [List.cons_append, val, val_append B r m, List.length_cons, Nat.pow_succ]
    rw [Nat.mul_add, ← Nat.mul_assoc, Nat.mul_comm B (B ^ r.length)]
    omega

theorem val_snoc (B : Nat) (l : List Nat) (d : Nat) : val B (l ++ [d]) = val B l + B ^ l.length * d := by
  rw [val_append]; simp [val]

theorem val_lt {B : Nat} (hB : 0 < B) : ∀ {l : List Nat}, Digs B l → val B l < B ^ l.length
  | [], _ => by simp [val]
  | d :: r, h => by
    have h1 := val_lt hB h.tail
    have h2 := h.head
    simp only [val, List.length_cons, Nat.pow_succ]
    have : B * val B r + B ≤ B ^ r.length * B := by
      calc B * val B r + B = B * (val B r + 1) := by rw [Nat.mul_add, Nat.mul_one]
        _ ≤ B * B ^ r.length := Nat.mul_le_mul_left _ h1
        _ = B ^ r.length * B := Nat.mul_comm _ _
    omega

theorem val_zeros (B : Nat) : ∀ {l : List Nat}, (∀ d ∈ l, d = 0) → val B l = 0
  | [], _ => rfl
  | d :: r, h => by
    have h1 := h d (by simp)
    have h2 := val_zeros B (l := r) fun x hx => h x (by simp [hx])
    simp [val, h1, h2]

/-- Digit number i of a number. -/
def dig (B V i : Nat) : Nat := V / B ^ i % B

/-- A number in n digits, what is above cut off. -/
def digs (B V : Nat) : Nat → List Nat
  | 0 => []
  | n + 1 => digs B V n ++ [dig B V n]

theorem digs_length (B V : Nat) : ∀ n, (digs B V n).length = n
  | 0 => rfl
  | n + 1 => by simp [digs, digs_length B V n]

theorem digs_digs {B : Nat} (hB : 0 < B) (V : Nat) : ∀ n, Digs B (digs B V n)
  | 0 => Digs.nil B
  | n + 1 => (digs_digs hB V n).append (Digs.one (Nat.mod_lt _ hB))

theorem val_digs {B : Nat} (V : Nat) : ∀ n, val B (digs B V n) = V % B ^ n
  | 0 => by simp [digs, val, Nat.mod_one]
  | n + 1 => by
    rw [digs, val_snoc, val_digs V n, digs_length, dig, Nat.pow_succ, Nat.mod_mul]

/-- Digits are told by their number and how many they are. -/
theorem digs_val {B : Nat} (hB : 0 < B) : ∀ {l : List Nat} {V n : Nat}, Digs B l → l.length = n → val B l = V % B ^ n → l = digs B V n := by
  intro l V n
  induction n generalizing l with
  | zero => intro _ hl _; exact List.eq_nil_of_length_eq_zero hl
  | succ n ih =>
    intro hd hl hv
    obtain ⟨m, d, rfl⟩ : ∃ m d, l = m ++ [d] := by
      refine ⟨l.dropLast, l.getLast (by intro e; subst e; simp at hl), ?_⟩
      exact (List.dropLast_concat_getLast _).symm
    have hm : m.length = n := by simpa using hl
    have hdm : Digs B m := fun x hx => hd x (by simp [hx])
    have hd0 : d < B := hd d (by simp)
    have hlt := val_lt hB hdm
    rw [val_snoc, hm, Nat.pow_succ, Nat.mod_mul] at hv
    rw [hm] at hlt
    have hpos : 0 < B ^ n := Nat.pow_pos hB
    have e1 : val B m = V % B ^ n := by
      have h1 : (val B m + B ^ n * d) % B ^ n = (V % B ^ n + B ^ n * (V / B ^ n % B)) % B ^ n := by rw [hv]
      rw [Nat.add_mul_mod_self_left, Nat.add_mul_mod_self_left, Nat.mod_eq_of_lt hlt, Nat.mod_mod] at h1
      exact h1
    have e2 : d = V / B ^ n % B := by
      have : B ^ n * d = B ^ n * (V / B ^ n % B) := by omega
      exact Nat.eq_of_mul_eq_mul_left hpos this
    rw [digs, dig, ← e2, ih hdm hm e1]

/-- Two lists of digits of one length and one number are one. -/
theorem digs_inj {B : Nat} (hB : 0 < B) {l m : List Nat} (hl : Digs B l) (hm : Digs B m) (hn : l.length = m.length) (hv : val B l = val B m) : l = m := by
  have h1 := digs_val hB (V := val B l) hl rfl (Nat.mod_eq_of_lt (val_lt hB hl)).symm
  have h2 := digs_val hB (V := val B l) hm hn.symm (by rw [hv, Nat.mod_eq_of_lt]; rw [hn]; exact val_lt hB hm)
  rw [h1, h2]

theorem digs_getD (B V : Nat) : ∀ n i, i < n → (digs B V n).getD i 0 = dig B V i
  | n + 1, i, h => by
    rw [digs, List.getD_eq_getElem?_getD]
    by_cases hi : i < n
    · rw [List.getElem?_append_left (by rw [digs_length]; exact hi), ← List.getD_eq_getElem?_getD, digs_getD B V n i hi]
    · have : i = n := by omega
      subst this
      rw [List.getElem?_append_right (by rw [digs_length]; omega), digs_length]
      simp

theorem val_take_drop (B : Nat) (l : List Nat) (n : Nat) (h : n ≤ l.length) : val B l = val B (l.take n) + B ^ n * val B (l.drop n) := by
  have := val_append B (l.take n) (l.drop n)
  rw [List.take_append_drop, List.length_take, Nat.min_eq_left h] at this
  exact this

/-- Digit i is what it is to be. -/
theorem dig_val {B : Nat} (hB : 0 < B) {l : List Nat} (h : Digs B l) (i : Nat) : dig B (val B l) i = l.getD i 0 := by
  unfold dig
  by_cases hi : i < l.length
  · have e := val_take_drop B l i (by omega)
    have hlt : val B (l.take i) < B ^ i := by
      have := val_lt hB (h.take i)
      rwa [List.length_take, Nat.min_eq_left (by omega)] at this
    have hd : l.drop i = l[i] :: l.drop (i + 1) := List.drop_eq_getElem_cons hi
    rw [hd] at e
    rw [e, Nat.add_mul_div_left _ _ (Nat.pow_pos hB), Nat.div_eq_of_lt hlt, Nat.zero_add]
    simp only [val]
    rw [Nat.add_mul_mod_self_left, Nat.mod_eq_of_lt (h _ (List.getElem_mem hi))]
    rw [List.getD_eq_getElem?_getD, List.getElem?_eq_getElem hi]; rfl
  · have := val_lt hB h
    have h2 : B ^ l.length ≤ B ^ i := Nat.pow_le_pow_right hB (by omega)
    rw [Nat.div_eq_of_lt (by omega), List.getD_eq_getElem?_getD, List.getElem?_eq_none (by omega)]
    simp

end Go.Proofs.YthnkganmccgaeaaDoor

/- A slice of numbers, read: what its cells hold; the plain numbers' trim, digit, Words. -/
namespace Go.Proofs.YthnkganmccgaeaaDoor
open Go.RowKit

/-- The slice v holds the numbers zs, of kind k. -/
def Row (k : IntKind) (w : World) (v : Value) (zs : List Nat) : Prop :=
  ∃ ao cap, v = .slice ao zs.length cap ∧ zs.length ≤ cap ∧ cap ≤ maxLen ∧ (ao = none → cap = 0) ∧ ∀ i, i < zs.length → ∃ b off, ao = some ⟨b, off, none⟩ ∧ w.cell? ⟨b, off + i, none⟩ = some (.int k (zs.getD i 0 : Nat))

/-- Number i of a slice that lies at ao. -/
def NumAt (k : IntKind) (w : World) (ao : Option Addr) (zs : List Nat) (i : Nat) : Prop :=
  ∃ b off, ao = some ⟨b, off, none⟩ ∧ w.cell? ⟨b, off + i, none⟩ = some (.int k (zs.getD i 0 : Nat))

theorem Row.open {k : IntKind} {w : World} {v : Value} {zs : List Nat} (h : Row k w v zs) :
    ∃ ao n cap, v = .slice ao n cap ∧ Hid (zs.length = n) ∧ n ≤ cap ∧ cap ≤ 9223372036854775807 ∧ (ao = none → cap = 0) ∧ ∀ i, i < n → NumAt k w ao zs i := by
  obtain ⟨ao, cap, rfl, h1, h2, h3, h4⟩ := h
  exact ⟨ao, _, cap, rfl, rfl, h1, by unfold maxLen at h2; omega, h3, h4⟩

theorem Row.nil (k : IntKind) (w : World) : Row k w (.slice none 0 0) [] := ⟨none, 0, rfl, Nat.le_refl _, by unfold maxLen; omega, fun _ => rfl, fun i hi => absurd hi (by simp)⟩

theorem NumAt.kept {S : Nat → Prop} {k : IntKind} {w w' : World} {ao : Option Addr} {zs : List Nat} {i : Nat} (h : NumAt k w ao zs i) (hk : Kept S w w') (hs : ∀ a, ao = some a → ¬ S a.block) : NumAt k w' ao zs i := by
  obtain ⟨b, off, rfl, hc⟩ := h
  have hb : b < w.heap.size := World.block_lt_of_cell? w _ hc
  exact ⟨b, off, rfl, (World.cell?_of_block (a := ⟨b, off + i, none⟩) (hk.block b hb (hs _ rfl))).trans hc⟩

theorem NumAt.grew {k : IntKind} {w w' : World} {ao : Option Addr} {zs : List Nat} {i : Nat} (h : NumAt k w ao zs i) (hk : Kept Nought w w') : NumAt k w' ao zs i := h.kept hk (fun _ _ f => f)

theorem Row.kept {S : Nat → Prop} {k : IntKind} {w w' : World} {v : Value} {zs : List Nat} (h : Row k w v zs) (hk : Kept S w w') (hs : ∀ b, v.ownBlock = some b → ¬ S b) : Row k w' v zs := by
  obtain ⟨ao, cap, rfl, h1, h2, h3, h4⟩ := h
  exact ⟨ao, cap, rfl, h1, h2, h3, fun i hi => NumAt.kept (h4 i hi) hk (fun a ha => hs _ (by subst ha; rfl))⟩

theorem Row.grew {k : IntKind} {w w' : World} {v : Value} {zs : List Nat} (h : Row k w v zs) (hk : Kept Nought w w') : Row k w' v zs := h.kept hk (fun _ _ f => f)

/-- What the call itself has made is read so. -/
theorem Row.of_own {k : IntKind} {w : World} {base : Nat} {e : TypeId} {v : Value} {zs : List Nat} (h : w.ownsRow base e 1 v zs.length (zs.map fun z => .int k (z : Nat))) : Row k w v zs := by
  rcases h.2 with ⟨rfl, h0⟩ | ⟨g, cap, cur, rfl, _, hg, hnc, hm, _, _⟩
  · obtain rfl : zs = [] := List.eq_nil_of_length_eq_zero h0
    exact Row.nil k w
  · refine ⟨_, _, rfl, hnc, hm, (fun e => by cases e), fun i hi => ⟨g, 0, rfl, ?_⟩⟩
    rw [Nat.zero_add, World.ownsRow.cellAt h i (by omega), List.getElem?_map, List.getElem?_eq_getElem hi, List.getD_eq_getElem?_getD, List.getElem?_eq_getElem hi]
    rfl

/-- The first m of them. -/
theorem Row.cut {k : IntKind} {w : World} {ao : Option Addr} {n cap m : Nat} {zs : List Nat} (h : Row k w (.slice ao n cap) zs) (hm : m ≤ zs.length) : Row k w (.slice ao m cap) (zs.take m) := by
  obtain ⟨ao', cap', e, h1, h2, h3, h4⟩ := h
  simp only [Value.slice.injEq] at e
  obtain ⟨rfl, _, rfl⟩ := e
  have hl : (zs.take m).length = m := by rw [List.length_take]; omega
  refine ⟨ao, cap, by rw [hl], by omega, h2, h3, fun i hi => ?_⟩
  rw [hl] at hi
  obtain ⟨b, off, e, hc⟩ := h4 i (by omega)
  refine ⟨b, off, e, ?_⟩
  rw [hc, List.getD_eq_getElem?_getD, List.getD_eq_getElem?_getD, List.getElem?_take, if_pos hi]

theorem own_len (ao : Option Addr) (n m cap : Nat) : (Value.slice ao n cap).ownBlock = (Value.slice ao m cap).ownBlock := by cases ao <;> rfl

/-- How long a slice is. -/
def lenV : Value → Nat
  | .slice _ n _ => n
  | _ => 0

end Go.Proofs.YthnkganmccgaeaaDoor

/- The plain numbers of any length: what they are; Small, Of, Nat, Least, Cmp. -/
namespace Go.Proofs.YthnkganmccgaeaaDoor
open Go.RowKit

/-- No nought at the top. -/
def Trimmed (ds : List Nat) : Prop := ds.length = 0 ∨ ds.getD (ds.length - 1) 0 ≠ 0

/-- The slice v is the number V: digits of 32 bits, the lowest ahead, none of them 0 at the top. -/
def IsBig (w : World) (v : Value) (V : Nat) : Prop :=
  ∃ ds, Row .u32 w v ds ∧ Digs 4294967296 ds ∧ Trimmed ds ∧ val 4294967296 ds = V ∧ ds.length ≤ 1000000000

theorem IsBig.kept {S : Nat → Prop} {w w' : World} {v : Value} {V : Nat} (h : IsBig w v V) (hk : Kept S w w') (hs : ∀ b, v.ownBlock = some b → ¬ S b) : IsBig w' v V := by
  obtain ⟨ds, h1, h2⟩ := h
  exact ⟨ds, h1.kept hk hs, h2⟩

theorem IsBig.grew {w w' : World} {v : Value} {V : Nat} (h : IsBig w v V) (hk : Kept Nought w w') : IsBig w' v V := h.kept hk (fun _ _ f => f)

theorem IsBig.nil (w : World) : IsBig w (.slice none 0 0) 0 := ⟨[], Row.nil _ _, Digs.nil _, .inl rfl, rfl, by simp⟩

theorem val_le_of_top {B : Nat} {ds : List Nat} (ht : Trimmed ds) (hn : 0 < ds.length) : B ^ (ds.length - 1) ≤ val B ds := by
  rcases ht with h | h
  · omega
  · have e := val_take_drop B ds (ds.length - 1) (by omega)
    have hd : ds.drop (ds.length - 1) = [ds.getD (ds.length - 1) 0] := by
      rw [List.drop_eq_getElem_cons (by omega), List.drop_of_length_le (by omega), List.getD_eq_getElem?_getD, List.getElem?_eq_getElem (by omega)]
      rfl
    rw [hd] at e
    simp only [val, Nat.mul_zero, Nat.add_zero] at e
    have : B ^ (ds.length - 1) * 1 ≤ B ^ (ds.length - 1) * ds.getD (ds.length - 1) 0 := Nat.mul_le_mul_left _ (by omega)
    omega

/-- How long a number is. -/
theorem len_le_iff {B : Nat} (hB : 1 < B) {ds : List Nat} (hd : Digs B ds) (ht : Trimmed ds) (n : Nat) : ds.length ≤ n ↔ val B ds < B ^ n := by
  constructor
  · intro h
    exact Nat.lt_of_lt_of_le (val_lt (by omega) hd) (Nat.pow_le_pow_right (by omega) h)
  · intro h
    rcases Nat.lt_or_ge n ds.length with hn | hn
    · have h1 := val_le_of_top (B := B) ht (by omega)
      have h2 : B ^ n ≤ B ^ (ds.length - 1) := Nat.pow_le_pow_right (by omega) (by omega)
      omega
    · exact hn

/-- How many digits a number has. -/
def dlen (V : Nat) : Nat := if V = 0 then 0 else Nat.log2 V / 32 + 1

theorem dlen_le (V n : Nat) : dlen V ≤ n ↔ V < 4294967296 ^ n := by
  unfold dlen
  have e : (4294967296 : Nat) ^ n = 2 ^ (32 * n) := by rw [Nat.pow_mul]
  rw [e]
  by_cases h : V = 0
  · subst h; simp [Nat.pow_pos]
  · rw [if_neg h]
    have := Nat.log2_lt (n := V) (k := 32 * n) h
    omega

theorem len_dlen {ds : List Nat} (hd : Digs 4294967296 ds) (ht : Trimmed ds) : ds.length = dlen (val 4294967296 ds) := by
  have h1 := (dlen_le _ _).2 ((len_le_iff (by omega) hd ht ds.length).1 (Nat.le_refl _))
  have h2 := (len_le_iff (by omega) hd ht (dlen (val 4294967296 ds))).2 ((dlen_le _ _).1 (Nat.le_refl _))
  omega

theorem dlen_mono {a b : Nat} (h : a ≤ b) : dlen a ≤ dlen b := (dlen_le _ _).2 (Nat.lt_of_le_of_lt h ((dlen_le _ _).1 (Nat.le_refl _)))

theorem take_trim {B : Nat} {zs : List Nat} {m : Nat} (hm : m ≤ zs.length) (hz : ∀ i, m ≤ i → zs.getD i 0 = 0) : val B (zs.take m) = val B zs := by
  rw [val_take_drop B zs m hm, val_zeros B (l := zs.drop m), Nat.mul_zero, Nat.add_zero]
  intro d hd
  obtain ⟨i, hi, rfl⟩ := List.getElem_of_mem hd
  have := hz (m + i) (by omega)
  rw [List.getD_eq_getElem?_getD, List.getElem?_eq_getElem (by simp at hi; omega)] at this
  simpa using this

theorem trimmed_take {zs : List Nat} {m : Nat} (hm : m ≤ zs.length) (ht : m = 0 ∨ zs.getD (m - 1) 0 ≠ 0) : Trimmed (zs.take m) := by
  have hl : (zs.take m).length = m := by rw [List.length_take]; omega
  rcases ht with h | h
  · left; omega
  · by_cases h0 : m = 0
    · left; omega
    · right
      rw [hl, List.getD_eq_getElem?_getD, List.getElem?_take, if_pos (by omega), ← List.getD_eq_getElem?_getD]
      exact h

/-- A row of the call's own, of numbers. -/
abbrev OwnN (k : IntKind) (e : TypeId) (w : World) (base : Nat) (v : Value) (n : Nat) (zs : List Nat) : Prop := w.ownsRow base e 1 v n (zs.map fun z => .int k (z : Nat))

/-- A number in a row of the call's own. -/
def OwnBig (w : World) (base : Nat) (v : Value) (V : Nat) : Prop :=
  ∃ ds, OwnN .u32 44 w base v ds.length ds ∧ Digs 4294967296 ds ∧ Trimmed ds ∧ val 4294967296 ds = V ∧ ds.length ≤ 1000000000

theorem OwnBig.big {w : World} {base : Nat} {v : Value} {V : Nat} (h : OwnBig w base v V) : IsBig w v V := by
  obtain ⟨ds, ho, hd, ht, hv, hl⟩ := h
  exact ⟨ds, Row.of_own ho, hd, ht, hv, hl⟩

theorem own_cut {k : IntKind} {e : TypeId} {w : World} {base n m cap : Nat} {ao : Option Addr} {zs : List Nat} (h : OwnN k e w base (.slice ao n cap) n zs) (hm : m ≤ n) : OwnN k e w base (.slice ao m cap) m (zs.take m) := by
  have hl : zs.length = n := by simpa using h.1
  refine ⟨by simp; omega, ?_⟩
  rcases h.2 with ⟨h', h0⟩ | ⟨g, cap', cur, h', hb, hg, hnc, hcm, hcs, htake⟩
  · simp only [Value.slice.injEq] at h'
    obtain ⟨rfl, rfl, rfl⟩ := h'
    have : m = 0 := by omega
    subst this
    exact .inl ⟨rfl, rfl⟩
  · simp only [Value.slice.injEq] at h'
    obtain ⟨rfl, _, rfl⟩ := h'
    refine .inr ⟨g, cap, cur, rfl, hb, hg, by omega, hcm, hcs, ?_⟩
    rw [List.map_take, ← htake, List.take_take, Nat.mul_one, Nat.mul_one, Nat.min_eq_left hm]

theorem new2 (w : World) (x y : Value) (e : TypeId) : (w.alloc (.cells #[x, y] e)).ownsRow w.heap.size e 1 (.slice (some ⟨w.heap.size, 0, none⟩) 2 2) 2 [x, y] :=
  World.ownsRow_lit w #[x, y] 2 (Nat.le_refl _) (by unfold maxLen; omega) rfl

/-- Words as digits of half their length. -/
def halves : List Nat → List Nat
  | [] => []
  | x :: r => x % 4294967296 :: x / 4294967296 :: halves r

theorem halves_val : ∀ l, val 4294967296 (halves l) = val 18446744073709551616 l
  | [] => rfl
  | x :: r => by simp only [halves, val, halves_val r]; omega

theorem halves_length : ∀ l, (halves l).length = l.length * 2
  | [] => rfl
  | x :: r => by simp [halves, halves_length r]; omega

theorem halves_append : ∀ l m, halves (l ++ m) = halves l ++ halves m
  | [], m => rfl
  | x :: r, m => by simp [halves, halves_append r m]

theorem halves_digs : ∀ {l}, Digs 18446744073709551616 l → Digs 4294967296 (halves l)
  | [], _ => Digs.nil _
  | x :: r, h => fun d hd => by
    have h1 := h.head
    simp only [halves, List.mem_cons] at hd
    rcases hd with hd | hd | hd
    · omega
    · omega
    · exact halves_digs h.tail d hd

theorem halves_take_succ {l : List Nat} {k : Nat} (h : k < l.length) : halves (l.take (k + 1)) = halves (l.take k) ++ [l.getD k 0 % 4294967296, l.getD k 0 / 4294967296] := by
  rw [List.take_succ_eq_append_getElem h, halves_append, List.getD_eq_getElem?_getD, List.getElem?_eq_getElem h]
  rfl

theorem Tryd.info44 : (Tryd.prog.info? 44).map (fun i => (i.zero, i.size, i.bytes)) = some (some (.int .u32 0), 1, 4) := by kernel_rfl

theorem new2_cells (w : World) (x y : Value) (e : TypeId) : ∀ j u, [x, y][j]? = some u → (w.alloc (.cells #[x, y] e)).cell? ((⟨w.heap.size, 0, none⟩ : Addr).add j) = some u :=
  World.news_of_block (cs := #[x, y]) (t := e) (fr := (0, 0)) (Go.heap_alloc_new w _)

end Go.Proofs.YthnkganmccgaeaaDoor

/- The plain numbers in words: Nat, Least; how two stand to one another: Cmp. -/
namespace Go.Proofs.YthnkganmccgaeaaDoor
open Go.RowKit

theorem dig_join (V k : Nat) : dig 18446744073709551616 V k = dig 4294967296 V (2 * k) + 4294967296 * dig 4294967296 V (2 * k + 1) := by
  unfold dig
  have e : (18446744073709551616 : Nat) ^ k = 4294967296 ^ (2 * k) := by rw [Nat.pow_mul]
  have e2 : (4294967296 : Nat) ^ (2 * k + 1) = 4294967296 ^ (2 * k) * 4294967296 := Nat.pow_succ ..
  rw [e, e2, ← Nat.div_div_eq_div_mul]
  generalize V / 4294967296 ^ (2 * k) = x
  omega

theorem or_join32 (x y : Nat) (hx : x < 4294967296) (hy : y < 4294967296) : bits .or .u64 (x : Int) ((y : Int) * 4294967296) = ((x + 4294967296 * y : Nat) : Int) := by
  have h := u64_or_nat x (y * 4294967296) (by omega) (by omega)
  have hj := nat_join 32 (y * 4294967296) x (by omega) (by omega)
  rw [Nat.or_comm, hj] at h
  have e1 : (y : Int) * 4294967296 = ((y * 4294967296 : Nat) : Int) := by omega
  rw [e1, h]
  omega

theorem set_fill (V n k : Nat) (h : k < n) : (digs 18446744073709551616 V k ++ List.replicate (n - k) 0).set k (dig 18446744073709551616 V k) = digs 18446744073709551616 V (k + 1) ++ List.replicate (n - (k + 1)) 0 := by
  rw [List.set_append_right _ _ (by rw [digs_length]; omega), digs_length, Nat.sub_self, digs, show n - k = (n - (k + 1)) + 1 by omega, List.replicate_succ]
  simp

theorem Tryd.info49 : (Tryd.prog.info? 49).map (fun i => (i.zero, i.size, i.bytes)) = some (some (.int .u64 0), 1, 8) := by kernel_rfl

theorem zeros_map (k : IntKind) (n : Nat) : (madeCells (Value.int k 0).cells (n * 1)).toList = (List.replicate n 0).map fun z : Nat => Value.int k (z : Int) := by
  rw [Nat.mul_one]
  show (madeCells #[Value.int k 0] n).toList = _
  rw [toList_madeCells_one, List.map_replicate]
  rfl

/-- How many words a number needs. -/
def wordsN (V : Nat) : Nat := if V = 0 then 0 else Nat.log2 V / 64 + 1

theorem wordsN_le (V n : Nat) : wordsN V ≤ n ↔ V < 18446744073709551616 ^ n := by
  unfold wordsN
  have e : (18446744073709551616 : Nat) ^ n = 2 ^ (64 * n) := by rw [Nat.pow_mul]
  rw [e]
  by_cases h : V = 0
  · subst h; simp [Nat.pow_pos]
  · rw [if_neg h]
    have := Nat.log2_lt (n := V) (k := 64 * n) h
    omega

/-- Half as many as there are digits. -/
theorem words_half {ds : List Nat} (hd : Digs 4294967296 ds) (ht : Trimmed ds) : (ds.length + 1) / 2 = wordsN (val 4294967296 ds) := by
  have key : ∀ n, (ds.length + 1) / 2 ≤ n ↔ wordsN (val 4294967296 ds) ≤ n := fun n => by
    rw [wordsN_le]
    have e : (18446744073709551616 : Nat) ^ n = 4294967296 ^ (2 * n) := by rw [Nat.pow_mul]
    rw [e, ← len_le_iff (by omega) hd ht]
    omega
  have h1 := (key ((ds.length + 1) / 2)).1 (Nat.le_refl _)
  have h2 := (key (wordsN (val 4294967296 ds))).2 (Nat.le_refl _)
  omega

theorem wordsN_bd {w : World} {v : Value} {V : Nat} (h : IsBig w v V) : wordsN V ≤ 500000000 := by
  obtain ⟨ds, hr, hd, ht, rfl, hl⟩ := h
  rw [← words_half hd ht]
  omega

/-- How two numbers stand to one another. -/
def cmpN (a b : Nat) : Int := if a < b then -1 else if a = b then 0 else 1

theorem cmpN_lt {a b : Nat} (h : a < b) : cmpN a b = -1 := if_pos h

theorem cmpN_gt {a b : Nat} (h : b < a) : cmpN a b = 1 := by unfold cmpN; rw [if_neg (by omega), if_neg (by omega)]

theorem cmpN_eq {a b : Nat} (h : a = b) : cmpN a b = 0 := by unfold cmpN; rw [if_neg (by omega), if_pos h]

theorem val_lt_len {a b : List Nat} (ha : Digs 4294967296 a) (tb : Trimmed b) (h : a.length < b.length) : val 4294967296 a < val 4294967296 b := by
  have h1 := val_lt (by omega) ha
  have h2 := val_le_of_top (B := 4294967296) tb (by omega)
  have h3 : (4294967296 : Nat) ^ a.length ≤ 4294967296 ^ (b.length - 1) := Nat.pow_le_pow_right (by omega) (by omega)
  omega

/-- A higher digit that is less makes the number less. -/
theorem val_lt_top {a b : List Nat} {k : Nat} (ha : Digs 4294967296 a) (hl : a.length = b.length) (hk : k < a.length) (hd : a.drop (k + 1) = b.drop (k + 1)) (h : a.getD k 0 < b.getD k 0) : val 4294967296 a < val 4294967296 b := by
  have ea := val_take_drop 4294967296 a k (by omega)
  have eb := val_take_drop 4294967296 b k (by omega)
  rw [List.drop_eq_getElem_cons hk] at ea
  rw [List.drop_eq_getElem_cons (by omega : k < b.length), ← hd] at eb
  simp only [val] at ea eb
  have h1 : val 4294967296 (a.take k) < 4294967296 ^ k := by
    have := val_lt (by omega) (ha.take k)
    rwa [List.length_take, Nat.min_eq_left (by omega)] at this
  rw [List.getD_eq_getElem?_getD, List.getD_eq_getElem?_getD, List.getElem?_eq_getElem hk, List.getElem?_eq_getElem (by omega : k < b.length)] at h
  simp only [Option.getD_some] at h
  have h2 : 4294967296 ^ k * (a[k] + 4294967296 * val 4294967296 (a.drop (k + 1)) + 1) ≤ 4294967296 ^ k * (b[k] + 4294967296 * val 4294967296 (a.drop (k + 1))) := Nat.mul_le_mul_left _ (by omega)
  rw [Nat.mul_add, Nat.mul_one] at h2
  omega

theorem drop_step {a b : List Nat} {k : Nat} (hl : a.length = b.length) (hk : k < a.length) (hd : a.drop (k + 1) = b.drop (k + 1)) (h : a.getD k 0 = b.getD k 0) : a.drop k = b.drop k := by
  rw [List.drop_eq_getElem_cons hk, List.drop_eq_getElem_cons (by omega : k < b.length), hd]
  rw [List.getD_eq_getElem?_getD, List.getD_eq_getElem?_getD, List.getElem?_eq_getElem hk, List.getElem?_eq_getElem (by omega : k < b.length)] at h
  simp only [Option.getD_some] at h
  rw [h]

theorem drew3 (w : World) (a b c : Nat) : ∃ n, ((w.drewN a).drewN b).drewN c = w.drewN n := ⟨_, by rw [World.drewN_drewN, World.drewN_drewN]⟩

end Go.Proofs.YthnkganmccgaeaaDoor

/- Rows that are known whole; copy into them. -/
namespace Go.Proofs.YthnkganmccgaeaaDoor
open Go.RowKit

theorem below_kept {B : Nat} {w w' : World} (k : Kept Nought w w') (hB : B ≤ w.heap.size) : Below B w w' := k.below hB (fun _ f => f.elim)

theorem toHid {p : Prop} (h : p) : Hid p := h

/-- A row that is known whole, read as numbers. -/
theorem Row.of_block {k : IntKind} {w : World} {g n : Nat} {t : TypeId} {zs : List Nat} (hg : w.heap[g]? = some (.cells (zs.map fun z => Value.int k (z : Nat)).toArray t (0, 0))) (hl : zs.length = n) (hm : n ≤ maxLen) :
    Row k w (.slice (some ⟨g, 0, none⟩) n n) zs := by
  refine Row.of_own (base := 0) (e := t) ⟨by simp, .inr ⟨g, n, _, by rw [hl], Nat.zero_le _, hg, by omega, hm, by simp [hl], ?_⟩⟩
  rw [Nat.mul_one, List.take_of_length_le (by simp)]

theorem own_of_block {k : IntKind} {w : World} {g n base : Nat} {t : TypeId} {zs : List Nat} (hg : w.heap[g]? = some (.cells (zs.map fun z => Value.int k (z : Nat)).toArray t (0, 0))) (hl : zs.length = n) (hm : n ≤ maxLen) (hb : base ≤ g) :
    OwnN k t w base (.slice (some ⟨g, 0, none⟩) n n) n zs := by
  refine ⟨by simp [hl], .inr ⟨g, n, _, rfl, hb, hg, by omega, hm, by simp [hl], ?_⟩⟩
  rw [Nat.mul_one, List.take_of_length_le (by simp [hl])]

/-- A row that the call has made, whole. -/
theorem own_block {w : World} {base n : Nat} {e : TypeId} {g : Nat} {xs : List Value} (h : w.ownsRow base e 1 (.slice (some ⟨g, 0, none⟩) n n) n xs) : w.heap[g]? = some (.cells xs.toArray e (0, 0)) := by
  rcases h.2 with ⟨e1, _⟩ | ⟨g', cap, cur, e1, _, hg, _, _, hs, ht⟩
  · cases e1
  · simp only [Value.slice.injEq, Option.some.injEq, Addr.mk.injEq] at e1
    obtain ⟨⟨rfl, _⟩, _, rfl⟩ := e1
    rw [hg]
    have : cur.toList = xs := by
      rw [← ht, List.take_of_length_le]
      rw [Array.length_toList, hs]
      exact Nat.le_refl _
    rw [← this]

/-- copy into a row that is known whole: as many cells as the shorter of the two has go over. -/
theorem run_copy_part {P : Program} {w : World} (dT sT ty elem : TypeId) (g off dLen dCap : Nat) (dp ao : Option Addr) (sLen sCap : Nat) (cur : List Value) (t : TypeId) (cs : List Value) (hu : P.underlying dT = some (.slice elem)) (hsz : (P.info? elem).map (·.size) = some 1)
    (hg : w.heap[g]? = some (.cells cur.toArray t (0, 0))) (hn : cs.length = Nat.min sLen dLen) (hpos : 0 < cs.length → dp = some ⟨g, off, none⟩ ∧ ∃ ad, ao = some ad ∧ ∀ j u, cs[j]? = some u → w.cell? (ad.add j) = some u) (hfit : off + cs.length ≤ cur.length) (h1 : ∀ u ∈ cs, u.oneCell' = true) :
    ∃ w', (Builtin.copy_ #[dT, sT] ty #[.slice dp dLen dCap, .slice ao sLen sCap]).run P w = .ok (goInt cs.length) w' ∧ w'.heap[g]? = some (.cells (splice cur off cs).toArray t (0, 0)) ∧ Kept (fun b => b = g) w w' := by
  by_cases h0 : cs.length = 0
  · obtain rfl : cs = [] := List.eq_nil_of_length_eq_zero h0
    exact ⟨w, by simpa using run_copy_none (P := P) w dT sT ty elem dp ao dLen dCap sLen sCap hu hsz (by simpa using hn.symm), by simpa [splice] using hg, Kept.refl _ _⟩
  · obtain ⟨rfl, ad, rfl, hsrc⟩ := hpos (by omega)
    refine ⟨_, run_copy_row (P := P) w dT sT ty elem g off dLen dCap ad sLen sCap cur.toArray t cs hu hsz hg hn hsrc (by simpa using hfit) h1, ?_, ?_⟩
    · simpa [splice] using setRow_heap w g _ _ t _ hg
    · exact ⟨rfl, rfl, rfl, by simp [World.setRow], fun k hk hne => setRow_other w g k _ hne⟩

theorem kept_new {w w1 w2 : World} {g : Nat} (k1 : Kept Nought w w1) (k2 : Kept (fun b => b = g) w1 w2) (hg : w.heap.size ≤ g) : Kept Nought w w2 :=
  k1.next k2 (fun x hx e => by omega)

theorem fill_digs {ys : List Nat} {V m : Nat} (hd : Digs 18446744073709551616 ys) (hv : val 18446744073709551616 ys = V) (hl : ys.length ≤ m) : digs 18446744073709551616 V m = ys ++ List.replicate (m - ys.length) 0 := by
  have hz : val 18446744073709551616 (List.replicate (m - ys.length) 0) = 0 := val_zeros _ (fun d hd => (List.mem_replicate.1 hd).2)
  refine (digs_val (by omega) (B := 18446744073709551616) (hd.append ?_) (by simp; omega) ?_).symm
  · intro d hd
    rw [List.mem_replicate] at hd; omega
  · rw [val_append, hz, Nat.mul_zero, Nat.add_zero, hv, Nat.mod_eq_of_lt]
    rw [← hv]
    exact Nat.lt_of_lt_of_le (val_lt (by omega) hd) (Nat.pow_le_pow_right (by omega) hl)

theorem splice_fill (ys : List Nat) (m : Nat) (f : Nat → Value) : splice ((List.replicate m 0).map f) 0 (ys.map f) = (ys ++ List.replicate (m - ys.length) 0).map f := by
  simp [splice]

theorem bit_dig64 (V j : Nat) : dig 18446744073709551616 V (j / 64) / 2 ^ (j % 64) % 2 = V / 2 ^ j % 2 := by
  unfold dig
  have e1 : (18446744073709551616 : Nat) ^ (j / 64) = 2 ^ (64 * (j / 64)) := by rw [Nat.pow_mul]
  rw [e1, show (18446744073709551616 : Nat) = 2 ^ (j % 64) * 2 ^ (64 - j % 64) by rw [← Nat.pow_add, show j % 64 + (64 - j % 64) = 64 by omega], Nat.mod_mul_right_div_self, Nat.div_div_eq_div_mul, ← Nat.pow_add, show 64 * (j / 64) + j % 64 = j by omega, Nat.mod_mod_of_dvd]
  exact ⟨2 ^ (63 - j % 64), by rw [show 64 - j % 64 = (63 - j % 64) + 1 by omega, Nat.pow_succ, Nat.mul_comm]⟩

theorem Row.lt {k : IntKind} {w : World} {v : Value} {xs : List Nat} (h : Row k w v xs) (hne : xs ≠ []) : ∀ b, v.ownBlock = some b → b < w.heap.size := by
  obtain ⟨ao, cap, rfl, _, _, _, hc⟩ := h
  intro b hb
  have : 0 < xs.length := by
    rcases xs with _ | ⟨x, r⟩
    · exact absurd rfl hne
    · simp
  obtain ⟨b', off, rfl, hcell⟩ := hc 0 this
  have e : b' = b := by simpa [Value.ownBlock] using hb
  subst e
  exact World.block_lt_of_cell? w _ hcell

theorem Row.kept' {S : Nat → Prop} {k : IntKind} {w w' : World} {v : Value} {zs : List Nat} (h : Row k w v zs) (hk : Kept S w w') (hs : zs ≠ [] → ∀ b, v.ownBlock = some b → ¬ S b) : Row k w' v zs := by
  by_cases h0 : zs = []
  · subst h0
    obtain ⟨ao, cap, rfl, h1, h2, h3, _⟩ := h
    exact ⟨ao, cap, rfl, h1, h2, h3, fun i hi => absurd hi (by simp)⟩
  · exact h.kept hk (hs h0)

end Go.Proofs.YthnkganmccgaeaaDoor
