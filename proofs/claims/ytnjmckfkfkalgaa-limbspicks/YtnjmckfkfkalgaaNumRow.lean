/- A slice of numbers, read: what its cells hold; the plain numbers' trim, digit, Words. -/
import Derived.Test.YtnjmckfkfkalgaaKept
import Derived.Test.YtnjmckfkfkalgaaNums
import Derived.Lib.MinMax
import Derived.Deep.QuietTactic
import Derived.BigQuiet
namespace Go.Proofs.Ytnjmckfkfkalgaa
open Go.RowKit

/-- The slice v holds the numbers zs, of kind k. -/
def Row (k : IntKind) (w : World) (v : Value) (zs : List Nat) : Prop :=
  ∃ ao cap, v = .slice ao zs.length cap ∧ zs.length ≤ cap ∧ cap ≤ maxLen ∧ (ao = none → cap = 0) ∧ ∀ i, i < zs.length → ∃ b off, ao = some ⟨b, off, none⟩ ∧ w.cell? ⟨b, off + i, none⟩ = some (.int k (zs.getD i 0 : Nat))

/-- Number i of a slice that lies at ao. -/
def NumAt (k : IntKind) (w : World) (ao : Option Addr) (zs : List Nat) (i : Nat) : Prop :=
  ∃ b off, ao = some ⟨b, off, none⟩ ∧ w.cell? ⟨b, off + i, none⟩ = some (.int k (zs.getD i 0 : Nat))

theorem Row.open {k : IntKind} {w : World} {v : Value} {zs : List Nat} (h : Row k w v zs) :
    ∃ ao n cap, v = .slice ao n cap ∧ Hid (zs.length = n) ∧ n ≤ cap ∧ cap ≤ 9223372036854775807 ∧ (ao = none → cap = 0) ∧ ∀ i, i < n → NumAt k w ao zs i := by
  obtain ⟨ao, cap, rfl, h1, h2, h3, h4⟩ := h
  exact ⟨ao, _, cap, rfl, rfl, h1, by unfold maxLen at h2; omega, h3, h4⟩

theorem Row.nil (k : IntKind) (w : World) : Row k w (.slice none 0 0) [] := ⟨none, 0, rfl, Nat.le_refl _, by unfold maxLen; omega, fun _ => rfl, fun i hi => absurd hi (by simp)⟩

theorem NumAt.kept {S : Nat → Prop} {k : IntKind} {w w' : World} {ao : Option Addr} {zs : List Nat} {i : Nat} (h : NumAt k w ao zs i) (hk : Kept S w w') (hs : ∀ a, ao = some a → ¬ S a.block) : NumAt k w' ao zs i := by
  obtain ⟨b, off, rfl, hc⟩ := h
  have hb : b < w.heap.size := World.block_lt_of_cell? w _ hc
  exact ⟨b, off, rfl, (World.cell?_of_block (a := ⟨b, off + i, none⟩) (hk.block b hb (hs _ rfl))).trans hc⟩

theorem NumAt.grew {k : IntKind} {w w' : World} {ao : Option Addr} {zs : List Nat} {i : Nat} (h : NumAt k w ao zs i) (hk : Kept Nought w w') : NumAt k w' ao zs i := h.kept hk (fun _ _ f => f)

theorem Row.kept {S : Nat → Prop} {k : IntKind} {w w' : World} {v : Value} {zs : List Nat} (h : Row k w v zs) (hk : Kept S w w') (hs : ∀ b, v.ownBlock = some b → ¬ S b) : Row k w' v zs := by
  obtain ⟨ao, cap, rfl, h1, h2, h3, h4⟩ := h
  exact ⟨ao, cap, rfl, h1, h2, h3, fun i hi => NumAt.kept (h4 i hi) hk (fun a ha => hs _ (by subst ha; rfl))⟩

theorem Row.grew {k : IntKind} {w w' : World} {v : Value} {zs : List Nat} (h : Row k w v zs) (hk : Kept Nought w w') : Row k w' v zs := h.kept hk (fun _ _ f => f)

/-- What the call itself has made is read so. -/
theorem Row.of_own {k : IntKind} {w : World} {base : Nat} {e : TypeId} {v : Value} {zs : List Nat} (h : w.ownsRow base e 1 v zs.length (zs.map fun z => .int k (z : Nat))) : Row k w v zs := by
  rcases h.2 with ⟨rfl, h0⟩ | ⟨g, cap, cur, rfl, _, hg, hnc, hm, _, _⟩
  · obtain rfl : zs = [] := List.eq_nil_of_length_eq_zero h0
    exact Row.nil k w
  · refine ⟨_, _, rfl, hnc, hm, (fun e => by cases e), fun i hi => ⟨g, 0, rfl, ?_⟩⟩
    rw [Nat.zero_add, World.ownsRow.cellAt h i (by omega), List.getElem?_map, List.getElem?_eq_getElem hi, List.getD_eq_getElem?_getD, List.getElem?_eq_getElem hi]
    rfl

/-- The first m of them. -/
theorem Row.cut {k : IntKind} {w : World} {ao : Option Addr} {n cap m : Nat} {zs : List Nat} (h : Row k w (.slice ao n cap) zs) (hm : m ≤ zs.length) : Row k w (.slice ao m cap) (zs.take m) := by
  obtain ⟨ao', cap', e, h1, h2, h3, h4⟩ := h
  simp only [Value.slice.injEq] at e
  obtain ⟨rfl, _, rfl⟩ := e
  have hl : (zs.take m).length = m := by rw [List.length_take]; omega
  refine ⟨ao, cap, by rw [hl], by omega, h2, h3, fun i hi => ?_⟩
  rw [hl] at hi
  obtain ⟨b, off, e, hc⟩ := h4 i (by omega)
  refine ⟨b, off, e, ?_⟩
  rw [hc, List.getD_eq_getElem?_getD, List.getD_eq_getElem?_getD, List.getElem?_take, if_pos hi]

theorem own_len (ao : Option Addr) (n m cap : Nat) : (Value.slice ao n cap).ownBlock = (Value.slice ao m cap).ownBlock := by cases ao <;> rfl

/-- How long a slice is. -/
def lenV : Value → Nat
  | .slice _ n _ => n
  | _ => 0

set_option maxHeartbeats 400000 in
theorem rTrim (v : Value) (zs : List Nat) (w : World) (h : Row .u32 w v zs) :
    Calls Try.prog 55 #[v] w fun r w' => ∃ m v', r = .returned v' ∧ m ≤ zs.length ∧ Row .u32 w v' (zs.take m) ∧ (∀ i, m ≤ i → zs.getD i 0 = 0) ∧ (m = 0 ∨ zs.getD (m - 1) 0 ≠ 0) ∧ v'.ownBlock = v.ownBlock ∧ (∃ ao n cap, v = .slice ao n cap ∧ v' = .slice ao m cap) ∧ w' = w := by
  have hcut := fun ao n cap (e : v = .slice ao n cap) m (hm : m ≤ zs.length) => (show Row .u32 w (.slice ao n cap) zs from e ▸ h).cut hm
  obtain ⟨ao, n, cap, rfl, hN, h1, h2, h3, h4⟩ := h.open
  have HC : Hid (∀ m, m ≤ n → Row .u32 w (.slice ao m cap) (zs.take m)) := fun m hm => hcut ao n cap rfl m (by have := hN.out; omega)
  have HL : Hid (∀ i, n ≤ i → zs.getD i 0 = 0) := fun i hi => by have := hN.out; rw [List.getD_eq_getElem?_getD, List.getElem?_eq_none (by omega)]; rfl
  clear hcut h h3
  go_enter Try.func55, Try.ntmps55
  go_wp2_with fail
  go_loop [0] (fun a => ∃ m : Nat, m ≤ n ∧ a = .slice ao m cap ∧ Hid (∀ i, m ≤ i → zs.getD i 0 = 0)) (fun a => lenV a)
  case atStart => exact ⟨n, Nat.le_refl _, rfl, HL⟩
  case round =>
    obtain ⟨m, hm, rfl, hz⟩ := hrel
    cases m with
    | zero =>
      clear h4
      go_wp2
      go_ret
      exact ⟨0, _, rfl, Nat.zero_le _, HC.out 0 (Nat.zero_le _), hz.out, .inl rfl, own_len ao 0 n cap, ⟨ao, n, cap, ⟨rfl, rfl, rfl⟩, rfl⟩, rfl⟩
    | succ j =>
      obtain ⟨b, off, rfl, hc⟩ := h4 j (by omega)
      obtain ⟨z, hzz⟩ : ∃ z, z = zs.getD j 0 := ⟨_, rfl⟩
      rw [← hzz] at hc
      have HZ : Hid (z = zs.getD j 0) := hzz
      clear hzz h4
      by_cases h0 : z = 0
      · have hz0 : ((z : Int) == 0) = true := by simp [h0]
        subst h0
        go_wp2
        go_round
        case rel => exact ⟨j, by omega, rfl, fun i hi => by
          by_cases e : i = j
          · subst e; exact HZ.out.symm
          · exact hz.out i (by omega)⟩
        case measure => simp [lenV]
      · have hne : Hid (zs.getD (j + 1 - 1) 0 ≠ 0) := by
          unfold Hid
          rw [Nat.add_sub_cancel, ← HZ.out]
          exact h0
        have hz0 : ((z : Int) == 0) = false := by simp; omega
        have hz1 : ¬ ((z : Int) = 0) := by omega
        go_wp2
        go_ret
        exact ⟨j + 1, _, rfl, by have := hN.out; omega, HC.out _ hm, hz.out, .inr hne.out, own_len _ _ _ _, ⟨_, _, _, ⟨rfl, rfl, rfl⟩, rfl⟩, rfl⟩

set_option maxHeartbeats 400000 in
theorem rDigit (v : Value) (zs : List Nat) (i : Nat) (w : World) (h : Row .u32 w v zs) :
    Calls Try.prog 54 #[v, .int .i64 i] w fun r w' => r = .returned (.int .u32 (zs.getD i 0 : Nat)) ∧ w' = w := by
  obtain ⟨ao, n, cap, rfl, hN, h1, h2, h3, h4⟩ := h.open
  by_cases hi : i < n
  · obtain ⟨b, off, rfl, hc⟩ := h4 i hi
    have hi' : (i : Int) < (n : Int) := by omega
    generalize zs.getD i 0 = z at *
    clear h h4
    go_enter Try.func54, Try.ntmps54
    go_wp2
    go_ret
    exact ⟨rfl, rfl⟩
  · have hi' : ¬ (i : Int) < (n : Int) := by omega
    have hz : zs.getD i 0 = 0 := by have := hN.out; rw [List.getD_eq_getElem?_getD, List.getElem?_eq_none (by omega)]; rfl
    rw [hz]
    clear h h4 hz
    go_enter Try.func54, Try.ntmps54
    go_wp2
    go_ret
    exact ⟨rfl, rfl⟩

end Go.Proofs.Ytnjmckfkfkalgaa
