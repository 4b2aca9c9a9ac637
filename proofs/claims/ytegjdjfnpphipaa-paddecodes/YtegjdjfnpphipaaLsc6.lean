/- Scripts: both sides' Below of any number; one script stands while another is read. -/
import Derived.Test.YtegjdjfnpphipaaLsc5
import Derived.Test.YtegjdjfnpphipaaNob1
namespace Go.Proofs.Ytegjdjfnpphipaa
open Go.RowKit

theorem belX_bad {xs bs : List Nat} (h : 300 < xs.length ∨ val 18446744073709551616 xs < 2) : belX xs bs = [] ∧ belK xs bs = 0 ∧ belR xs bs = bs := by
  have e : belE xs bs ≠ 0 := by
    unfold belE
    split
    · omega
    · next h1 =>
      rw [if_pos (by omega)]
      omega
  exact ⟨if_neg e, if_neg e, if_pos h⟩

/-- Numbers of some words, or bytes, lie apart from a plain script. -/
theorem ScrAt.apart {k : IntKind} {w : World} {b B : Nat} {bs xs : List Nat} {v : Value} (h : ScrAt w b B bs) (hv : Row k w v xs) (hx : xs ≠ []) : v.ownBlock ≠ some b := by
  obtain ⟨u, h, _⟩ := h
  refine row_apart h.1 ?_ hv hx
  obtain ⟨_, _, rfl, _⟩ := h.2.1
  intro y hy z
  simp at hy
  rw [hy]
  simp

theorem ofP_some {a y : Nat} (h : ofP (some ⟨a, 0, none⟩) y) : y = a := (Option.some.inj h).symm

/-- A script stands while another is read. -/
theorem Lsc.other {w w' : World} {p q : Option Addr} {B C : Nat} {bs cs : List Nat} (h : Lsc w q C cs) (hp : Lsc w p B bs) (k : Kept (ofP p) w w') (hne : ∀ x, ofP p x → ofP q x → False) : Lsc w' q C cs := by
  rcases h with h | ⟨b, v, ps, pl, rfl, e, h1, h2, h3⟩
  · exact .inl h
  · exact .inr ⟨b, v, ps, pl, rfl, e, (k.block b (lt_of_block h1) (fun f => hne b f rfl)).trans h1, h2.kept' k (fun hx => hp.apart h2 hx), h3⟩

theorem ScrAt.noP {w : World} {p : Option Addr} {b B C : Nat} {bs cs : List Nat} (h : ScrAt w b C cs) (hp : Lsc w p B bs) : ¬ ofP p b := by
  obtain ⟨v, ⟨h1, _⟩, _⟩ := h
  intro f
  rcases hp with ⟨rfl, _⟩ | ⟨b', v', ps, pl, rfl, e, h3, _⟩
  · cases f
  · cases f
    have h3' : w.heap[b']? = some (.cells #[v', .int .i64 (pl : Nat)] 54 (0, 0)) := h3
    rw [h3'] at h1
    cases h1

/-- A plain script stands while a script is read, and the other way round. -/
theorem ScrAt.other {w w' : World} {p : Option Addr} {b B C : Nat} {bs cs : List Nat} (h : ScrAt w b C cs) (hp : Lsc w p B bs) (k : Kept (ofP p) w w') : ScrAt w' b C cs := by
  have hn := h.noP hp
  obtain ⟨v, h1, h2, h3⟩ := h
  exact ⟨v, h1.kept k hn (fun hx => hp.apart h1.2.1 hx), h2, h3⟩

theorem Lsc.plain {w w' : World} {p : Option Addr} {b B C : Nat} {bs cs : List Nat} (hp : Lsc w p B bs) (h : ScrAt w b C cs) (k : Kept (fun x => x = b) w w') : Lsc w' p B bs := by
  have hn := h.noP hp
  rcases hp with h' | ⟨b', v, ps, pl, rfl, e, h1, h2, h3⟩
  · exact .inl h'
  · refine .inr ⟨b', v, ps, pl, rfl, e, (k.block b' (lt_of_block h1) (fun f => hn (by rw [f]; rfl))).trans h1, h2.kept' k (fun hx x ex f => h.apart h2 hx (by rw [ex, f])), h3⟩

set_option maxRecDepth 20000 in
set_option maxHeartbeats 1000000 in
/-- Left, as a region that draws asks it. -/
theorem xLeftD (p : Option Addr) (B : Nat) (bs : List Nat) (w : World) (h : Lsc w p B bs) :
    Calls Try.prog 14 #[.pointer p] w fun e w' => e = .returned (.int .i64 (bs.length : Nat)) ∧ ∃ m, w' = w.drewN m := by
  rcases h with ⟨rfl, rfl⟩ | ⟨b, v, ps, k, rfl, rfl, h⟩
  · go_enter Try.func14, Try.ntmps14
    go_wp2_with fail
    go_ret
    exact ⟨rfl, 0, rfl⟩
  · obtain ⟨c0, c1⟩ := h.cells
    obtain ⟨ao, L, cap, rfl, hL, hLc, hcm, hnn, hnum⟩ := h.2.1.open
    have hk : k ≤ L := by rw [← hL.out]; exact h.2.2.1
    have hLb : L ≤ 1000000 := by rw [← hL.out]; exact h.2.2.2.1
    have e1 : (ps.drop k).length = L - k := by rw [List.length_drop, hL.out]
    rw [e1]
    obtain ⟨d, hd⟩ : ∃ d, d = L - k := ⟨_, rfl⟩
    rw [← hd]
    have g1 : (L : Int) - (k : Int) = (d : Int) := by omega
    clear hd e1 hnum h hnn
    go_enter Try.func14, Try.ntmps14
    go_wp2_with fail
    go_quiet (fail)
    go_wp2_with fail
    go_ret
    exact ⟨rfl, _, rfl⟩

/-- A plain script that is made of bytes. -/
theorem scrNew {w : World} {o : Option Addr} {l c : Nat} {bs : List Nat} (h : Row .u8 w (.slice o l c) bs) : ScrAt (w.alloc (.cells #[.slice o l c] 29)) w.heap.size (w.heap.size + 1) bs := by
  have hlt := h.lt
  have k : Kept Nought w (w.alloc (.cells #[.slice o l c] 29)) := (Kept.refl _ _).alloc _
  refine ⟨_, ⟨heap_alloc_new _ _, h.grew k, fun e x hx => ?_⟩, by omega, fun e x hx => ?_⟩
  · have := hlt e x hx
    omega
  · have := hlt e x hx
    omega

end Go.Proofs.Ytegjdjfnpphipaa
