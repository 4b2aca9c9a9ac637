/- Package product: extended, MulWord. -/
import Derived.Test.YtcdeankllgpnfabPrC
namespace Go.Proofs.Ytcdeankllgpnfab
open Go.RowKit

set_option maxRecDepth 20000 in
set_option maxHeartbeats 2000000 in
/-- extended. -/
theorem pExt (v : Value) (xs : List Nat) (n : Nat) (w : World) (h : Row .u64 w v xs) (hl : xs.length ≤ n) (hn : n ≤ 1000000) :
    Calls Try.prog 27 #[v, .int .i64 (n : Nat)] w fun e w' => e = .returned (.slice (some ⟨w.heap.size, 0, none⟩) n n) ∧ OwnN .u64 24 w' w.heap.size (.slice (some ⟨w.heap.size, 0, none⟩) n n) n (xs ++ List.replicate (n - xs.length) 0) ∧ Kept Nought w w' := by
  obtain ⟨i0, hi0, hz0, hz1, hz2⟩ := info_parts Try.info24
  obtain ⟨ao, q, cap, rfl, hL, _, _, _, _⟩ := h.open
  have HS : Hid (∀ W, Kept Nought w W → 0 < (xs.map fun z : Nat => Value.int .u64 (z : Int)).length → ∃ ad, ao = some ad ∧ ∀ j u, (xs.map fun z : Nat => Value.int .u64 (z : Int))[j]? = some u → W.cell? (ad.add j) = some u) := fun W hk hp => h.source hk hp
  have HO := toHid (ints_one .u64 xs)
  have HLC : Hid ((xs.map fun z : Nat => Value.int .u64 (z : Int)).length = q) := by unfold Hid; rw [List.length_map]; exact hL.out
  obtain ⟨CS, hCS⟩ : ∃ CS, CS = xs.map (fun z : Nat => Value.int .u64 (z : Int)) := ⟨_, rfl⟩
  rw [← hCS] at HS HO HLC
  have HCS : Hid (CS = xs.map (fun z : Nat => Value.int .u64 (z : Int))) := hCS
  have hq : q ≤ n := by rw [← hL.out]; exact hl
  clear hCS h hl
  go_enter Try.func27, Try.ntmps27
  go_wp2_with (at_make; refine wpList_make_full _ rfl _ _ 23 rfl w.heap.size 24 i0 _ 1 Try.underlying23 hi0 hz0 hz1 _ _ _ _ n rfl rfl rfl rfl (by rw [hz2]; omega) (by unfold maxLen; omega) (Nat.le_refl _) ?_; intro w1 ho1 hg1; rw [zeros_map] at ho1; have k1 := grown_kept hg1; obtain ⟨w2, hrun, hb2, k2⟩ := run_copy_part (P := Try.prog) 23 23 3 24 w.heap.size 0 n n (some ⟨w.heap.size, 0, none⟩) ao q cap _ 24 CS Try.underlying23 (by rw [hi0]; simp [hz1]) (own_block ho1) (by rw [HLC.out]; exact (Nat.min_eq_left hq).symm) (fun hp => ⟨rfl, HS.out _ k1 hp⟩) (by have := HLC.out; simp; omega) HO.out; have HB2 : Hid _ := hb2; clear hb2 ho1 hg1)
  go_ret
  have hfin := HB2.out
  rw [HCS.out, splice_fill] at hfin
  have kk := kept_new k1 k2 (Nat.le_refl _)
  exact ⟨rfl, own_of_block hfin (by simp [hL.out]; omega) (by unfold maxLen; omega) (Nat.le_refl _), kk⟩

/-- What MulWord answers. -/
def mwAns (X W Y L M : Nat) : List Nat := if L ≤ 300 ∧ M ≤ 300 then digs 18446744073709551616 (Y + X * W) (max L M) else []

def mwTop (X W Y L M : Nat) : Nat := if L ≤ 300 ∧ M ≤ 300 then (Y + X * W) / 18446744073709551616 ^ max L M else 0

def mwEvs (L M : Nat) : List Ev := if L ≤ 300 ∧ M ≤ 300 then [(1, ((max L M : Nat) : Int), 0)] else []

theorem val_fill {ys : List Nat} (n : Nat) : val 18446744073709551616 (ys ++ List.replicate n 0) = val 18446744073709551616 ys := by
  rw [val_append, val_zeros _ (fun d hd => (List.mem_replicate.1 hd).2), Nat.mul_zero, Nat.add_zero]

theorem own_row' {w : World} {base n : Nat} {v : Value} {zs : List Nat} (h : OwnN .u64 24 w base v n zs) (hl : zs.length = n) : Row .u64 w v zs :=
  Row.of_own (base := base) (e := 24) (by rw [hl]; exact h)

theorem digs_fill {ys : List Nat} (h : Digs 18446744073709551616 ys) (n : Nat) : Digs 18446744073709551616 (ys ++ List.replicate n 0) := h.append (fun d hd => by rw [(List.mem_replicate.1 hd).2]; omega)

set_option maxRecDepth 20000 in
set_option maxHeartbeats 2000000 in
/-- What MulWord attempts. -/
theorem pMulWord1 (o : Tr) (ao bo : Option Addr) (L M cap dap : Nat) (xs ys : List Nat) (x : Nat) (hx : x < 18446744073709551616) (bT bA bB bO bW bU N : Nat) (hN : N = max L M) (w : World) (ht : TrRoom w o 300) (hu : RowT w o (.slice ao L cap) xs) (hv : RowT w o (.slice bo M dap) ys) (hdx : Digs 18446744073709551616 xs) (hdy : Digs 18446744073709551616 ys)
    (hT : Box w bT (trPtr o) 30) (hA : Box w bA (.slice ao L cap) 23) (hB : Box w bB (.slice bo M dap) 23) (hO : Box w bO (.slice none 0 0) 23) (hW : Box w bW (.int .u64 (x : Nat)) 24) (hU : Box w bU (.int .u64 0) 24) (hne : bO ≠ bU) (hAO : bA ≠ bO) (hWO : bW ≠ bO) (hAU : bA ≠ bU) (hWU : bW ≠ bU) (hAr : xs ≠ [] → ∀ b, (Value.slice ao L cap).ownBlock = some b → b ≠ bO) (X Y R : Nat) (hX : X = val 18446744073709551616 xs) (hY : Y = val 18446744073709551616 ys) (hR : R = (Y + X * x) / 18446744073709551616 ^ N) :
    Calls Try.prog 26 #[.pointer (some ⟨bA, 0, none⟩), .pointer (some ⟨bB, 0, none⟩), .pointer (some ⟨bT, 0, none⟩), .pointer (some ⟨bO, 0, none⟩), .pointer (some ⟨bW, 0, none⟩), .pointer (some ⟨bU, 0, none⟩)] w fun e w' =>
      ((L ≤ 300 ∧ M ≤ 300) ∧ e = .returned (.tuple #[]) ∧ ∃ v' w1 o', OwnN .u64 24 w' w.heap.size v' N (digs 18446744073709551616 (Y + X * x) N) ∧ Did w o [(1, (N : Int), 0)] w1 o' ∧ Kept (fun b => b = bO ∨ b = bU ∨ w1.heap.size ≤ b) w1 w' ∧ Box w' bO v' 23 ∧ Box w' bU (.int .u64 (R : Nat)) 24) ∨
      (¬ (L ≤ 300 ∧ M ≤ 300) ∧ e = .panicked [refusal 2] ∧ w' = w) := by
  obtain ⟨_, _, _, e1, hLx, _, _, _, _⟩ := hu.1.open
  cases e1
  obtain ⟨_, _, _, e1, hLy, _, _, _, _⟩ := hv.1.open
  cases e1
  have eL := hLx.out
  have eM := hLy.out
  have hP := fun W => pLong ao bo L M cap dap W
  obtain ⟨po, hpo⟩ := trPtr_shape o
  have hS := fun (n : Int) => tSpanDid o n w ht.1
  rw [hpo] at hS hT
  have cT := hT.cell
  have cA := hA.cell
  have cB := hB.cell
  have HO := toHid hO
  have HT := toHid ht
  have HU := toHid hu
  have HV := toHid hv
  have HA := toHid hA
  have HB := toHid hB
  have HW := toHid hW
  have HUp := toHid hU
  have HDX := toHid hdx
  have HDY := toHid hdy
  clear hu hv hdx hdy hLx hLy hpo hT hA hB hO ht hW hU
  go_enter Try.func26, Try.ntmps26
  go_wp2_with fail
  refine (hP _).mono ?_
  rintro e w1 ⟨⟨l1, l2, rfl⟩ | ⟨l1, rfl⟩, rfl⟩
  · have gN : max (L : Int) (M : Int) = (N : Int) := by omega
    have hLN : L ≤ N := by omega
    have hMN : M ≤ N := by omega
    have hN3 : N ≤ 300 := by omega
    clear hN hP
    go_wp2_with fail
    refine (hS _).mono ?_
    rintro e w2 ⟨rfl, o2, d2⟩
    have ht1 := HT.out.1
    have hxO := HO.out.did d2 ht1 (by decide) (by decide)
    have hxA := HA.out.did d2 ht1 (by decide) (by decide)
    have hxW := HW.out.did d2 ht1 (by decide) (by decide)
    have hxU := HUp.out.did d2 ht1 (by decide) (by decide)
    have hxB := HB.out.did d2 ht1 (by decide) (by decide)
    have hu2 := (HU.out.did d2).1
    have hv2 := (HV.out.did d2).1
    have cB2 := hxB.cell
    have hE1 := pExt _ ys N w2 hv2 (by omega) (by omega)
    clear hS
    go_wp2_with fail
    refine hE1.mono ?_
    rintro e w3 ⟨rfl, ho3, k3⟩
    have hxO3 := hxO.grew k3
    have cO3 := hxO3.cell
    have fO3 := hxO3.free
    obtain ⟨g, hg⟩ : ∃ g, g = w2.heap.size := ⟨_, rfl⟩
    rw [← hg] at ho3 ⊢
    have hOlt := hxO.lt
    have hUlt := hxU.lt
    have hxO4 := hxO3.set (.slice (some ⟨g, 0, none⟩) N N)
    have hxA4 := ((hxA.grew k3).kept (kept_box w3 bO (.slice (some ⟨g, 0, none⟩) N N)) hAO)
    have hxW4 := ((hxW.grew k3).kept (kept_box w3 bO (.slice (some ⟨g, 0, none⟩) N N)) hWO)
    have hxU4 := ((hxU.grew k3).kept (kept_box w3 bO (.slice (some ⟨g, 0, none⟩) N N)) (fun e => hne e.symm))
    have ho4 := (kept_box w3 bO (.slice (some ⟨g, 0, none⟩) N N)).own ho3 (fun b hb' e => by have := (ho3.lt b hb').1; omega)
    have HG := toHid hg
    have k34 : Kept (fun b => b = bO) w2 (w3.setCell ⟨bO, 0, none⟩ (.slice (some ⟨g, 0, none⟩) N N)) := k3.any.trans (kept_box w3 bO _)
    clear hg
    go_wp2_with fail
    generalize w3.setCell ⟨bO, 0, none⟩ (.slice (some ⟨g, 0, none⟩) N N) = W4 at *
    have hu4 : Row .u64 W4 (.slice ao L cap) xs := hu2.kept' k34 (fun hne' b hb e => hAr hne' b hb e)
    have hE2 : ∀ W, Kept Nought W4 W → Calls Try.prog 27 #[.slice ao L cap, .int .i64 (N : Int)] W fun e w' => ∃ b0, e = .returned (.slice (some ⟨b0, 0, none⟩) N N) ∧ W4.heap.size ≤ b0 ∧ Row .u64 w' (.slice (some ⟨b0, 0, none⟩) N N) (xs ++ List.replicate (N - xs.length) 0) ∧ Kept Nought W4 w' := fun W k => by
      refine (pExt _ xs N W (hu4.grew k) (by omega) (by omega)).mono ?_
      rintro e w' ⟨rfl, ho, kk⟩
      exact ⟨_, rfl, k.size, own_row' ho (by simp; omega), k.trans kk⟩
    have hglt : g < W4.heap.size := owns_lt ho4
    have hAR : ∀ W b0, Kept Nought W4 W → W4.heap.size ≤ b0 → Row .u64 W (.slice (some ⟨b0, 0, none⟩) N N) (xs ++ List.replicate (N - xs.length) 0) → Calls Try.prog 28 #[.slice (some ⟨g, 0, none⟩) N N, .slice (some ⟨b0, 0, none⟩) N N, .int .u64 (x : Nat)] W fun e w' => e = .returned (.int .u64 (R : Nat)) ∧ OwnN .u64 24 w' g (.slice (some ⟨g, 0, none⟩) N N) N (digs 18446744073709551616 (Y + X * x) N) ∧ Kept (fun b => b = g) W4 w' := fun W b0 k hb0 hr => by
      refine (pAddRow g g N N 0 N N x _ _ _ W (k.own ho4 (fun _ _ f => f)) (by simp; omega) (digs_fill HDY.out _) (by omega) hr (by simp; omega) (digs_fill HDX.out _) (fun _ b hb e => by simp [Value.ownBlock] at hb; omega) hx R (Y + X * x) (by rw [List.drop_zero, List.take_of_length_le (by simp; omega), val_fill, val_fill, hY, hX]) hR).mono ?_
      rintro e w' ⟨rfl, ho, kk⟩
      rw [List.take_zero, List.nil_append, List.drop_of_length_le (by simp; omega), List.append_nil] at ho
      exact ⟨rfl, ho, k.any.trans kk⟩
    have cO4 := hxO4.cell
    have cA4 := hxA4.cell
    have cW4 := hxW4.cell
    have HXO4 := toHid hxO4
    have HXU4 := toHid hxU4
    have HXA4 := toHid hxA4
    have HXW4 := toHid hxW4
    have hAg : bA ≠ g := by have := hxA.lt; have := HG.out; omega
    have hWg : bW ≠ g := by have := hxW.lt; have := HG.out; omega
    have hOg : bO ≠ g := by have := HG.out; omega
    have hUg : bU ≠ g := by have := HG.out; omega
    have HK34 := toHid k34
    have HD2 := toHid d2
    clear hxO4 hxA4 hxW4 hxU4 ho4 k34 hu4 hxO hxA hxW hxU hxB hu2 hv2 cB2 hE1 ho3 k3 hxO3 cO3 fO3 cT cA cB hX hY hR d2
    go_region_held3 (fun w' => w'.cell? ⟨bO, 0, none⟩ = some (.slice (some ⟨g, 0, none⟩) N N) ∧ w'.cell? ⟨bA, 0, none⟩ = some (.slice ao L cap) ∧ w'.cell? ⟨bW, 0, none⟩ = some (.int .u64 (x : Int)))
      (((try dsimp only); (repeat' apply And.intro) <;> first | (go_keep; done) | assumption | exact (hxO6.other ⟨bU, 0, none⟩ hne _).cell | exact (hxA6.other ⟨bU, 0, none⟩ hAU _).cell | exact (hxW6.other ⟨bU, 0, none⟩ hWU _).cell))
      (first
      | (go_at_call 27; refine (hE2 _ ?_).mono ?_; (first | exact (Kept.refl _ _).drew | exact Kept.refl _ _); rintro e w5 ⟨b0, rfl, hb0, hr5, k5⟩; have p1 := k5.cellN cO4; have p2 := k5.cellN cA4; have p3 := k5.cellN cW4)
      | (go_at_call 28; refine (hAR _ _ ?_ hb0 ?_).mono ?_; (exact k5); (exact hr5); rintro e w6 ⟨rfl, ho6, k6⟩; have hxU6 := HXU4.out.kept k6 hUg; have hxO6 := HXO4.out.kept k6 hOg; have hxA6 := HXA4.out.kept k6 hAg; have hxW6 := HXW4.out.kept k6 hWg; have q1 := hxO6.cell; have q2 := hxA6.cell; have q3 := hxW6.cell; have c6 := hxU6.cell; have f6 := hxU6.free))
    all_goals
      go_end0
      have hgw : w2.heap.size ≤ g := by have := HG.out; omega
      have kk : Kept (fun b => b = bO ∨ b = bU ∨ w2.heap.size ≤ b) w2 (w6.setCell ⟨bU, 0, none⟩ (.int .u64 (R : Int))) := ((HK34.out.mono (fun _ _ e => .inl e)).next k6 (fun b _ e => .inr (.inr (by omega)))).next (kept_box w6 bU _) (fun b _ e => .inr (.inl e))
      exact .inl ⟨⟨l1, l2⟩, rfl, _, w2, o2, own_base ((kept_box w6 bU _).own ho6 (fun b hb' e => by simp [Value.ownBlock] at hb'; omega)) (fun b hb' => by simp [Value.ownBlock] at hb'; have := HD2.out.size; omega), HD2.out, kk, hxO6.other ⟨bU, 0, none⟩ hne _, hxU6.set _⟩
  · exact ⟨rfl, .inr ⟨l1, rfl, rfl⟩⟩

end Go.Proofs.Ytcdeankllgpnfab
