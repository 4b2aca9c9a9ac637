/- Put together of: Pro2. -/
import Derived.Test.YtiljkgoafknefaaGreatPk1
import Derived.Test.YtiljkgoafknefaaGreatPk11
import Derived.Test.YtiljkgoafknefaaGreatPk13
import Derived.Test.YtiljkgoafknefaaGreatPk15
import Derived.Defers
import Derived.Recover

/- Melted of: Att Box PrC PrD PrE. -/
namespace Go.Proofs.YtiljkgoafknefaaGreat
open Go.RowKit

theorem Box.did {w w' : World} {o o' : Tr} {m : List Ev} {b : Nat} {v : Value} {t : TypeId} (h : Box w b v t) (d : Did w o m w' o') (ht : TrIn w o) (h1 : t ≠ 153) (h2 : t ≠ 130) : Box w' b v t := h.kept d.kept (cells_apart h ht h1 h2)

theorem Box.apart {w : World} {o : Tr} {b : Nat} {v : Value} {t : TypeId} (h : Box w b v t) (ht : TrIn w o) (h1 : t ≠ 153) (h2 : t ≠ 130) : ¬ trFoot o b := cells_apart h ht h1 h2

end Go.Proofs.YtiljkgoafknefaaGreat

/- Package product: Mul. -/
namespace Go.Proofs.YtiljkgoafknefaaGreat
open Go.RowKit

theorem trPtr_shape (o : Tr) : ∃ po, trPtr o = .pointer po := by
  cases o with
  | none => exact ⟨_, rfl⟩
  | some x => exact ⟨_, rfl⟩

set_option maxRecDepth 20000 in
set_option maxHeartbeats 2000000 in
/-- What Mul attempts. -/
theorem pMul1 (o : Tr) (ao bo : Option Addr) (L M cap dap : Nat) (xs ys : List Nat) (bT bA bB bO : Nat) (w : World) (ht : TrRoom w o 300) (hu : RowT w o (.slice ao L cap) xs) (hv : RowT w o (.slice bo M dap) ys) (hdx : Digs 18446744073709551616 xs) (hdy : Digs 18446744073709551616 ys)
    (hT : Box w bT (trPtr o) 87) (hA : Box w bA (.slice ao L cap) 23) (hB : Box w bB (.slice bo M dap) 23) (hO : Box w bO (.slice none 0 0) 23) :
    Calls Tryz.prog 69 #[.pointer (some ⟨bA, 0, none⟩), .pointer (some ⟨bB, 0, none⟩), .pointer (some ⟨bT, 0, none⟩), .pointer (some ⟨bO, 0, none⟩)] w fun e w' =>
      ((L ≤ 300 ∧ M ≤ 300) ∧ e = .returned (.tuple #[]) ∧ ∃ v' w1 o', v' = .slice (some ⟨w.heap.size, 0, none⟩) (L + M) (L + M) ∧ OwnN .u64 24 w1 w.heap.size v' (L + M) (digs 18446744073709551616 (val 18446744073709551616 xs * val 18446744073709551616 ys) (L + M)) ∧ Did w o (List.replicate L (1, (M : Nat), 0)) w1 o' ∧ Kept (fun b => b = bO) w1 w' ∧ Box w' bO v' 23) ∨
      (¬ (L ≤ 300 ∧ M ≤ 300) ∧ e = .panicked [refusal 2] ∧ w' = w) := by
  obtain ⟨_, _, _, e1, hLx, _, _, _, _⟩ := hu.1.open
  cases e1
  obtain ⟨_, _, _, e1, hLy, _, _, _, _⟩ := hv.1.open
  cases e1
  have eL := hLx.out
  have eM := hLy.out
  have hP := fun W => pLong ao bo L M cap dap W
  have hR := fun W (k : Kept Nought w W) (l1 : L ≤ 300) (l2 : M ≤ 300) => pRows o _ _ xs ys W ((ht.less (by omega)).grew k) (hu.grew k) (hv.grew k) hdx hdy (by omega) (by omega)
  rw [eL, eM] at hR
  obtain ⟨po, hpo⟩ := trPtr_shape o
  rw [hpo] at hR hT
  have cT := hT.cell
  have cA := hA.cell
  have cB := hB.cell
  have HO := toHid hO
  have HT := toHid ht.1
  clear hu hv hdx hdy hLx hLy eL eM hpo hT hA hB hO ht
  go_enter Tryz.func69, Tryz.ntmps69
  go_wp2_with fail
  refine (hP _).mono ?_
  rintro e w1 ⟨⟨l1, l2, rfl⟩ | ⟨l1, rfl⟩, rfl⟩
  · go_wp2_with fail
    refine (hR _ (Kept.refl _ _) l1 l2).mono ?_
    rintro e w2 ⟨v', rfl, rfl, ho, o', hd⟩
    have hO2 := HO.out.did hd HT.out (by decide) (by decide)
    have cO := hO2.cell
    have fO := hO2.free
    have HD := toHid hd
    have HOW := toHid ho
    have HO2 := toHid hO2
    clear hP hR cT cA cB hd ho hO2
    go_wp2_with fail
    go_end0
    exact .inl ⟨⟨l1, l2⟩, rfl, _, _, o', rfl, HOW.out, HD.out, kept_box _ _ _, HO2.out.set _⟩
  · exact ⟨rfl, .inr ⟨l1, rfl, rfl⟩⟩

/-- What Mul answers. -/
def mulAns (X Y L M : Nat) : List Nat := if L ≤ 300 ∧ M ≤ 300 then digs 18446744073709551616 (X * Y) (L + M) else []

def mulEvs (L M : Nat) : List Ev := if L ≤ 300 ∧ M ≤ 300 then List.replicate L (1, ((M : Nat) : Int), 0) else []

set_option maxRecDepth 20000 in
set_option maxHeartbeats 2000000 in
/-- Mul, and that its number is the call's own. -/
theorem pMulO (o : Tr) (ao bo : Option Addr) (L M cap dap : Nat) (xs ys : List Nat) (w : World) (ht : TrRoom w o 300) (hu : RowT w o (.slice ao L cap) xs) (hv : RowT w o (.slice bo M dap) ys) (hdx : Digs 18446744073709551616 xs) (hdy : Digs 18446744073709551616 ys) :
    Calls Tryz.prog 40 #[trPtr o, .slice ao L cap, .slice bo M dap] w fun e w' => ∃ v', e = .returned v' ∧
      Row .u64 w' v' (mulAns (val 18446744073709551616 xs) (val 18446744073709551616 ys) L M) ∧ (∀ b, v'.ownBlock = some b → w.heap.size ≤ b) ∧ (L ≤ 300 ∧ M ≤ 300 → ∃ g, w.heap.size ≤ g ∧ v' = .slice (some ⟨g, 0, none⟩) (L + M) (L + M) ∧ OwnN .u64 24 w' g v' (L + M) (digs 18446744073709551616 (val 18446744073709551616 xs * val 18446744073709551616 ys) (L + M))) ∧ ∃ o', Did w o (mulEvs L M) w' o' := by
  have hmf : ∀ (fn : Fn) (first cap : Array Value) (w : World), (Instr.makeFunc fn first cap).run Tryz.prog w = .ok (.func fn first cap) w := fun _ _ _ _ => rfl
  obtain ⟨po, hpo⟩ := trPtr_shape o
  have hbx := boxes4 w (.pointer po) (.slice ao L cap) (.slice bo M dap) (.slice none 0 0) 87 23 23 23
  have he : ∀ args w, (callFunc 69 args).run Tryz.prog w = .ok (.enter 69 args) w := fun _ _ => by simp [go_sem]
  rw [hpo]
  go_enter Tryz.func40, Tryz.ntmps40
  go_wp2_with fail
  generalize (((w.alloc (.cells #[.pointer po] 87)).alloc (.cells #[.slice ao L cap] 23)).alloc (.cells #[.slice bo M dap] 23)).alloc (.cells #[.slice none 0 0] 23) = W at *
  obtain ⟨k0, x1, x2, x3, x4, hs⟩ := hbx
  have k1 := k0.alloc (.cells #[.int .i64 0] 27)
  have xe := Box.new W (.int .i64 0) 27
  have h1 := pMul1 o ao bo L M cap dap xs ys _ _ _ _ _ (ht.grew k1) (hu.grew k1) (hv.grew k1) hdx hdy (by rw [hpo]; exact x1.alloc _) (x2.alloc _) (x3.alloc _) (x4.alloc (.cells #[.int .i64 0] 27))
  refine (pAttempt 69 _ W (fun n W' => (n = 0 ∧ (L ≤ 300 ∧ M ≤ 300) ∧ ∃ v' o', v' = .slice (some ⟨W.heap.size + 1, 0, none⟩) (L + M) (L + M) ∧ OwnN .u64 24 W' (W.heap.size + 1) v' (L + M) (digs 18446744073709551616 (val 18446744073709551616 xs * val 18446744073709551616 ys) (L + M)) ∧ Did w o (List.replicate L (1, (M : Nat), 0)) W' o' ∧ Box W' (w.heap.size + 1 + 1 + 1) v' 23) ∨ (n = 2 ∧ ¬ (L ≤ 300 ∧ M ≤ 300) ∧ Kept Nought w W' ∧ Box W' (w.heap.size + 1 + 1 + 1) (.slice none 0 0) 23)) he (h1.mono ?_)).mono ?_
  · rintro e w' (⟨hl, rfl, v', w1, o', hsh, ho, hd, hk, hb⟩ | ⟨hl, rfl, rfl⟩)
    · rw [show (W.alloc (.cells #[.int .i64 0] 27)).heap.size = W.heap.size + 1 by simp] at ho hsh
      have hti := (hd.room (k := 0) ((ht.grew k1).less (by simp; omega))).1
      have hxO := (x4.alloc (.cells #[.int .i64 0] 27)).did hd (ht.grew k1).1 (by decide) (by decide)
      have hxE := (xe.did hd (ht.grew k1).1 (by decide) (by decide)).kept hk (by omega)
      refine ⟨hxE, .inl ⟨rfl, .inl ⟨rfl, hl, v', o', hsh, hk.own ho (fun b hb' e => ?_), (Did.after k1 hd).wroteNew hk (by omega) (hxO.apart hti (by decide) (by decide)), hb⟩⟩⟩
      have := (ho.lt b hb').1
      omega
    · exact ⟨xe, .inr ⟨2, rfl, .inr ⟨rfl, hl, k1, x4.alloc _⟩⟩⟩
  · rintro e w' ⟨n, w1, rfl, ⟨hq, hbe⟩, rfl⟩
    have hbe' : Box w1 W.heap.size (.int .i64 0) 27 := hbe
    rcases hq with ⟨rfl, hl, v', o', hsh, ho, hd, hb⟩ | ⟨rfl, hl, hk, hb⟩
    · have hti := (hd.room (k := 0) (ht.less (by simp; omega))).1
      have hd2 := hd.wroteNew (kept_box w1 W.heap.size (.int .i64 0)) (by omega) (hbe'.apart hti (by decide) (by decide))
      have ho2 := (kept_box w1 W.heap.size (.int .i64 0)).own ho (fun b hb' e => by have := (ho.lt b hb').1; omega)
      have hbx2 := hb.other ⟨W.heap.size, 0, none⟩ (by show _ ≠ W.heap.size; omega) (.int .i64 0)
      have hb2 := hbx2.cell
      have hf2 := hbx2.free
      have hb3 := (hbx2.set v').cell
      have ho3 := (kept_box _ (w.heap.size + 1 + 1 + 1) v').own ho2 (fun b hb' e => by have := (ho.lt b hb').1; omega)
      have hti2 := (hd2.room (k := 0) (ht.less (by simp; omega))).1
      have hd3 := hd2.wroteNew (kept_box _ (w.heap.size + 1 + 1 + 1) v') (by omega) (hbx2.apart hti2 (by decide) (by decide))
      have hbase : Hid (∀ b, v'.ownBlock = some b → w.heap.size ≤ b) := fun b hb' => by have := (ho.lt b hb').1; omega
      obtain ⟨xo, xc, rfl⟩ := own_slice ho
      have HSH := toHid hsh
      clear hsh
      have HO := toHid ho3
      have HD := toHid hd3
      clear h1 ho hd hb ho2 hd2 ho3 hd3 hti hti2 hbx2 hbe hbe' hu hv ht
      generalize w1.setCell ⟨W.heap.size, 0, none⟩ (.int .i64 0) = W2 at *
      go_wp2_with fail
      refine bodyPost_ret (v := .slice xo (L + M) xc) (by simp [results, Tryz.results40, go_sem, hb3]) rfl ?_
      unfold mulAns mulEvs
      rw [if_pos hl, if_pos hl]
      exact ⟨_, rfl, Row.of_own (base := W.heap.size + 1) (e := 24) (by rw [digs_length]; exact HO.out), hbase.out, (fun _ => ⟨_, by omega, HSH.out, HO.out⟩), o', HD.out⟩
    · have k2 := hk.next (kept_box w1 W.heap.size (.int .i64 2)) (fun x hx e => by omega)
      have hbx2 := hb.other ⟨W.heap.size, 0, none⟩ (by show _ ≠ W.heap.size; omega) (.int .i64 2)
      have hb2 := hbx2.cell
      have hf2 := hbx2.free
      have hb3 := (hbx2.set (.slice none 0 0)).cell
      have HD := toHid (Did.of_kept (k2.next (kept_box _ (w.heap.size + 1 + 1 + 1) (.slice none 0 0)) (fun x hx e => by omega)) ht.1)
      clear h1 hb hu hv ht hk k2 hbx2 hbe hbe'
      generalize w1.setCell ⟨W.heap.size, 0, none⟩ (.int .i64 2) = W2 at *
      go_wp2_with fail
      refine bodyPost_ret (v := .slice none 0 0) (by simp [results, Tryz.results40, go_sem, hb3]) rfl ?_
      unfold mulAns mulEvs
      rw [if_neg hl, if_neg hl]
      exact ⟨_, rfl, Row.nil _ _, (fun b hb => by cases hb), (fun h => absurd h hl), o, HD.out⟩

/-- Mul. -/
theorem pMul (o : Tr) (ao bo : Option Addr) (L M cap dap : Nat) (xs ys : List Nat) (w : World) (ht : TrRoom w o 300) (hu : RowT w o (.slice ao L cap) xs) (hv : RowT w o (.slice bo M dap) ys) (hdx : Digs 18446744073709551616 xs) (hdy : Digs 18446744073709551616 ys) :
    Calls Tryz.prog 40 #[trPtr o, .slice ao L cap, .slice bo M dap] w fun e w' => ∃ v', e = .returned v' ∧
      Row .u64 w' v' (mulAns (val 18446744073709551616 xs) (val 18446744073709551616 ys) L M) ∧ (∀ b, v'.ownBlock = some b → w.heap.size ≤ b) ∧ ∃ o', Did w o (mulEvs L M) w' o' := by
  refine (pMulO o ao bo L M cap dap xs ys w ht hu hv hdx hdy).mono ?_
  rintro e w' ⟨v', rfl, h1, h2, _, h3⟩
  exact ⟨v', rfl, h1, h2, h3⟩

end Go.Proofs.YtiljkgoafknefaaGreat

/- Package product: extended, MulWord. -/
namespace Go.Proofs.YtiljkgoafknefaaGreat
open Go.RowKit

set_option maxRecDepth 20000 in
set_option maxHeartbeats 2000000 in
/-- extended. -/
theorem pExt (v : Value) (xs : List Nat) (n : Nat) (w : World) (h : Row .u64 w v xs) (hl : xs.length ≤ n) (hn : n ≤ 1000000) :
    Calls Tryz.prog 103 #[v, .int .i64 (n : Nat)] w fun e w' => e = .returned (.slice (some ⟨w.heap.size, 0, none⟩) n n) ∧ OwnN .u64 24 w' w.heap.size (.slice (some ⟨w.heap.size, 0, none⟩) n n) n (xs ++ List.replicate (n - xs.length) 0) ∧ Kept Nought w w' := by
  obtain ⟨i0, hi0, hz0, hz1, hz2⟩ := info_parts Tryz.info24
  obtain ⟨ao, q, cap, rfl, hL, _, _, _, _⟩ := h.open
  have HS : Hid (∀ W, Kept Nought w W → 0 < (xs.map fun z : Nat => Value.int .u64 (z : Int)).length → ∃ ad, ao = some ad ∧ ∀ j u, (xs.map fun z : Nat => Value.int .u64 (z : Int))[j]? = some u → W.cell? (ad.add j) = some u) := fun W hk hp => h.source hk hp
  have HO := toHid (ints_one .u64 xs)
  have HLC : Hid ((xs.map fun z : Nat => Value.int .u64 (z : Int)).length = q) := by unfold Hid; rw [List.length_map]; exact hL.out
  obtain ⟨CS, hCS⟩ : ∃ CS, CS = xs.map (fun z : Nat => Value.int .u64 (z : Int)) := ⟨_, rfl⟩
  rw [← hCS] at HS HO HLC
  have HCS : Hid (CS = xs.map (fun z : Nat => Value.int .u64 (z : Int))) := hCS
  have hq : q ≤ n := by rw [← hL.out]; exact hl
  clear hCS h hl
  go_enter Tryz.func103, Tryz.ntmps103
  go_wp2_with (at_make; refine wpList_make_full _ rfl _ _ 23 rfl w.heap.size 24 i0 _ 1 Tryz.underlying23 hi0 hz0 hz1 _ _ _ _ n rfl rfl rfl rfl (by rw [hz2]; omega) (by unfold maxLen; omega) (Nat.le_refl _) ?_; intro w1 ho1 hg1; rw [zeros_map] at ho1; have k1 := grown_kept hg1; obtain ⟨w2, hrun, hb2, k2⟩ := run_copy_part (P := Tryz.prog) 23 23 3 24 w.heap.size 0 n n (some ⟨w.heap.size, 0, none⟩) ao q cap _ 24 CS Tryz.underlying23 (by rw [hi0]; simp [hz1]) (own_block ho1) (by rw [HLC.out]; exact (Nat.min_eq_left hq).symm) (fun hp => ⟨rfl, HS.out _ k1 hp⟩) (by have := HLC.out; simp; omega) HO.out; have HB2 : Hid _ := hb2; clear hb2 ho1 hg1)
  go_ret
  have hfin := HB2.out
  rw [HCS.out, splice_fill] at hfin
  have kk := kept_new k1 k2 (Nat.le_refl _)
  exact ⟨rfl, own_of_block hfin (by simp [hL.out]; omega) (by unfold maxLen; omega) (Nat.le_refl _), kk⟩

/-- What MulWord answers. -/
def mwAns (X W Y L M : Nat) : List Nat := if L ≤ 300 ∧ M ≤ 300 then digs 18446744073709551616 (Y + X * W) (max L M) else []

def mwTop (X W Y L M : Nat) : Nat := if L ≤ 300 ∧ M ≤ 300 then (Y + X * W) / 18446744073709551616 ^ max L M else 0

def mwEvs (L M : Nat) : List Ev := if L ≤ 300 ∧ M ≤ 300 then [(1, ((max L M : Nat) : Int), 0)] else []

theorem val_fill {ys : List Nat} (n : Nat) : val 18446744073709551616 (ys ++ List.replicate n 0) = val 18446744073709551616 ys := by
  rw [val_append, val_zeros _ (fun d hd => (List.mem_replicate.1 hd).2), Nat.mul_zero, Nat.add_zero]

theorem own_row' {w : World} {base n : Nat} {v : Value} {zs : List Nat} (h : OwnN .u64 24 w base v n zs) (hl : zs.length = n) : Row .u64 w v zs :=
  Row.of_own (base := base) (e := 24) (by rw [hl]; exact h)

theorem digs_fill {ys : List Nat} (h : Digs 18446744073709551616 ys) (n : Nat) : Digs 18446744073709551616 (ys ++ List.replicate n 0) := h.append (fun d hd => by rw [(List.mem_replicate.1 hd).2]; omega)

set_option maxRecDepth 20000 in
set_option maxHeartbeats 2000000 in
/-- What MulWord attempts. -/
theorem pMulWord1 (o : Tr) (ao bo : Option Addr) (L M cap dap : Nat) (xs ys : List Nat) (x : Nat) (hx : x < 18446744073709551616) (bT bA bB bO bW bU N : Nat) (hN : N = max L M) (w : World) (ht : TrRoom w o 300) (hu : RowT w o (.slice ao L cap) xs) (hv : RowT w o (.slice bo M dap) ys) (hdx : Digs 18446744073709551616 xs) (hdy : Digs 18446744073709551616 ys)
    (hT : Box w bT (trPtr o) 87) (hA : Box w bA (.slice ao L cap) 23) (hB : Box w bB (.slice bo M dap) 23) (hO : Box w bO (.slice none 0 0) 23) (hW : Box w bW (.int .u64 (x : Nat)) 24) (hU : Box w bU (.int .u64 0) 24) (hne : bO ≠ bU) (hAO : bA ≠ bO) (hWO : bW ≠ bO) (hAU : bA ≠ bU) (hWU : bW ≠ bU) (hAr : xs ≠ [] → ∀ b, (Value.slice ao L cap).ownBlock = some b → b ≠ bO) (X Y R : Nat) (hX : X = val 18446744073709551616 xs) (hY : Y = val 18446744073709551616 ys) (hR : R = (Y + X * x) / 18446744073709551616 ^ N) :
    Calls Tryz.prog 102 #[.pointer (some ⟨bA, 0, none⟩), .pointer (some ⟨bB, 0, none⟩), .pointer (some ⟨bT, 0, none⟩), .pointer (some ⟨bO, 0, none⟩), .pointer (some ⟨bW, 0, none⟩), .pointer (some ⟨bU, 0, none⟩)] w fun e w' =>
      ((L ≤ 300 ∧ M ≤ 300) ∧ e = .returned (.tuple #[]) ∧ ∃ v' w1 o', OwnN .u64 24 w' w.heap.size v' N (digs 18446744073709551616 (Y + X * x) N) ∧ Did w o [(1, (N : Int), 0)] w1 o' ∧ Kept (fun b => b = bO ∨ b = bU ∨ w1.heap.size ≤ b) w1 w' ∧ Box w' bO v' 23 ∧ Box w' bU (.int .u64 (R : Nat)) 24) ∨
      (¬ (L ≤ 300 ∧ M ≤ 300) ∧ e = .panicked [refusal 2] ∧ w' = w) := by
  obtain ⟨_, _, _, e1, hLx, _, _, _, _⟩ := hu.1.open
  cases e1
  obtain ⟨_, _, _, e1, hLy, _, _, _, _⟩ := hv.1.open
  cases e1
  have eL := hLx.out
  have eM := hLy.out
  have hP := fun W => pLong ao bo L M cap dap W
  obtain ⟨po, hpo⟩ := trPtr_shape o
  have hS := fun (n : Int) => tSpanDid o n w ht.1
  rw [hpo] at hS hT
  have cT := hT.cell
  have cA := hA.cell
  have cB := hB.cell
  have HO := toHid hO
  have HT := toHid ht
  have HU := toHid hu
  have HV := toHid hv
  have HA := toHid hA
  have HB := toHid hB
  have HW := toHid hW
  have HUp := toHid hU
  have HDX := toHid hdx
  have HDY := toHid hdy
  clear hu hv hdx hdy hLx hLy hpo hT hA hB hO ht hW hU
  go_enter Tryz.func102, Tryz.ntmps102
  go_wp2_with fail
  refine (hP _).mono ?_
  rintro e w1 ⟨⟨l1, l2, rfl⟩ | ⟨l1, rfl⟩, rfl⟩
  · have gN : max (L : Int) (M : Int) = (N : Int) := by omega
    have hLN : L ≤ N := by omega
    have hMN : M ≤ N := by omega
    have hN3 : N ≤ 300 := by omega
    clear hN hP
    go_wp2_with fail
    refine (hS _).mono ?_
    rintro e w2 ⟨rfl, o2, d2⟩
    have ht1 := HT.out.1
    have hxO := HO.out.did d2 ht1 (by decide) (by decide)
    have hxA := HA.out.did d2 ht1 (by decide) (by decide)
    have hxW := HW.out.did d2 ht1 (by decide) (by decide)
    have hxU := HUp.out.did d2 ht1 (by decide) (by decide)
    have hxB := HB.out.did d2 ht1 (by decide) (by decide)
    have hu2 := (HU.out.did d2).1
    have hv2 := (HV.out.did d2).1
    have cB2 := hxB.cell
    have hE1 := pExt _ ys N w2 hv2 (by omega) (by omega)
    clear hS
    go_wp2_with fail
    refine hE1.mono ?_
    rintro e w3 ⟨rfl, ho3, k3⟩
    have hxO3 := hxO.grew k3
    have cO3 := hxO3.cell
    have fO3 := hxO3.free
    obtain ⟨g, hg⟩ : ∃ g, g = w2.heap.size := ⟨_, rfl⟩
    rw [← hg] at ho3 ⊢
    have hOlt := hxO.lt
    have hUlt := hxU.lt
    have hxO4 := hxO3.set (.slice (some ⟨g, 0, none⟩) N N)
    have hxA4 := ((hxA.grew k3).kept (kept_box w3 bO (.slice (some ⟨g, 0, none⟩) N N)) hAO)
    have hxW4 := ((hxW.grew k3).kept (kept_box w3 bO (.slice (some ⟨g, 0, none⟩) N N)) hWO)
    have hxU4 := ((hxU.grew k3).kept (kept_box w3 bO (.slice (some ⟨g, 0, none⟩) N N)) (fun e => hne e.symm))
    have ho4 := (kept_box w3 bO (.slice (some ⟨g, 0, none⟩) N N)).own ho3 (fun b hb' e => by have := (ho3.lt b hb').1; omega)
    have HG := toHid hg
    have k34 : Kept (fun b => b = bO) w2 (w3.setCell ⟨bO, 0, none⟩ (.slice (some ⟨g, 0, none⟩) N N)) := k3.any.trans (kept_box w3 bO _)
    clear hg
    go_wp2_with fail
    generalize w3.setCell ⟨bO, 0, none⟩ (.slice (some ⟨g, 0, none⟩) N N) = W4 at *
    have hu4 : Row .u64 W4 (.slice ao L cap) xs := hu2.kept' k34 (fun hne' b hb e => hAr hne' b hb e)
    have hE2 : ∀ W, Kept Nought W4 W → Calls Tryz.prog 103 #[.slice ao L cap, .int .i64 (N : Int)] W fun e w' => ∃ b0, e = .returned (.slice (some ⟨b0, 0, none⟩) N N) ∧ W4.heap.size ≤ b0 ∧ Row .u64 w' (.slice (some ⟨b0, 0, none⟩) N N) (xs ++ List.replicate (N - xs.length) 0) ∧ Kept Nought W4 w' := fun W k => by
      refine (pExt _ xs N W (hu4.grew k) (by omega) (by omega)).mono ?_
      rintro e w' ⟨rfl, ho, kk⟩
      exact ⟨_, rfl, k.size, own_row' ho (by simp; omega), k.trans kk⟩
    have hglt : g < W4.heap.size := owns_lt ho4
    have hAR : ∀ W b0, Kept Nought W4 W → W4.heap.size ≤ b0 → Row .u64 W (.slice (some ⟨b0, 0, none⟩) N N) (xs ++ List.replicate (N - xs.length) 0) → Calls Tryz.prog 91 #[.slice (some ⟨g, 0, none⟩) N N, .slice (some ⟨b0, 0, none⟩) N N, .int .u64 (x : Nat)] W fun e w' => e = .returned (.int .u64 (R : Nat)) ∧ OwnN .u64 24 w' g (.slice (some ⟨g, 0, none⟩) N N) N (digs 18446744073709551616 (Y + X * x) N) ∧ Kept (fun b => b = g) W4 w' := fun W b0 k hb0 hr => by
      refine (pAddRow g g N N 0 N N x _ _ _ W (k.own ho4 (fun _ _ f => f)) (by simp; omega) (digs_fill HDY.out _) (by omega) hr (by simp; omega) (digs_fill HDX.out _) (fun _ b hb e => by simp [Value.ownBlock] at hb; omega) hx R (Y + X * x) (by rw [List.drop_zero, List.take_of_length_le (by simp; omega), val_fill, val_fill, hY, hX]) hR).mono ?_
      rintro e w' ⟨rfl, ho, kk⟩
      rw [List.take_zero, List.nil_append, List.drop_of_length_le (by simp; omega), List.append_nil] at ho
      exact ⟨rfl, ho, k.any.trans kk⟩
    have cO4 := hxO4.cell
    have cA4 := hxA4.cell
    have cW4 := hxW4.cell
    have HXO4 := toHid hxO4
    have HXU4 := toHid hxU4
    have HXA4 := toHid hxA4
    have HXW4 := toHid hxW4
    have hAg : bA ≠ g := by have := hxA.lt; have := HG.out; omega
    have hWg : bW ≠ g := by have := hxW.lt; have := HG.out; omega
    have hOg : bO ≠ g := by have := HG.out; omega
    have hUg : bU ≠ g := by have := HG.out; omega
    have HK34 := toHid k34
    have HD2 := toHid d2
    clear hxO4 hxA4 hxW4 hxU4 ho4 k34 hu4 hxO hxA hxW hxU hxB hu2 hv2 cB2 hE1 ho3 k3 hxO3 cO3 fO3 cT cA cB hX hY hR d2
    go_region_held3 (fun w' => w'.cell? ⟨bO, 0, none⟩ = some (.slice (some ⟨g, 0, none⟩) N N) ∧ w'.cell? ⟨bA, 0, none⟩ = some (.slice ao L cap) ∧ w'.cell? ⟨bW, 0, none⟩ = some (.int .u64 (x : Int)))
      (((try dsimp only); (repeat' apply And.intro) <;> first | (go_keep; done) | assumption | exact (hxO6.other ⟨bU, 0, none⟩ hne _).cell | exact (hxA6.other ⟨bU, 0, none⟩ hAU _).cell | exact (hxW6.other ⟨bU, 0, none⟩ hWU _).cell))
      (first
      | (go_at_call 103; refine (hE2 _ ?_).mono ?_; (first | exact (Kept.refl _ _).drew | exact Kept.refl _ _); rintro e w5 ⟨b0, rfl, hb0, hr5, k5⟩; have p1 := k5.cellN cO4; have p2 := k5.cellN cA4; have p3 := k5.cellN cW4)
      | (go_at_call 91; refine (hAR _ _ ?_ hb0 ?_).mono ?_; (exact k5); (exact hr5); rintro e w6 ⟨rfl, ho6, k6⟩; have hxU6 := HXU4.out.kept k6 hUg; have hxO6 := HXO4.out.kept k6 hOg; have hxA6 := HXA4.out.kept k6 hAg; have hxW6 := HXW4.out.kept k6 hWg; have q1 := hxO6.cell; have q2 := hxA6.cell; have q3 := hxW6.cell; have c6 := hxU6.cell; have f6 := hxU6.free))
    all_goals
      go_end0
      have hgw : w2.heap.size ≤ g := by have := HG.out; omega
      have kk : Kept (fun b => b = bO ∨ b = bU ∨ w2.heap.size ≤ b) w2 (w6.setCell ⟨bU, 0, none⟩ (.int .u64 (R : Int))) := ((HK34.out.mono (fun _ _ e => .inl e)).next k6 (fun b _ e => .inr (.inr (by omega)))).next (kept_box w6 bU _) (fun b _ e => .inr (.inl e))
      exact .inl ⟨⟨l1, l2⟩, rfl, _, w2, o2, own_base ((kept_box w6 bU _).own ho6 (fun b hb' e => by simp [Value.ownBlock] at hb'; omega)) (fun b hb' => by simp [Value.ownBlock] at hb'; have := HD2.out.size; omega), HD2.out, kk, hxO6.other ⟨bU, 0, none⟩ hne _, hxU6.set _⟩
  · exact ⟨rfl, .inr ⟨l1, rfl, rfl⟩⟩

end Go.Proofs.YtiljkgoafknefaaGreat

/- Package product: MulWord. -/
namespace Go.Proofs.YtiljkgoafknefaaGreat
open Go.RowKit

/-- What was written into new blocks that are no part of the trace. -/
theorem Did.wroteSome {S : Nat → Prop} {w w' w2 : World} {o o' : Tr} {m : List Ev} (d : Did w o m w' o') (k : Kept S w' w2) (hS : ∀ b, S b → w.heap.size ≤ b ∧ ¬ trFoot o' b) : Did w o m w2 o' := by
  refine ⟨d.1.next k (fun x hx e => by have := (hS x e).1; omega), ?_⟩
  rcases d.2 with h1 | ⟨p, g, l, g', e1, e2, ht, hg⟩
  · exact .inl h1
  · subst e2
    exact .inr ⟨p, g, l, g', e1, rfl, ht.kept k (fun e => (hS p e).2 (.inl rfl)) (fun x hx e => (hS x e).2 (.inr hx)), hg⟩

theorem foot_lt {w : World} {o : Tr} (ht : TrIn w o) {b : Nat} (hf : trFoot o b) : b < w.heap.size := ht.foot b hf

set_option maxRecDepth 20000 in
set_option maxHeartbeats 2000000 in
/-- MulWord, and that its number is the call's own. -/
theorem pMulWordF (o : Tr) (ao bo : Option Addr) (L M cap dap : Nat) (xs ys : List Nat) (x : Nat) (hx : x < 18446744073709551616) (c : Nat) (hc : c = mwTop (val 18446744073709551616 xs) x (val 18446744073709551616 ys) L M) (w : World) (ht : TrRoom w o 300) (hu : RowT w o (.slice ao L cap) xs) (hv : RowT w o (.slice bo M dap) ys) (hdx : Digs 18446744073709551616 xs) (hdy : Digs 18446744073709551616 ys) :
    Calls Tryz.prog 76 #[trPtr o, .slice ao L cap, .int .u64 (x : Nat), .slice bo M dap] w fun e w' => ∃ v', e = .returned (.tuple #[v', .int .u64 (c : Nat)]) ∧
      Row .u64 w' v' (mwAns (val 18446744073709551616 xs) x (val 18446744073709551616 ys) L M) ∧ (L ≤ 300 ∧ M ≤ 300 → OwnN .u64 24 w' w.heap.size v' (max L M) (digs 18446744073709551616 (val 18446744073709551616 ys + val 18446744073709551616 xs * x) (max L M))) ∧ ∃ o', Did w o (mwEvs L M) w' o' := by
  have hmf : ∀ (fn : Fn) (first cap : Array Value) (w : World), (Instr.makeFunc fn first cap).run Tryz.prog w = .ok (.func fn first cap) w := fun _ _ _ _ => rfl
  obtain ⟨po, hpo⟩ := trPtr_shape o
  have hbx := boxes6 w (.pointer po) (.slice ao L cap) (.int .u64 (x : Nat)) (.slice bo M dap) (.slice none 0 0) (.int .u64 0) 87 23 24 23 23 24
  have he : ∀ args w, (callFunc 102 args).run Tryz.prog w = .ok (.enter 102 args) w := fun _ _ => by simp [go_sem]
  obtain ⟨N, hN⟩ : ∃ N, N = max L M := ⟨_, rfl⟩
  obtain ⟨X, hX⟩ : ∃ X, X = val 18446744073709551616 xs := ⟨_, rfl⟩
  obtain ⟨Y, hY⟩ : ∃ Y, Y = val 18446744073709551616 ys := ⟨_, rfl⟩
  obtain ⟨R, hR⟩ : ∃ R, R = (Y + X * x) / 18446744073709551616 ^ N := ⟨_, rfl⟩
  rw [hpo]
  rw [← hX, ← hY] at hc ⊢
  have HC := toHid hc
  have HN := toHid hN
  have HR := toHid hR
  have HX := toHid hX
  have HY := toHid hY
  clear hc hN hR hX hY
  go_enter Tryz.func76, Tryz.ntmps76
  go_wp2_with fail
  generalize (((((w.alloc (.cells #[.pointer po] 87)).alloc (.cells #[.slice ao L cap] 23)).alloc (.cells #[.int .u64 (x : Nat)] 24)).alloc (.cells #[.slice bo M dap] 23)).alloc (.cells #[.slice none 0 0] 23)).alloc (.cells #[.int .u64 0] 24) = W at *
  obtain ⟨k0, x1, x2, x3, x4, x5, x6, hs⟩ := hbx
  have k1 := k0.alloc (.cells #[.int .i64 0] 27)
  have xe := Box.new W (.int .i64 0) 27
  have hAr : xs ≠ [] → ∀ b, (Value.slice ao L cap).ownBlock = some b → b ≠ w.heap.size + 1 + 1 + 1 + 1 := fun h b hb e => by have := hu.1.lt h b hb; omega
  have h1 := pMulWord1 o ao bo L M cap dap xs ys x hx _ _ _ _ _ _ N HN.out _ (ht.grew k1) (hu.grew k1) (hv.grew k1) hdx hdy (by rw [hpo]; exact x1.alloc _) (x2.alloc _) (x4.alloc _) (x5.alloc (.cells #[.int .i64 0] 27)) (x3.alloc _) (x6.alloc _) (by omega) (by omega) (by omega) (by omega) (by omega) hAr X Y R HX.out HY.out HR.out
  have hsz : (W.alloc (.cells #[.int .i64 0] 27)).heap.size = W.heap.size + 1 := by simp
  refine (pAttempt 102 _ W (fun n W' => (n = 0 ∧ (L ≤ 300 ∧ M ≤ 300) ∧ ∃ v' o', OwnN .u64 24 W' (W.heap.size + 1) v' N (digs 18446744073709551616 (Y + X * x) N) ∧ Did w o [(1, (N : Int), 0)] W' o' ∧ TrIn W' o' ∧ Box W' (w.heap.size + 1 + 1 + 1 + 1) v' 23 ∧ Box W' (w.heap.size + 1 + 1 + 1 + 1 + 1) (.int .u64 (R : Nat)) 24) ∨ (n = 2 ∧ ¬ (L ≤ 300 ∧ M ≤ 300) ∧ Kept Nought w W' ∧ Box W' (w.heap.size + 1 + 1 + 1 + 1) (.slice none 0 0) 23 ∧ Box W' (w.heap.size + 1 + 1 + 1 + 1 + 1) (.int .u64 0) 24)) he (h1.mono ?_)).mono ?_
  · rintro e w' (⟨hl, rfl, v', w1, o', ho, hd, hk, hb, hb2⟩ | ⟨hl, rfl, rfl⟩)
    · rw [hsz] at ho
      have hti := (hd.room (k := 0) ((ht.grew k1).less (by simp))).1
      have hxO := (x5.alloc (.cells #[.int .i64 0] 27)).did hd (ht.grew k1).1 (by decide) (by decide)
      have hxU := (x6.alloc (.cells #[.int .i64 0] 27)).did hd (ht.grew k1).1 (by decide) (by decide)
      have hw1 := hd.size
      rw [hsz] at hw1
      have hxE := (xe.did hd (ht.grew k1).1 (by decide) (by decide)).kept hk (by omega)
      have hdd := (Did.after k1 hd).wroteSome hk (fun b hb => by
        rcases hb with rfl | rfl | hb
        · exact ⟨by omega, hxO.apart hti (by decide) (by decide)⟩
        · exact ⟨by omega, hxU.apart hti (by decide) (by decide)⟩
        · exact ⟨by omega, fun f => by have := foot_lt hti f; omega⟩)
      exact ⟨hxE, .inl ⟨rfl, .inl ⟨rfl, hl, v', o', ho, hdd, (hdd.room (k := 0) (ht.less (by simp))).1, hb, hb2⟩⟩⟩
    · exact ⟨xe, .inr ⟨2, rfl, .inr ⟨rfl, hl, k1, x5.alloc _, x6.alloc _⟩⟩⟩
  · rintro e w' ⟨n, w1, rfl, ⟨hq, hbe⟩, rfl⟩
    have hbe' : Box w1 W.heap.size (.int .i64 0) 27 := hbe
    rcases hq with ⟨rfl, hl, v', o', ho, hd, hti, hb, hb2⟩ | ⟨rfl, hl, hk, hb, hb2⟩
    · have hd2 := hd.wroteNew (kept_box w1 W.heap.size (.int .i64 0)) (by omega) (hbe'.apart hti (by decide) (by decide))
      have ho2 := (kept_box w1 W.heap.size (.int .i64 0)).own ho (fun b hb' e => by have := (ho.lt b hb').1; omega)
      have hbx2 := hb.other ⟨W.heap.size, 0, none⟩ (by show _ ≠ W.heap.size; omega) (.int .i64 0)
      have hbx3 := hb2.other ⟨W.heap.size, 0, none⟩ (by show _ ≠ W.heap.size; omega) (.int .i64 0)
      have c1 := hbx2.cell
      have f1 := hbx2.free
      have c2 := hbx3.cell
      have f2 := hbx3.free
      obtain ⟨xo, xc, rfl⟩ := own_slice ho
      have hne : w.heap.size + 1 + 1 + 1 + 1 ≠ w.heap.size + 1 + 1 + 1 + 1 + 1 := by omega
      have c3 := ((hbx2.set (.slice xo N xc)).other ⟨w.heap.size + 1 + 1 + 1 + 1 + 1, 0, none⟩ hne (.int .u64 (R : Nat))).cell
      have c4 := ((hbx3.other ⟨w.heap.size + 1 + 1 + 1 + 1, 0, none⟩ hne.symm (.slice xo N xc)).set (.int .u64 (R : Nat))).cell
      have kb := (kept_box (w1.setCell ⟨W.heap.size, 0, none⟩ (.int .i64 0)) (w.heap.size + 1 + 1 + 1 + 1) (.slice xo N xc)).mono (T := fun b => b = w.heap.size + 1 + 1 + 1 + 1 ∨ b = w.heap.size + 1 + 1 + 1 + 1 + 1) (fun b _ e => .inl e)
      have kb2 := kb.next (kept_box _ (w.heap.size + 1 + 1 + 1 + 1 + 1) (.int .u64 (R : Nat))) (fun b _ e => .inr e)
      have hti2 := (hd2.room (k := 0) (ht.less (by simp))).1
      have HD := toHid (hd2.wroteSome kb2 (fun b hb => by
        rcases hb with rfl | rfl
        · exact ⟨by omega, hbx2.apart hti2 (by decide) (by decide)⟩
        · exact ⟨by omega, hbx3.apart hti2 (by decide) (by decide)⟩))
      have HO := toHid (kb2.own ho2 (fun b hb' e => by have := (ho.lt b hb').1; omega))
      have HOB : Hid (OwnN .u64 24 (((w1.setCell ⟨W.heap.size, 0, none⟩ (.int .i64 0)).setCell ⟨w.heap.size + 1 + 1 + 1 + 1, 0, none⟩ (.slice xo N xc)).setCell ⟨w.heap.size + 1 + 1 + 1 + 1 + 1, 0, none⟩ (.int .u64 (R : Nat))) w.heap.size (.slice xo N xc) N (digs 18446744073709551616 (Y + X * x) N)) := own_base HO.out (fun b hb' => by have := (HO.out.lt b hb').1; omega)
      have HE : Hid (c = R) := by
        unfold Hid
        rw [HC.out, HR.out, HN.out]
        unfold mwTop
        rw [if_pos hl]
      generalize w1.setCell ⟨W.heap.size, 0, none⟩ (.int .i64 0) = W2 at *
      clear h1 hb hb2 hbx2 hbx3 ho ho2 kb kb2 hd hd2 hti hti2 hbe hbe' hu hv ht x1 x2 x3 x4 x5 x6 xe k0 k1 hAr hsz he hmf
      go_wp2_with fail
      go_region
      all_goals
        go_wp2
        refine bodyPost_ret (v := .tuple #[.slice xo N xc, .int .u64 (R : Nat)]) (by simp [results, Tryz.results76, go_sem, c3, c4]) rfl ?_
        rw [HE.out]
        unfold mwAns mwEvs
        rw [if_pos hl, if_pos hl, ← HN.out]
        exact ⟨_, rfl, (own_row' HO.out (digs_length _ _ _)).grew (Kept.refl _ _).drew, fun _ => HOB.out.drew, o', HD.out.grew (Kept.refl _ _).drew⟩
    · have hbx2 := hb.other ⟨W.heap.size, 0, none⟩ (by show _ ≠ W.heap.size; omega) (.int .i64 2)
      have hbx3 := hb2.other ⟨W.heap.size, 0, none⟩ (by show _ ≠ W.heap.size; omega) (.int .i64 2)
      have c1 := hbx2.cell
      have f1 := hbx2.free
      have c2 := hbx3.cell
      have f2 := hbx3.free
      have hne : w.heap.size + 1 + 1 + 1 + 1 ≠ w.heap.size + 1 + 1 + 1 + 1 + 1 := by omega
      have c3 := ((hbx2.set (.slice none 0 0)).other ⟨w.heap.size + 1 + 1 + 1 + 1 + 1, 0, none⟩ hne (.int .u64 0)).cell
      have c4 := ((hbx3.other ⟨w.heap.size + 1 + 1 + 1 + 1, 0, none⟩ hne.symm (.slice none 0 0)).set (.int .u64 0)).cell
      have k2 := hk.next (kept_box w1 W.heap.size (.int .i64 2)) (fun x hx e => by omega)
      have k3 := (k2.next (kept_box _ (w.heap.size + 1 + 1 + 1 + 1) (.slice none 0 0)) (fun x hx e => by omega)).next (kept_box _ (w.heap.size + 1 + 1 + 1 + 1 + 1) (.int .u64 0)) (fun x hx e => by omega)
      have HD := toHid (Did.of_kept k3 ht.1)
      have HE : Hid (c = 0) := by
        unfold Hid
        rw [HC.out]
        unfold mwTop
        rw [if_neg hl]
      generalize w1.setCell ⟨W.heap.size, 0, none⟩ (.int .i64 2) = W2 at *
      clear h1 hb hb2 hbx2 hbx3 hk k2 k3 hbe hbe' hu hv ht x1 x2 x3 x4 x5 x6 xe k0 k1 hAr hsz he hmf
      go_wp2_with fail
      go_region
      all_goals
        go_wp2
        refine bodyPost_ret (v := .tuple #[.slice none 0 0, .int .u64 0]) (by simp [results, Tryz.results76, go_sem, c3, c4]) rfl ?_
        rw [HE.out]
        unfold mwAns mwEvs
        rw [if_neg hl, if_neg hl]
        exact ⟨_, rfl, Row.nil _ _, fun h => absurd h hl, o, HD.out.grew (Kept.refl _ _).drew⟩

end Go.Proofs.YtiljkgoafknefaaGreat

