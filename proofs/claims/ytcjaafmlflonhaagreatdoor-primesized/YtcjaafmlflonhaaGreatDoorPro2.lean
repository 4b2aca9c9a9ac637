/- Melted of: Att Box PrC PrD PrE. -/
import Derived.Test.YtcjaafmlflonhaaGreatDoorBase1
import Derived.Test.YtcjaafmlflonhaaGreatDoorTra1
import Derived.Test.YtcjaafmlflonhaaGreatDoorPro1
import Derived.Test.YtcjaafmlflonhaaGreatDoorPro0
import Derived.Defers
import Derived.Recover
namespace Go.Proofs.YtcjaafmlflonhaaGreatDoor
open Go.RowKit

theorem Box.did {w w' : World} {o o' : Tr} {m : List Ev} {b : Nat} {v : Value} {t : TypeId} (h : Box w b v t) (d : Did w o m w' o') (ht : TrIn w o) (h1 : t ≠ 184) (h2 : t ≠ 160) : Box w' b v t := h.kept d.kept (cells_apart h ht h1 h2)

theorem Box.apart {w : World} {o : Tr} {b : Nat} {v : Value} {t : TypeId} (h : Box w b v t) (ht : TrIn w o) (h1 : t ≠ 184) (h2 : t ≠ 160) : ¬ trFoot o b := cells_apart h ht h1 h2

end Go.Proofs.YtcjaafmlflonhaaGreatDoor

/- Package product: Mul. -/
namespace Go.Proofs.YtcjaafmlflonhaaGreatDoor
open Go.RowKit

theorem trPtr_shape (o : Tr) : ∃ po, trPtr o = .pointer po := by
  cases o with
  | none => exact ⟨_, rfl⟩
  | some x => exact ⟨_, rfl⟩

set_option maxRecDepth 20000 in
set_option maxHeartbeats 2000000 in
/-- What Mul attempts. -/
theorem pMul1 (o : Tr) (ao bo : Option Addr) (L M cap dap : Nat) (xs ys : List Nat) (bT bA bB bO : Nat) (w : World) (ht : TrRoom w o 300) (hu : RowT w o (.slice ao L cap) xs) (hv : RowT w o (.slice bo M dap) ys) (hdx : Digs 18446744073709551616 xs) (hdy : Digs 18446744073709551616 ys)
    (hT : Box w bT (trPtr o) 98) (hA : Box w bA (.slice ao L cap) 31) (hB : Box w bB (.slice bo M dap) 31) (hO : Box w bO (.slice none 0 0) 31) :
    Calls Tryz.prog 184 #[.pointer (some ⟨bA, 0, none⟩), .pointer (some ⟨bB, 0, none⟩), .pointer (some ⟨bT, 0, none⟩), .pointer (some ⟨bO, 0, none⟩)] w fun e w' =>
      ((L ≤ 300 ∧ M ≤ 300) ∧ e = .returned (.tuple #[]) ∧ ∃ v' w1 o', v' = .slice (some ⟨w.heap.size, 0, none⟩) (L + M) (L + M) ∧ OwnN .u64 23 w1 w.heap.size v' (L + M) (digs 18446744073709551616 (val 18446744073709551616 xs * val 18446744073709551616 ys) (L + M)) ∧ Did w o (List.replicate L (1, (M : Nat), 0)) w1 o' ∧ Kept (fun b => b = bO) w1 w' ∧ Box w' bO v' 31) ∨
      (¬ (L ≤ 300 ∧ M ≤ 300) ∧ e = .panicked [refusal 2] ∧ w' = w) := by
  obtain ⟨_, _, _, e1, hLx, _, _, _, _⟩ := hu.1.open
  cases e1
  obtain ⟨_, _, _, e1, hLy, _, _, _, _⟩ := hv.1.open
  cases e1
  have eL := hLx.out
  have eM := hLy.out
  have hP := fun W => pLong ao bo L M cap dap W
  have hR := fun W (k : Kept Nought w W) (l1 : L ≤ 300) (l2 : M ≤ 300) => pRows o _ _ xs ys W ((ht.less (by omega)).grew k) (hu.grew k) (hv.grew k) hdx hdy (by omega) (by omega)
  rw [eL, eM] at hR
  obtain ⟨po, hpo⟩ := trPtr_shape o
  rw [hpo] at hR hT
  have cT := hT.cell
  have cA := hA.cell
  have cB := hB.cell
  have HO := toHid hO
  have HT := toHid ht.1
  clear hu hv hdx hdy hLx hLy eL eM hpo hT hA hB hO ht
  go_enter Tryz.func184, Tryz.ntmps184
  go_wp2_with fail
  refine (hP _).mono ?_
  rintro e w1 ⟨⟨l1, l2, rfl⟩ | ⟨l1, rfl⟩, rfl⟩
  · go_wp2_with fail
    refine (hR _ (Kept.refl _ _) l1 l2).mono ?_
    rintro e w2 ⟨v', rfl, rfl, ho, o', hd⟩
    have hO2 := HO.out.did hd HT.out (by decide) (by decide)
    have cO := hO2.cell
    have fO := hO2.free
    have HD := toHid hd
    have HOW := toHid ho
    have HO2 := toHid hO2
    clear hP hR cT cA cB hd ho hO2
    go_wp2_with fail
    go_end0
    exact .inl ⟨⟨l1, l2⟩, rfl, _, _, o', rfl, HOW.out, HD.out, kept_box _ _ _, HO2.out.set _⟩
  · exact ⟨rfl, .inr ⟨l1, rfl, rfl⟩⟩

/-- What Mul answers. -/
def mulAns (X Y L M : Nat) : List Nat := if L ≤ 300 ∧ M ≤ 300 then digs 18446744073709551616 (X * Y) (L + M) else []

def mulEvs (L M : Nat) : List Ev := if L ≤ 300 ∧ M ≤ 300 then List.replicate L (1, ((M : Nat) : Int), 0) else []

set_option maxRecDepth 20000 in
set_option maxHeartbeats 2000000 in
/-- Mul, and that its number is the call's own. -/
theorem pMulO (o : Tr) (ao bo : Option Addr) (L M cap dap : Nat) (xs ys : List Nat) (w : World) (ht : TrRoom w o 300) (hu : RowT w o (.slice ao L cap) xs) (hv : RowT w o (.slice bo M dap) ys) (hdx : Digs 18446744073709551616 xs) (hdy : Digs 18446744073709551616 ys) :
    Calls Tryz.prog 169 #[trPtr o, .slice ao L cap, .slice bo M dap] w fun e w' => ∃ v', e = .returned v' ∧
      Row .u64 w' v' (mulAns (val 18446744073709551616 xs) (val 18446744073709551616 ys) L M) ∧ (∀ b, v'.ownBlock = some b → w.heap.size ≤ b) ∧ (L ≤ 300 ∧ M ≤ 300 → ∃ g, w.heap.size ≤ g ∧ v' = .slice (some ⟨g, 0, none⟩) (L + M) (L + M) ∧ OwnN .u64 23 w' g v' (L + M) (digs 18446744073709551616 (val 18446744073709551616 xs * val 18446744073709551616 ys) (L + M))) ∧ ∃ o', Did w o (mulEvs L M) w' o' := by
  have hmf : ∀ (fn : Fn) (first cap : Array Value) (w : World), (Instr.makeFunc fn first cap).run Tryz.prog w = .ok (.func fn first cap) w := fun _ _ _ _ => rfl
  obtain ⟨po, hpo⟩ := trPtr_shape o
  have hbx := boxes4 w (.pointer po) (.slice ao L cap) (.slice bo M dap) (.slice none 0 0) 98 31 31 31
  have he : ∀ args w, (callFunc 184 args).run Tryz.prog w = .ok (.enter 184 args) w := fun _ _ => by simp [go_sem]
  rw [hpo]
  go_enter Tryz.func169, Tryz.ntmps169
  go_wp2_with fail
  generalize (((w.alloc (.cells #[.pointer po] 98)).alloc (.cells #[.slice ao L cap] 31)).alloc (.cells #[.slice bo M dap] 31)).alloc (.cells #[.slice none 0 0] 31) = W at *
  obtain ⟨k0, x1, x2, x3, x4, hs⟩ := hbx
  have k1 := k0.alloc (.cells #[.int .i64 0] 32)
  have xe := Box.new W (.int .i64 0) 32
  have h1 := pMul1 o ao bo L M cap dap xs ys _ _ _ _ _ (ht.grew k1) (hu.grew k1) (hv.grew k1) hdx hdy (by rw [hpo]; exact x1.alloc _) (x2.alloc _) (x3.alloc _) (x4.alloc (.cells #[.int .i64 0] 32))
  refine (pAttempt 184 _ W (fun n W' => (n = 0 ∧ (L ≤ 300 ∧ M ≤ 300) ∧ ∃ v' o', v' = .slice (some ⟨W.heap.size + 1, 0, none⟩) (L + M) (L + M) ∧ OwnN .u64 23 W' (W.heap.size + 1) v' (L + M) (digs 18446744073709551616 (val 18446744073709551616 xs * val 18446744073709551616 ys) (L + M)) ∧ Did w o (List.replicate L (1, (M : Nat), 0)) W' o' ∧ Box W' (w.heap.size + 1 + 1 + 1) v' 31) ∨ (n = 2 ∧ ¬ (L ≤ 300 ∧ M ≤ 300) ∧ Kept Nought w W' ∧ Box W' (w.heap.size + 1 + 1 + 1) (.slice none 0 0) 31)) he (h1.mono ?_)).mono ?_
  · rintro e w' (⟨hl, rfl, v', w1, o', hsh, ho, hd, hk, hb⟩ | ⟨hl, rfl, rfl⟩)
    · rw [show (W.alloc (.cells #[.int .i64 0] 32)).heap.size = W.heap.size + 1 by simp] at ho hsh
      have hti := (hd.room (k := 0) ((ht.grew k1).less (by simp; omega))).1
      have hxO := (x4.alloc (.cells #[.int .i64 0] 32)).did hd (ht.grew k1).1 (by decide) (by decide)
      have hxE := (xe.did hd (ht.grew k1).1 (by decide) (by decide)).kept hk (by omega)
      refine ⟨hxE, .inl ⟨rfl, .inl ⟨rfl, hl, v', o', hsh, hk.own ho (fun b hb' e => ?_), (Did.after k1 hd).wroteNew hk (by omega) (hxO.apart hti (by decide) (by decide)), hb⟩⟩⟩
      have := (ho.lt b hb').1
      omega
    · exact ⟨xe, .inr ⟨2, rfl, .inr ⟨rfl, hl, k1, x4.alloc _⟩⟩⟩
  · rintro e w' ⟨n, w1, rfl, ⟨hq, hbe⟩, rfl⟩
    have hbe' : Box w1 W.heap.size (.int .i64 0) 32 := hbe
    rcases hq with ⟨rfl, hl, v', o', hsh, ho, hd, hb⟩ | ⟨rfl, hl, hk, hb⟩
    · have hti := (hd.room (k := 0) (ht.less (by simp; omega))).1
      have hd2 := hd.wroteNew (kept_box w1 W.heap.size (.int .i64 0)) (by omega) (hbe'.apart hti (by decide) (by decide))
      have ho2 := (kept_box w1 W.heap.size (.int .i64 0)).own ho (fun b hb' e => by have := (ho.lt b hb').1; omega)
      have hbx2 := hb.other ⟨W.heap.size, 0, none⟩ (by show _ ≠ W.heap.size; omega) (.int .i64 0)
      have hb2 := hbx2.cell
      have hf2 := hbx2.free
      have hb3 := (hbx2.set v').cell
      have ho3 := (kept_box _ (w.heap.size + 1 + 1 + 1) v').own ho2 (fun b hb' e => by have := (ho.lt b hb').1; omega)
      have hti2 := (hd2.room (k := 0) (ht.less (by simp; omega))).1
      have hd3 := hd2.wroteNew (kept_box _ (w.heap.size + 1 + 1 + 1) v') (by omega) (hbx2.apart hti2 (by decide) (by decide))
      have hbase : Hid (∀ b, v'.ownBlock = some b → w.heap.size ≤ b) := fun b hb' => by have := (ho.lt b hb').1; omega
      obtain ⟨xo, xc, rfl⟩ := own_slice ho
      have HSH := toHid hsh
      clear hsh
      have HO := toHid ho3
      have HD := toHid hd3
      clear h1 ho hd hb ho2 hd2 ho3 hd3 hti hti2 hbx2 hbe hbe' hu hv ht
      generalize w1.setCell ⟨W.heap.size, 0, none⟩ (.int .i64 0) = W2 at *
      go_wp2_with fail
      refine bodyPost_ret (v := .slice xo (L + M) xc) (by simp [results, Tryz.results169, go_sem, hb3]) rfl ?_
      unfold mulAns mulEvs
      rw [if_pos hl, if_pos hl]
      exact ⟨_, rfl, Row.of_own (base := W.heap.size + 1) (e := 23) (by rw [digs_length]; exact HO.out), hbase.out, (fun _ => ⟨_, by omega, HSH.out, HO.out⟩), o', HD.out⟩
    · have k2 := hk.next (kept_box w1 W.heap.size (.int .i64 2)) (fun x hx e => by omega)
      have hbx2 := hb.other ⟨W.heap.size, 0, none⟩ (by show _ ≠ W.heap.size; omega) (.int .i64 2)
      have hb2 := hbx2.cell
      have hf2 := hbx2.free
      have hb3 := (hbx2.set (.slice none 0 0)).cell
      have HD := toHid (Did.of_kept (k2.next (kept_box _ (w.heap.size + 1 + 1 + 1) (.slice none 0 0)) (fun x hx e => by omega)) ht.1)
      clear h1 hb hu hv ht hk k2 hbx2 hbe hbe'
      generalize w1.setCell ⟨W.heap.size, 0, none⟩ (.int .i64 2) = W2 at *
      go_wp2_with fail
      refine bodyPost_ret (v := .slice none 0 0) (by simp [results, Tryz.results169, go_sem, hb3]) rfl ?_
      unfold mulAns mulEvs
      rw [if_neg hl, if_neg hl]
      exact ⟨_, rfl, Row.nil _ _, (fun b hb => by cases hb), (fun h => absurd h hl), o, HD.out⟩

/-- Mul. -/
theorem pMul (o : Tr) (ao bo : Option Addr) (L M cap dap : Nat) (xs ys : List Nat) (w : World) (ht : TrRoom w o 300) (hu : RowT w o (.slice ao L cap) xs) (hv : RowT w o (.slice bo M dap) ys) (hdx : Digs 18446744073709551616 xs) (hdy : Digs 18446744073709551616 ys) :
    Calls Tryz.prog 169 #[trPtr o, .slice ao L cap, .slice bo M dap] w fun e w' => ∃ v', e = .returned v' ∧
      Row .u64 w' v' (mulAns (val 18446744073709551616 xs) (val 18446744073709551616 ys) L M) ∧ (∀ b, v'.ownBlock = some b → w.heap.size ≤ b) ∧ ∃ o', Did w o (mulEvs L M) w' o' := by
  refine (pMulO o ao bo L M cap dap xs ys w ht hu hv hdx hdy).mono ?_
  rintro e w' ⟨v', rfl, h1, h2, _, h3⟩
  exact ⟨v', rfl, h1, h2, h3⟩

end Go.Proofs.YtcjaafmlflonhaaGreatDoor

/- Package product: extended, MulWord. -/
namespace Go.Proofs.YtcjaafmlflonhaaGreatDoor
open Go.RowKit

/-- What MulWord answers. -/
def mwAns (X W Y L M : Nat) : List Nat := if L ≤ 300 ∧ M ≤ 300 then digs 18446744073709551616 (Y + X * W) (max L M) else []

def mwTop (X W Y L M : Nat) : Nat := if L ≤ 300 ∧ M ≤ 300 then (Y + X * W) / 18446744073709551616 ^ max L M else 0

def mwEvs (L M : Nat) : List Ev := if L ≤ 300 ∧ M ≤ 300 then [(1, ((max L M : Nat) : Int), 0)] else []

theorem val_fill {ys : List Nat} (n : Nat) : val 18446744073709551616 (ys ++ List.replicate n 0) = val 18446744073709551616 ys := by
  rw [val_append, val_zeros _ (fun d hd => (List.mem_replicate.1 hd).2), Nat.mul_zero, Nat.add_zero]

theorem own_row' {w : World} {base n : Nat} {v : Value} {zs : List Nat} (h : OwnN .u64 23 w base v n zs) (hl : zs.length = n) : Row .u64 w v zs :=
  Row.of_own (base := base) (e := 23) (by rw [hl]; exact h)

theorem digs_fill {ys : List Nat} (h : Digs 18446744073709551616 ys) (n : Nat) : Digs 18446744073709551616 (ys ++ List.replicate n 0) := h.append (fun d hd => by rw [(List.mem_replicate.1 hd).2]; omega)

end Go.Proofs.YtcjaafmlflonhaaGreatDoor

/- Package product: MulWord. -/
namespace Go.Proofs.YtcjaafmlflonhaaGreatDoor
open Go.RowKit

/-- What was written into new blocks that are no part of the trace. -/
theorem Did.wroteSome {S : Nat → Prop} {w w' w2 : World} {o o' : Tr} {m : List Ev} (d : Did w o m w' o') (k : Kept S w' w2) (hS : ∀ b, S b → w.heap.size ≤ b ∧ ¬ trFoot o' b) : Did w o m w2 o' := by
  refine ⟨d.1.next k (fun x hx e => by have := (hS x e).1; omega), ?_⟩
  rcases d.2 with h1 | ⟨p, g, l, g', e1, e2, ht, hg⟩
  · exact .inl h1
  · subst e2
    exact .inr ⟨p, g, l, g', e1, rfl, ht.kept k (fun e => (hS p e).2 (.inl rfl)) (fun x hx e => (hS x e).2 (.inr hx)), hg⟩

theorem foot_lt {w : World} {o : Tr} (ht : TrIn w o) {b : Nat} (hf : trFoot o b) : b < w.heap.size := ht.foot b hf

end Go.Proofs.YtcjaafmlflonhaaGreatDoor
