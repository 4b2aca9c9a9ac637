/- Package product: Divide. -/
import Derived.Test.YtaehphckkmbbnaaGreatPro3
import Derived.Test.YtaehphckkmbbnaaGreatRef5A
namespace Go.Proofs.YtaehphckkmbbnaaGreat
open Go.RowKit

def divSeen (L M : Nat) : List Ev := if L ≤ 300 ∧ M ≤ 300 then divEvs L M else []

theorem div_long {X Y L M : Nat} (h : ¬ (L ≤ 300 ∧ M ≤ 300)) : divE Y L M = 2 ∧ divQ X Y L M = [] ∧ divR X Y L M = [] := by
  have e : divE Y L M = 2 := by unfold divE okLen; rw [if_neg (by simpa using h)]
  refine ⟨e, ?_, ?_⟩
  · unfold divQ; rw [e, if_neg (by omega)]
  · unfold divR; rw [e, if_neg (by omega)]

theorem div_zero {X Y L M : Nat} (h : L ≤ 300 ∧ M ≤ 300) (h0 : Y = 0) : divE Y L M = 1 ∧ divQ X Y L M = [] ∧ divR X Y L M = [] := by
  have e : divE Y L M = 1 := by unfold divE okLen; rw [if_pos (by simpa using h), if_pos h0]
  refine ⟨e, ?_, ?_⟩
  · unfold divQ; rw [e, if_neg (by omega)]
  · unfold divR; rw [e, if_neg (by omega)]

theorem div_good {X Y L M : Nat} (h : L ≤ 300 ∧ M ≤ 300) (h0 : Y ≠ 0) : divE Y L M = 0 ∧ divQ X Y L M = digs 18446744073709551616 (X / Y) L ∧ divR X Y L M = digs 18446744073709551616 (X % Y) M := by
  have e : divE Y L M = 0 := by unfold divE okLen; rw [if_pos (by simpa using h), if_neg h0]
  refine ⟨e, ?_, ?_⟩
  · unfold divQ; rw [if_pos e]
  · unfold divR; rw [if_pos e]

set_option maxRecDepth 20000 in
set_option maxHeartbeats 2000000 in
/-- Divide, with where its rest lies. -/
theorem pDivideU (o : Tr) (ao bo : Option Addr) (L M cap dap : Nat) (xs ys : List Nat) (E : Nat) (hE : E = divE (val 18446744073709551616 ys) L M) (w : World) (ht : TrRoom w o 60000) (hu : RowT w o (.slice ao L cap) xs) (hv : RowT w o (.slice bo M dap) ys) (hdx : Digs 18446744073709551616 xs) (hdy : Digs 18446744073709551616 ys) :
    Calls Tryz.prog 32 #[trPtr o, .slice ao L cap, .slice bo M dap] w fun e w' => ∃ v1 v2, e = .returned (.tuple #[v1, v2, .int .i64 (E : Nat)]) ∧
      Row .u64 w' v1 (divQ (val 18446744073709551616 xs) (val 18446744073709551616 ys) L M) ∧ Row .u64 w' v2 (divR (val 18446744073709551616 xs) (val 18446744073709551616 ys) L M) ∧ ((∀ b, v2.ownBlock = some b → w.heap.size ≤ b) ∧ U64s w' v2) ∧ ∃ o', Did w o (divSeen L M) w' o' := by
  have hmf : ∀ (fn : Fn) (first cap : Array Value) (w : World), (Instr.makeFunc fn first cap).run Tryz.prog w = .ok (.func fn first cap) w := fun _ _ _ _ => rfl
  obtain ⟨po, hpo⟩ := trPtr_shape o
  have hbx := boxes5 w (.pointer po) (.slice ao L cap) (.slice bo M dap) (.slice none 0 0) (.slice none 0 0) 29 23 23 23 23
  have he : ∀ args w, (callFunc 59 args).run Tryz.prog w = .ok (.enter 59 args) w := fun _ _ => by simp [go_sem]
  obtain ⟨X, hX⟩ : ∃ X, X = val 18446744073709551616 xs := ⟨_, rfl⟩
  obtain ⟨Y, hY⟩ : ∃ Y, Y = val 18446744073709551616 ys := ⟨_, rfl⟩
  rw [hpo]
  rw [← hY] at hE
  rw [← hX, ← hY]
  have HE := toHid hE
  have HX := toHid hX
  have HY := toHid hY
  clear hE hX hY
  go_enter Tryz.func32, Tryz.ntmps32
  go_wp2_with fail
  generalize ((((w.alloc (.cells #[.pointer po] 29)).alloc (.cells #[.slice ao L cap] 23)).alloc (.cells #[.slice bo M dap] 23)).alloc (.cells #[.slice none 0 0] 23)).alloc (.cells #[.slice none 0 0] 23) = W at *
  obtain ⟨k0, x1, x2, x3, x4, x5, hs⟩ := hbx
  have k1 := k0.alloc (.cells #[.int .i64 0] 31)
  have xe := Box.new W (.int .i64 0) 31
  have h1 := pDivide1 o ao bo L M cap dap xs ys X Y HX.out HY.out _ _ _ _ _ _ (ht.grew k1) (hu.grew k1) (hv.grew k1) hdx hdy (by rw [hpo]; exact x1.alloc _) (x2.alloc _) (x3.alloc _) (x4.alloc (.cells #[.int .i64 0] 31)) (x5.alloc _) (by omega)
  have hsz : (W.alloc (.cells #[.int .i64 0] 31)).heap.size = W.heap.size + 1 := by simp
  refine (pAttempt 59 _ W (fun n W' => n = (E : Int) ∧ ∃ ro rc ln so sc lm o', Box W' (w.heap.size + 1 + 1 + 1) (.slice ro ln rc) 23 ∧ Box W' (w.heap.size + 1 + 1 + 1 + 1) (.slice so lm sc) 23 ∧ Row .u64 W' (.slice ro ln rc) (divQ X Y L M) ∧ Row .u64 W' (.slice so lm sc) (divR X Y L M) ∧ (∀ b, (Value.slice ro ln rc).ownBlock = some b → W.heap.size + 1 ≤ b) ∧ ((∀ b, (Value.slice so lm sc).ownBlock = some b → W.heap.size + 1 ≤ b) ∧ U64s W' (.slice so lm sc)) ∧ Did w o (divSeen L M) W' o' ∧ TrIn W' o') he (h1.mono ?_)).mono ?_
  · rintro e w' (⟨hl, rfl, rfl⟩ | ⟨hl, h0, rfl, o', hd⟩ | ⟨hl, h0, rfl, v1, v2, w1, o', ho1, ho2, hd, hk, hb1, hb2⟩)
    · obtain ⟨e1, e2, e3⟩ := div_long (X := X) (Y := Y) hl
      refine ⟨xe, .inr ⟨2, rfl, by rw [HE.out, e1]; rfl, none, 0, 0, none, 0, 0, o, x4.alloc _, x5.alloc _, by rw [e2]; exact Row.nil _ _, by rw [e3]; exact Row.nil _ _, (fun b hb => by cases hb), ⟨(fun b hb => by cases hb), U64s.nil _⟩, ?_, (ht.grew k1).1⟩⟩
      unfold divSeen
      rw [if_neg hl]
      exact Did.of_kept k1 ht.1
    · obtain ⟨e1, e2, e3⟩ := div_zero (X := X) hl h0
      have hti := (hd.room (k := 0) ((ht.grew k1).less (by rw [divEvs_len]; omega))).1
      have hxQ := (x4.alloc (.cells #[.int .i64 0] 31)).did hd (ht.grew k1).1 (by decide) (by decide)
      have hxR := (x5.alloc (.cells #[.int .i64 0] 31)).did hd (ht.grew k1).1 (by decide) (by decide)
      have hxE := xe.did hd (ht.grew k1).1 (by decide) (by decide)
      refine ⟨hxE, .inr ⟨1, rfl, by rw [HE.out, e1]; rfl, none, 0, 0, none, 0, 0, o', hxQ, hxR, by rw [e2]; exact Row.nil _ _, by rw [e3]; exact Row.nil _ _, (fun b hb => by cases hb), ⟨(fun b hb => by cases hb), U64s.nil _⟩, ?_, hti⟩⟩
      unfold divSeen
      rw [if_pos hl]
      exact Did.after k1 hd
    · obtain ⟨e1, e2, e3⟩ := div_good (X := X) hl h0
      rw [hsz] at ho1 ho2
      have hti := (hd.room (k := 0) ((ht.grew k1).less (by rw [divEvs_len]; omega))).1
      have hxQ := (x4.alloc (.cells #[.int .i64 0] 31)).did hd (ht.grew k1).1 (by decide) (by decide)
      have hxR := (x5.alloc (.cells #[.int .i64 0] 31)).did hd (ht.grew k1).1 (by decide) (by decide)
      have hxE := (xe.did hd (ht.grew k1).1 (by decide) (by decide)).kept hk (by omega)
      have hdd := (Did.after k1 hd).wroteSome hk (fun b hb => by
        rcases hb with rfl | rfl
        · exact ⟨by omega, hxQ.apart hti (by decide) (by decide)⟩
        · exact ⟨by omega, hxR.apart hti (by decide) (by decide)⟩)
      obtain ⟨xo, xc, rfl⟩ := own_slice ho1
      obtain ⟨yo, yc, rfl⟩ := own_slice ho2
      refine ⟨hxE, .inl ⟨rfl, by rw [HE.out, e1]; rfl, xo, xc, L, yo, yc, M, o', hb1, hb2, by rw [e2]; exact own_row' ho1 (digs_length _ _ _), by rw [e3]; exact own_row' ho2 (digs_length _ _ _), (fun b hb => (ho1.lt b hb).1), ⟨(fun b hb => (ho2.lt b hb).1), U64s.own ho2⟩, ?_, (hdd.room (k := 0) (ht.less (by rw [divEvs_len]; omega))).1⟩⟩
      unfold divSeen
      rw [if_pos hl]
      exact hdd
  · rintro e w' ⟨n, w1, rfl, ⟨⟨rfl, ro, rc, ln, so, sc, lm, o', hb1, hb2, hr1, hr2, hn1, hn2, hd, hti⟩, hbe⟩, rfl⟩
    have hbe' : Box w1 W.heap.size (.int .i64 0) 31 := hbe
    have hbx1 := hb1.other ⟨W.heap.size, 0, none⟩ (by show _ ≠ W.heap.size; omega) (.int .i64 (E : Int))
    have hbx2 := hb2.other ⟨W.heap.size, 0, none⟩ (by show _ ≠ W.heap.size; omega) (.int .i64 (E : Int))
    have c1 := hbx1.cell
    have f1 := hbx1.free
    have c2 := hbx2.cell
    have f2 := hbx2.free
    have hne : w.heap.size + 1 + 1 + 1 ≠ w.heap.size + 1 + 1 + 1 + 1 := by omega
    have c3 := ((hbx1.set (.slice ro ln rc)).other ⟨w.heap.size + 1 + 1 + 1 + 1, 0, none⟩ hne (.slice so lm sc)).cell
    have c4 := ((hbx2.other ⟨w.heap.size + 1 + 1 + 1, 0, none⟩ hne.symm (.slice ro ln rc)).set (.slice so lm sc)).cell
    have kb0 : Kept (fun b => b = W.heap.size ∨ b = w.heap.size + 1 + 1 + 1 ∨ b = w.heap.size + 1 + 1 + 1 + 1) w1 (w1.setCell ⟨W.heap.size, 0, none⟩ (.int .i64 (E : Int))) := (kept_box w1 W.heap.size _).mono (fun _ _ e => .inl e)
    have kb1 := kb0.next (kept_box _ (w.heap.size + 1 + 1 + 1) (.slice ro ln rc)) (fun _ _ e => .inr (.inl e))
    have kb2 := kb1.next (kept_box _ (w.heap.size + 1 + 1 + 1 + 1) (.slice so lm sc)) (fun _ _ e => .inr (.inr e))
    have HD := toHid (hd.wroteSome kb2 (fun b hb => by
      rcases hb with rfl | rfl | rfl
      · exact ⟨by omega, hbe'.apart hti (by decide) (by decide)⟩
      · exact ⟨by omega, hb1.apart hti (by decide) (by decide)⟩
      · exact ⟨by omega, hb2.apart hti (by decide) (by decide)⟩))
    have HR1 := toHid (hr1.kept kb2 (fun b hb e => by have := hn1 b hb; omega))
    have HR2 := toHid (hr2.kept kb2 (fun b hb e => by have := hn2.1 b hb; omega))
    have HU2 : Hid ((∀ b, (Value.slice so lm sc).ownBlock = some b → w.heap.size ≤ b) ∧ U64s _ (Value.slice so lm sc)) := ⟨fun b hb => by have := hn2.1 b hb; omega, hn2.2.kept kb2 (fun b hb e => by have := hn2.1 b hb; omega)⟩
    generalize w1.setCell ⟨W.heap.size, 0, none⟩ (.int .i64 (E : Int)) = W2 at *
    clear h1 hb1 hb2 hbx1 hbx2 hr1 hr2 hn1 hn2 kb0 kb1 kb2 hd hti hbe hbe' hu hv ht x1 x2 x3 x4 x5 xe k0 k1 hsz he hmf
    go_wp2_with fail
    go_region
    all_goals
      go_wp2
      refine bodyPost_ret (v := .tuple #[.slice ro ln rc, .slice so lm sc, .int .i64 (E : Nat)]) (by simp [results, Tryz.results32, go_sem, c3, c4]) rfl ?_
      exact ⟨_, _, rfl, HR1.out.grew (Kept.refl _ _).drew, HR2.out.grew (Kept.refl _ _).drew, ⟨HU2.out.1, HU2.out.2.grew (Kept.refl _ _).drew⟩, o', HD.out.grew (Kept.refl _ _).drew⟩

/-- Divide. -/
theorem pDivide (o : Tr) (ao bo : Option Addr) (L M cap dap : Nat) (xs ys : List Nat) (E : Nat) (hE : E = divE (val 18446744073709551616 ys) L M) (w : World) (ht : TrRoom w o 60000) (hu : RowT w o (.slice ao L cap) xs) (hv : RowT w o (.slice bo M dap) ys) (hdx : Digs 18446744073709551616 xs) (hdy : Digs 18446744073709551616 ys) :
    Calls Tryz.prog 32 #[trPtr o, .slice ao L cap, .slice bo M dap] w fun e w' => ∃ v1 v2, e = .returned (.tuple #[v1, v2, .int .i64 (E : Nat)]) ∧
      Row .u64 w' v1 (divQ (val 18446744073709551616 xs) (val 18446744073709551616 ys) L M) ∧ Row .u64 w' v2 (divR (val 18446744073709551616 xs) (val 18446744073709551616 ys) L M) ∧ ∃ o', Did w o (divSeen L M) w' o' := by
  refine (pDivideU o ao bo L M cap dap xs ys E hE w ht hu hv hdx hdy).mono ?_
  rintro e w' ⟨v1, v2, h1, h2, h3, _, h4⟩
  exact ⟨v1, v2, h1, h2, h3, h4⟩

end Go.Proofs.YtaehphckkmbbnaaGreat
