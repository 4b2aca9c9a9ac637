/- Package power: the sixteen powers that stand ready (powers). -/
import Derived.Test.YtoieghgaahfciaaGreatPowA
import Derived.Test.YtoieghgaahfciaaGreatPowR
import Derived.Deep.RegionLaw
import Derived.Deep.AppendLies
namespace Go.Proofs.YtoieghgaahfciaaGreat
open Go.RowKit

theorem Tryz.infoP23 : (Tryz.prog.info? 23).map (fun i => (i.zero, i.size, i.bytes)) = some (some (.slice none 0 0), 1, 24) := by kernel_rfl

/-- A row of numbers, in a block of its own type, is no part of a trace. -/
theorem ownN_apart {w : World} {o : Tr} {base size n : Nat} {v : Value} {xs : List Value} (h : w.ownsRow base 23 size v n xs) (ht : TrIn w o) : ∀ b, v.ownBlock = some b → ¬ trFoot o b := by
  rcases h.2 with ⟨rfl, _⟩ | ⟨g', cap, cur, rfl, _, hgg, _⟩
  · intro b hb
    cases hb
  · intro b hb
    have e : g' = b := by simpa [Value.ownBlock] using hb
    subst e
    exact cells_apart hgg ht (by decide) (by decide)

/-- Numbers lie in other blocks than a row of numbers. -/
theorem u64s_ne {w : World} {base size n : Nat} {v u : Value} {xs : List Value} (h : w.ownsRow base 23 size v n xs) (hu : U64s w u) : ∀ b, u.ownBlock = some b → v.ownBlock ≠ some b := by
  intro b hb e
  obtain ⟨cs, fr, hg⟩ := hu b hb
  rcases h.2 with ⟨rfl, _⟩ | ⟨g', cap, cur, rfl, _, hgg, _⟩
  · cases e
  · have e' : g' = b := by simpa [Value.ownBlock] using e
    subst e'
    rw [hgg] at hg
    simp only [Option.some.injEq, Obj.cells.injEq] at hg
    exact absurd hg.2.1 (by decide)

/-- A table: the first k powers of X in Montgomery's form; each number is new since w0, or xv. -/
def Tab8 (w0 w : World) (xv v : Value) (n k : Nat) (A : Nat → Option Addr) (C : Nat → Nat) (V X : Nat) : Prop :=
  w.ownsRow w0.heap.size 23 1 v k ((List.range k).map fun j => .slice (A j) n (C j)) ∧ ∀ j, j < k → MonAt w (.slice (A j) n (C j)) n V (X ^ j) ∧ (Fresh w0 (.slice (A j) n (C j)) ∨ Value.slice (A j) n (C j) = xv)

theorem Tab8.did {w0 w w' : World} {o o' : Tr} {m : List Ev} {xv v : Value} {n k V X : Nat} {A : Nat → Option Addr} {C : Nat → Nat} (h : Tab8 w0 w xv v n k A C V X) (d : Did w o m w' o') (ht : TrIn w o) : Tab8 w0 w' xv v n k A C V X :=
  ⟨d.kept.own h.1 (ownN_apart h.1 ht), fun j hj => ⟨(h.2 j hj).1.did d ht, (h.2 j hj).2⟩⟩

theorem Tab8.grew {w0 w w' : World} {xv v : Value} {n k V X : Nat} {A : Nat → Option Addr} {C : Nat → Nat} (h : Tab8 w0 w xv v n k A C V X) (kk : Kept Nought w w') : Tab8 w0 w' xv v n k A C V X :=
  ⟨kk.own h.1 (fun _ _ f => f), fun j hj => ⟨(h.2 j hj).1.grew kk, (h.2 j hj).2⟩⟩

theorem Tab8.push {w0 W w4 : World} {xv out : Value} {n k V X g cap : Nat} {A : Nat → Option Addr} {C : Nat → Nat} {yo : Option Addr} {yc : Nat} (h : Tab8 w0 W xv out n k A C V X) (hy : MonAt W (.slice yo n yc) n V (X ^ k)) (hf : Fresh w0 (.slice yo n yc))
    (ho : w4.ownsRow w0.heap.size 23 1 (.slice (some ⟨g, 0, none⟩) (k + 1) cap) (k + 1) (((List.range k).map fun j => .slice (A j) n (C j)) ++ [.slice yo n yc])) (hg : W.grownBy w4 out.ownBlock) :
    Tab8 w0 w4 xv (.slice (some ⟨g, 0, none⟩) (k + 1) cap) n (k + 1) (fun j => if j = k then yo else A j) (fun j => if j = k then yc else C j) V X := by
  have kk : Kept (fun b => out.ownBlock = some b) W w4 := (Kept.refl _ W).grown hg (fun b e _ => e)
  refine ⟨?_, fun j hj => ?_⟩
  · rw [List.range_succ, List.map_append, List.map_cons, List.map_nil]
    dsimp only
    rw [if_pos rfl, if_pos rfl]
    have e : ((List.range k).map fun j => Value.slice (if j = k then yo else A j) n (if j = k then yc else C j)) = (List.range k).map fun j => Value.slice (A j) n (C j) := by
      refine List.map_congr_left (fun j hj => ?_)
      have : j < k := List.mem_range.1 hj
      rw [if_neg (by omega), if_neg (by omega)]
    rw [e]
    exact ho
  · by_cases e : j = k
    · subst e
      dsimp only
      rw [if_pos rfl, if_pos rfl]
      exact ⟨hy.kept kk (u64s_ne h.1 hy.2), .inl hf⟩
    · dsimp only
      rw [if_neg e, if_neg e]
      obtain ⟨h1, h2⟩ := h.2 j (by omega)
      exact ⟨h1.kept kk (u64s_ne h.1 h1.2), h2⟩

theorem Tab8.after {w0 W w : World} {xv v : Value} {n k V X : Nat} {A : Nat → Option Addr} {C : Nat → Nat} (h : Tab8 W w xv v n k A C V X) (kk : Kept Nought w0 W) : Tab8 w0 w xv v n k A C V X :=
  ⟨own_base h.1 (fun b e => Nat.le_trans kk.size (World.ownsRow.lt h.1 b e).1), fun j hj => ⟨(h.2 j hj).1, (h.2 j hj).2.imp (fun f => f.after kk) id⟩⟩

theorem Tab8.at {w0 w : World} {xv : Value} {n k c g V X : Nat} {A : Nat → Option Addr} {C : Nat → Nat} (h : Tab8 w0 w xv (.slice (some ⟨g, 0, none⟩) k c) n k A C V X) {j : Nat} (hj : j < k) : w.cell? ⟨g, j, none⟩ = some (.slice (A j) n (C j)) := by
  rw [World.ownsRow.cellAt h.1 j (by omega), List.getElem?_map, List.getElem?_range hj]
  rfl

/-- What powers writes down. -/
def powEv8 (n : Nat) (k : Nat) : List Ev := entEv8 n ++ (List.replicate k (mulEv8 n)).flatten

theorem powEv8_succ (n k : Nat) : powEv8 n (k + 1) = powEv8 n k ++ mulEv8 n := by
  unfold powEv8
  rw [List.replicate_succ', List.flatten_append, List.append_assoc]
  simp

theorem flat_len {m : List Ev} {b : Nat} (h : m.length ≤ b) : ∀ k, (List.replicate k m).flatten.length ≤ k * b
  | 0 => by simp
  | k + 1 => by
    have := flat_len h k
    rw [List.replicate_succ, List.flatten_cons, List.length_append, Nat.add_mul]
    omega

theorem powEv8_len {n : Nat} (h : n ≤ 130) (k : Nat) : (powEv8 n k).length ≤ 2000 + k * 2000 := by
  obtain ⟨h1, h2, _⟩ := ev8_len h
  have := flat_len h1 k
  unfold powEv8
  rw [List.length_append]
  omega

set_option maxRecDepth 40000 in
set_option maxHeartbeats 4000000 in
/-- powers. -/
theorem wPowers (o : Tr) (ao bo xo : Option Addr) (n l K mcap rcap xc X : Nat) (ms rs : List Nat) (w : World) (ht : TrRoom w o 40000) (hM : Mod8 w o ao bo n l K mcap rcap ms rs) (hx : MonAt w (.slice xo n xc) n (val 18446744073709551616 ms) X) :
    Calls Tryz.prog 27 #[trPtr o, .agg #[.slice ao n mcap, .int .u64 (K : Nat), .slice bo l rcap], .slice xo n xc] w fun e w' => ∃ g c, e = .returned (.slice (some ⟨g, 0, none⟩) 16 c) ∧ (∃ A C, Tab8 w w' (.slice xo n xc) (.slice (some ⟨g, 0, none⟩) 16 c) n 16 A C (val 18446744073709551616 ms) X) ∧ ∃ o', Did w o (powEv8 n 14) w' o' := by
  obtain ⟨i0, hi0, hz0, hz1, hz2⟩ := info_parts Tryz.info24
  obtain ⟨j0, hj0, hy0, hy1, hy2⟩ := info_parts Tryz.infoP23
  have he57 : ∀ args w, (callFunc 57 args).run Tryz.prog w = .ok (.enter 57 args) w := fun _ _ => by simp [go_sem]
  have he56 : ∀ args w, (callFunc 56 args).run Tryz.prog w = .ok (.enter 56 args) w := fun _ _ => by simp [go_sem]
  obtain ⟨⟨f0, f1⟩, f2, f3, f4, f5⟩ := hM.facts
  obtain ⟨po, hpo⟩ := trPtr_shape o
  obtain ⟨V, hV⟩ : ∃ V, V = val 18446744073709551616 ms := ⟨_, rfl⟩
  rw [← hV] at f3 f4 f5 hx ⊢
  obtain ⟨W, hW⟩ : ∃ W, W = w.alloc (.cells #[.slice ao n mcap, .int .u64 (K : Nat), .slice bo l rcap] 26) := ⟨_, rfl⟩
  have k0 : Kept Nought w W := by rw [hW]; exact (Kept.refl Nought w).alloc _
  have hx0 : W.heap[w.heap.size]? = some (.cells #[.slice ao n mcap, .int .u64 (K : Nat), .slice bo l rcap] 26 (0, 0)) := by rw [hW]; exact heap_alloc_new _ _
  have JM : Hid (∀ W' m o', Did W o m W' o' → W'.cell? ⟨w.heap.size, 0, none⟩ = some (.slice ao n mcap) ∧ W'.cell? ⟨w.heap.size, 1, none⟩ = some (.int .u64 (K : Nat)) ∧ W'.cell? ⟨w.heap.size, 2, none⟩ = some (.slice bo l rcap)) := fun W' m o' d => cells3 ((d.kept.block _ (lt_of_block hx0) (cells_apart hx0 (ht.grew k0).1 (by decide) (by decide))).trans hx0)
  have JE : Hid (∀ W' g, Kept Nought W W' → OwnN .u64 24 W' g (.slice (some ⟨g, 0, none⟩) n n) n (digs 18446744073709551616 1 n) → Calls Tryz.prog 50 #[.pointer po, .agg #[.slice ao n mcap, .int .u64 (K : Nat), .slice bo l rcap], .slice (some ⟨g, 0, none⟩) n n] W' fun e w' => ∃ zo zc, e = .returned (.tuple #[.slice zo n zc, .int .i64 0]) ∧ MonAt w' (.slice zo n zc) n V 1 ∧ Fresh W (.slice zo n zc) ∧ ∃ o', Did W o (entEv8 n) w' o') := fun W' g k ho => by
    have h1 : val 18446744073709551616 (digs 18446744073709551616 1 n) = 1 := by rw [val_digs, Nat.mod_eq_of_lt (Nat.lt_of_lt_of_le (by omega) (Nat.le_of_lt f5))]
    have := ent8 o ao bo (some ⟨g, 0, none⟩) n l K mcap rcap n ms rs _ W' ((ht.grew (k0.trans k)).less (by omega)) (hM.grew (k0.trans k)) (own_rowT ho (digs_length _ _ _) (ht.grew (k0.trans k)).1) (digs_digs (by omega) _ _) (by rw [h1, ← hV]; omega)
    rw [h1, hpo, ← hV] at this
    refine this.mono ?_
    rintro e w' ⟨zo, zc, rfl, hA, hF, o', d⟩
    exact ⟨zo, zc, rfl, hA, hF.after k, o', Did.after k d⟩
  have JB : Hid (∀ W' m o' yo yc P, Did W o m W' o' → TrRoom W' o' 2000 → MonAt W' (.slice yo n yc) n V P → Calls Tryz.prog 57 #[.pointer po, .agg #[.slice ao n mcap, .int .u64 (K : Nat), .slice bo l rcap], .slice yo n yc, .slice xo n xc] W' fun e w' => ∃ zo zc, e = .returned (.tuple #[.slice zo n zc, .int .i64 0]) ∧ MonAt w' (.slice zo n zc) n V (P * X) ∧ Fresh W' (.slice zo n zc) ∧ ∃ o2, Did W' o' (mulEv8 n) w' o2) := fun W' m o' yo yc P d hr hA => by
    have hxx := (hx.grew k0).did d (ht.grew k0).1
    rw [hV] at hA hxx
    have := mul8 o' ao bo yo xo n l K mcap rcap yc xc P X ms rs W' hr ((hM.grew k0).did d) hA hxx
    rw [d.ptr, hpo, ← hV] at this
    exact this
  have HX : Hid (∀ W' m o', Did W o m W' o' → MonAt W' (.slice xo n xc) n V X) := fun W' m o' d => (hx.grew k0).did d (ht.grew k0).1
  have HT := toHid (ht.grew k0)
  have HI : Hid ((List.replicate n 0).set 0 1 = digs 18446744073709551616 1 n) := by
    unfold Hid
    obtain ⟨m, rfl⟩ : ∃ m, n = m + 1 := ⟨n - 1, by omega⟩
    refine digs_val (by omega) ?_ (by simp) ?_
    · intro d hd
      rcases List.mem_or_eq_of_mem_set hd with h | h
      · rw [(List.mem_replicate.1 h).2]; omega
      · omega
    · rw [List.replicate_succ, List.set_cons_zero, val, val_zeros _ (fun d hd => (List.mem_replicate.1 hd).2), Nat.mod_eq_of_lt (Nat.one_lt_pow (by omega) (by omega))]
  have hn0 : (0 : Int) < (n : Int) := by omega
  obtain ⟨p0, p1, p2⟩ := cells3 hx0
  have HW := toHid hW
  have HK0 := toHid k0
  have HF1 := toHid f1
  rw [hpo]
  clear hW hx0 k0 hM hx hpo hV f2 f3 f4 f5 ht
  go_enter Tryz.func27, Tryz.ntmps27
  go_wp2_with (at_make; rw [← HW.out]; refine wpList_make_full _ rfl _ _ 23 rfl W.heap.size 24 i0 _ 1 Tryz.underlying23 hi0 hz0 hz1 _ _ _ _ n rfl rfl rfl rfl (by rw [hz2]; omega) (by unfold maxLen; omega) (Nat.le_refl _) ?_; intro w3 ho3 hg3; rw [zeros_map] at ho3; have k3 := grown_kept hg3; have hc3 := World.ownsRow.cellAt ho3 0 (by omega); have hf3 := World.ownsRow.frozenAt ho3 0; rw [List.getElem?_map, List.getElem?_replicate, if_pos f0] at hc3; have k4 : Kept Nought W (w3.setCell ⟨W.heap.size, 0, none⟩ (.int .u64 1)) := kept_new k3 ((Kept.refl (fun b => b = W.heap.size) w3).setCell ⟨W.heap.size, 0, none⟩ (fun _ => rfl) _) (Nat.le_refl _); obtain ⟨q0, q1, q2⟩ := JM.out _ _ _ (Did.of_kept k4 HT.out.1); clear hg3)
  have ho4 : OwnN .u64 24 (w3.setCell ⟨W.heap.size, 0, none⟩ (.int .u64 1)) W.heap.size (.slice (some ⟨W.heap.size, 0, none⟩) n n) n (digs 18446744073709551616 1 n) := by
    have := (World.ownsRow.stored ho3 0 (.int .u64 1)).1
    unfold OwnN
    rw [← HI.out, List.map_set]
    exact this
  have hE := JE.out _ _ k4 ho4
  generalize w3.setCell ⟨W.heap.size, 0, none⟩ (.int .u64 1) = w4 at *
  clear ho3 hc3 hf3 k3 p0 p1 p2 ho4 JE HI
  refine hE.mono ?_
  rintro e w5 ⟨zo, zc, rfl, hA5, hF5, o5, d5⟩
  have hS := wStep zo n zc w5
  clear hE q0 q1 q2
  go_wp2_with fail
  refine hS.mono ?_
  rintro e w6 ⟨rfl, rfl⟩
  have k6 : Kept Nought w6 (w6.alloc (.cells #[.slice zo n zc, .slice xo n xc] 23)) := (Kept.refl Nought w6).alloc _
  have HD6 := toHid (d5.grew k6)
  have HTab : Hid (∃ A C, Tab8 W (w6.alloc (.cells #[.slice zo n zc, .slice xo n xc] 23)) (.slice xo n xc) (.slice (some ⟨w6.heap.size, 0, none⟩) 2 2) n 2 A C V X) := by
    refine ⟨fun j => if j = 0 then zo else xo, fun j => if j = 0 then zc else xc, ?_, fun j hj => ?_⟩
    · exact World.ownsRow_lit (base := W.heap.size) (e := 23) (size := 1) w6 #[.slice zo n zc, .slice xo n xc] 2 d5.size (by unfold maxLen; omega) rfl
    · have h01 : j = 0 ∨ j = 1 := by omega
      rcases h01 with rfl | rfl
      · exact ⟨hA5.grew k6, .inl hF5⟩
      · refine ⟨?_, .inr rfl⟩
        have := (HX.out _ _ _ d5).grew k6
        rw [Nat.pow_one]
        exact this
  clear hS hA5 hF5 d5 k6 HX
  go_wp2_with fail
  go_loopw [8, 25] (fun lv i wr => ∃ (k N g c : Nat) (o1 : Tr), k ≤ 14 ∧ i = .int .i64 (k : Int) ∧ lv = .slice (some ⟨g, 0, none⟩) N c ∧ Hid (N = k + 2) ∧ Hid (∃ A C, Tab8 W wr (.slice xo n xc) (.slice (some ⟨g, 0, none⟩) N c) n N A C V X) ∧ Hid (Did W o (powEv8 n k) wr o1)) (fun _ i _ => 14 - (intOf i).toNat)
  case atStart => exact ⟨0, 2, w6.heap.size, 2, o5, by omega, rfl, rfl, rfl, HTab.out, by unfold Hid powEv8; rw [List.replicate_zero, List.flatten_nil, List.append_nil]; exact HD6.out⟩
  case round =>
    obtain ⟨k, N, g, c, o1, hk, rfl, rfl, HN, HTb, HD⟩ := hrel
    clear HTab HD6
    by_cases hk14 : k < 14
    · have gk : (k : Int) < 14 := by omega
      obtain ⟨A, C, hTab⟩ := HTb.out
      obtain ⟨J, hJ⟩ : ∃ J, J = k + 1 := ⟨_, rfl⟩
      have gJ : IntKind.i64.wrap (J : Int) = (J : Int) := by rw [IntKind.wrap_i64]; omega
      have gJ' : (k : Int) + 1 = (J : Int) := by omega
      have gJ0 : (0 : Int) ≤ (J : Int) := by omega
      have gJ1 : (J : Int) < (N : Int) := by have := HN.out; omega
      have hcJ := hTab.at (j := J) (by omega)
      have hti : TrIn wr o1 := (HD.out.room (k := 0) (HT.out.less (by have := powEv8_len HF1.out k; omega))).1
      have kd : Kept Nought wr wr.drew := (Kept.refl Nought wr).drew
      have hMul := JB.out wr.drew _ o1 (A J) (C J) (X ^ J) (HD.out.grew kd) ((HD.out.grew kd).room (HT.out.less (by have := powEv8_len HF1.out k; omega))) ((hTab.2 J (by omega)).1.grew kd)
      obtain ⟨q0, q1, q2⟩ := JM.out _ _ _ HD.out
      have HTI := toHid hti
      have HTa := toHid hTab
      have HJ := toHid hJ
      clear hti hTab hJ HTb
      go_wp2_with fail
      go_region_law (first
        | (refine step_call 57 _ _ _ (by rfl) (by rfl) (by rfl) he57 hMul ?_; rintro e w7 ⟨yo, yc, rfl, hA7, hF7, o7, d7⟩; refine ⟨_, rfl, ?_⟩)
        | (refine step_call 56 _ _ _ (by rfl) (by rfl) (by rfl) he56 (wStep yo n yc w7) ?_; rintro e w8 ⟨rfl, rfl⟩; refine ⟨_, rfl, ?_⟩; have ho8 := (((HTa.out.grew kd).did d7 (HTI.out.grew kd)).grew ((Kept.refl Nought w8).alloc (.cells #[.slice yo n yc] 23))).1)
        | (refine step_append_lies _ (by rfl) _ _ _ (by rfl) W.heap.size 23 j0 _ 1 24 Tryz.underlying35 hj0 hy0 hy1 hy2 rfl (by omega) _ _ _ (by rfl) ho8 ⟨w8.heap.size, 0, none⟩ 1 1 [.slice yo n yc] (by rfl) (by rfl) (new1_cells w8 _ _) (by simp [Value.oneCell']) (by omega) (by unfold maxLen; have := HN.out; omega) (by have := HN.out; omega) (by have := HD.out.size; have := d7.size; simp; simp at this; omega) (w8.heap.size + 1) (by simp) ?_; intro gg c' w9 ho9 hg9 hat9 hgl9))
      all_goals
        have ka : Kept Nought w8 (w8.alloc (.cells #[.slice yo n yc] 23)) := (Kept.refl Nought w8).alloc _
        have t8 := ((HTa.out.grew kd).did d7 (HTI.out.grew kd)).grew ka
        have hA8 : MonAt (w8.alloc (.cells #[.slice yo n yc] 23)) (.slice yo n yc) n V (X ^ N) := by
          have := hA7.grew ka
          rw [HJ.out, ← Nat.pow_succ] at this
          rw [HN.out]
          exact this
        have hF8 : Fresh W (.slice yo n yc) := fun b hb => Nat.le_trans HD.out.size (hF7 b hb)
        have T9 := toHid (t8.push hA8 hF8 ho9 hg9)
        have dd := ((HD.out.grew kd).trans d7).grew ka
        rw [← powEv8_succ] at dd
        have hti9 := (dd.room (k := 0) (HT.out.less (by have := powEv8_len HF1.out (k + 1); omega))).1
        have kg : Kept (fun b => b = g) (w8.alloc (.cells #[.slice yo n yc] 23)) w9 := (Kept.refl _ _).grown hg9 (fun b e _ => by
          have e' : g = b := by simpa [Value.ownBlock] using e
          exact e'.symm)
        have D9 := toHid (dd.wroteNew kg (World.ownsRow.lt t8.1 g rfl).1 (ownN_apart t8.1 hti9 g rfl))
        clear ka t8 hA8 hF8 dd hti9 kg ho8 ho9 hg9 hat9 hgl9 hA7 hF7 d7 hMul q0 q1 q2 hcJ
        go_wp2_with fail
        go_roundw
        case rel => exact ⟨k + 1, N + 1, gg, c', o7, by omega, by go_num, rfl, by have := HN.out; unfold Hid; omega, ⟨_, _, T9.out⟩, D9.out⟩
        case measure => simp [intOf]; omega
    · have gk : ¬ (k : Int) < 14 := by omega
      obtain rfl : k = 14 := by omega
      obtain rfl : N = 16 := HN.out
      obtain ⟨A, C, hTab⟩ := HTb.out
      have HTab := toHid hTab
      clear hTab HTb
      go_wp2_with fail
      go_ret
      exact ⟨_, _, rfl, ⟨A, C, HTab.out.after HK0.out⟩, o1, Did.after HK0.out HD.out⟩

end Go.Proofs.YtoieghgaahfciaaGreat
