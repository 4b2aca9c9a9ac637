/- Put together of: Pri4 Pri7. -/
import Derived.Test.YtcjaafmlflonhaaGreatDoorPk46
import Derived.Test.YtcjaafmlflonhaaGreatDoorPk47
import Derived.Deep.RegionHeld3

/- Package prime: the candidates of a script, as a range over a function hands them out. -/
namespace Go.Proofs.YtcjaafmlflonhaaGreatDoor
open Go.RowKit Go.Shelf

attribute [local go_sem] Oper.semAt_some

/-- The draw stands at its k-th candidate, with the bytes ds left. -/
def Nxt (n e r : Nat) (bs : List Nat) (k : Nat) (ds : List Nat) : Prop := ∃ f, f + k = 100001 ∧ ∀ o, DrawR n e r f ds k o → DrawR n e r 100000 bs 1 o

theorem Nxt.first (n e r : Nat) (bs : List Nat) : Nxt n e r bs 1 bs := ⟨100000, rfl, fun _ h => h⟩

theorem Nxt.many {n e r k : Nat} {bs ds : List Nat} (h : Nxt n e r bs k ds) (hk : k = 100001) : DrawR n e r 100000 bs 1 ([], 0, 180, ds) := by
  obtain ⟨f, h1, h2⟩ := h
  obtain rfl : f = 0 := by omega
  exact h2 _ rfl

theorem Nxt.some {n e r k : Nat} {bs ds : List Nat} (h : Nxt n e r bs k ds) (hk : k ≤ 100000) : ∃ f, f + (k + 1) = 100001 ∧ ∀ o, DrawR n e r (f + 1) ds k o → DrawR n e r 100000 bs 1 o := by
  obtain ⟨f, h1, h2⟩ := h
  obtain ⟨f', rfl⟩ : ∃ f', f = f' + 1 := ⟨f - 1, by omega⟩
  exact ⟨f', by omega, h2⟩

theorem Nxt.spent {n e r k : Nat} {bs ds : List Nat} (h : Nxt n e r bs k ds) (hk : k ≤ 100000) (hl : ds.length < (n + 7) / 8) : DrawR n e r 100000 bs 1 ([], 0, 150, []) := by
  obtain ⟨f, _, h2⟩ := h.some hk
  exact h2 _ (.inl ⟨hl, rfl⟩)

theorem Nxt.bad {n e r k : Nat} {bs ds : List Nat} (h : Nxt n e r bs k ds) (hk : k ≤ 100000) (hl : (n + 7) / 8 ≤ ds.length) (hg : ¬ goodN (candN (ds.take ((n + 7) / 8)) n) e) : Nxt n e r bs (k + 1) (ds.drop ((n + 7) / 8)) := by
  obtain ⟨f, h1, h2⟩ := h.some hk
  exact ⟨f, h1, fun o ho => h2 o (.inr (.inl ⟨by omega, hg, ho⟩))⟩

theorem Nxt.good {n e r k : Nat} {bs ds : List Nat} {is : Bool} {ls : List (List Nat)} {E : Nat} {rest : List Nat} (h : Nxt n e r bs k ds) (hk : k ≤ 100000) (hl : (n + 7) / 8 ≤ ds.length) (hg : goodN (candN (ds.take ((n + 7) / 8)) n) e) (hr : rndAll (candL ds n) (r : Int) (ds.drop ((n + 7) / 8)) = (is, ls, E, rest)) :
    (E ≠ 0 → DrawR n e r 100000 bs 1 ([], 0, E, rest)) ∧ (E = 0 → is = true → DrawR n e r 100000 bs 1 (candL ds n, k, 0, rest)) ∧ (E = 0 → is = false → Nxt n e r bs (k + 1) rest) := by
  obtain ⟨f, h1, h2⟩ := h.some hk
  refine ⟨fun hE => ?_, fun hE hi => ?_, fun hE hi => ⟨f, h1, fun o ho => ?_⟩⟩
  · exact h2 _ (.inr (.inr ⟨by omega, hg, is, ls, E, rest, hr, .inl ⟨hE, rfl⟩⟩))
  · exact h2 _ (.inr (.inr ⟨by omega, hg, is, ls, E, rest, hr, .inr (.inl ⟨hE, hi, rfl⟩)⟩))
  · exact h2 _ (.inr (.inr ⟨by omega, hg, is, ls, E, rest, hr, .inr (.inr ⟨hE, hi, ho⟩)⟩))

/-- Between two candidates. -/
def CSt (p : Option Addr) (B n e r : Nat) (bs : List Nat) (s : Nat × List Nat) (A : World) : Prop := Lsc A p B s.2 ∧ Digs 256 s.2 ∧ Nxt n e r bs s.1 s.2 ∧ s.1 ≤ 100001

/-- What is handed out. -/
def CX (p : Option Addr) (B n e r : Nat) (bs : List Nat) (N : Nat) (s : Nat × List Nat) (x : Nat × Value) (A : World) : Prop :=
  x.1 = s.1 ∧ s.1 ≤ 100000 ∧ (n + 7) / 8 ≤ s.2.length ∧ Nxt n e r bs s.1 s.2 ∧ Digs 256 s.2 ∧ (Row .u64 A x.2 (candL s.2 n) ∧ ∀ b, x.2.ownBlock = some b → N ≤ b) ∧ Lsc A p B (s.2.drop ((n + 7) / 8))

/-- How it ends by an error. -/
def PanR (p : Option Addr) (B n e r : Nat) (bs : List Nat) (ch : List PanicEntry) (A : World) : Prop := ∃ E R, ch = [refusal ((E : Nat) : Int)] ∧ E ≠ 0 ∧ DrawR n e r 100000 bs 1 ([], 0, E, R) ∧ Lsc A p B R

theorem CX.put {p : Option Addr} {B n e r l N : Nat} {bs : List Nat} {s : Nat × List Nat} {x : Nat × Value} {A : World} {o : Obj} (o' : Obj) (h : CX p B n e r bs N s x A) (hl : A.heap[l]? = some o) (ho : o.isCells = false) : CX p B n e r bs N s x (A.putObj l o') :=
  ⟨h.1, h.2.1, h.2.2.1, h.2.2.2.1, h.2.2.2.2.1, ⟨row_put o' h.2.2.2.2.2.1.1 hl ho, h.2.2.2.2.2.1.2⟩, h.2.2.2.2.2.2.put o' hl ho⟩

/-- A call that comes up alone in a region that draws, and may panic. -/
theorem wpAnyH_callP {P : Program} {md : Region.Mode} {ops : Array Oper} {Q : Exit → Act → World → Prop} {S : World → Prop} {fuel : Nat} {listed : Array Bool} {a : Act} {w : World} (i : Nat) {o : Oper} (hr : Region.ready md ops listed = [i]) (hi : ops[i]? = some o) (hg : o.guard = none) (f : Nat) (args : List Operand) (tys : Array TypeId) (vals : List Value)
    (ho : o.op = .call { callee := .value (.func f), args := args.toArray, argTypes := tys }) (hv : args.map a.eval = vals) (he : ∀ args w, (callFunc f args).run P w = .ok (.enter f args) w) {R : Ending → World → Prop} (hc : Calls P f vals.toArray w R)
    (h : ∀ e w', R e w' → (∃ v, e = .returned v ∧ S w' ∧ wpAnyH P md ops Q S fuel (listed.setIfInBounds i true) (a.put o.dst v) w') ∨ ∃ ch, e = .panicked ch ∧ Q (.panic ch) a w') :
    wpAnyH P md ops Q S (fuel + 1) listed a w := by
  refine wpAnyH_all hr (by simp) fun j hj => ?_
  obtain rfl : j = i := by simpa using hj
  have hw : Region.wanted o (yielded ops a.tmps) = true := by simp [Region.wanted, hg]
  unfold wpOp
  rw [hi]
  dsimp only
  rw [if_pos hw]
  refine .inl ?_
  have hc2 : Calls P f vals.toArray w fun
      | .returned v, w'' => S w'' ∧ wpAnyH P md ops Q S fuel (listed.setIfInBounds j true) (a.put o.dst v) w''
      | .panicked chain, w'' => Q (.panic chain) a w''
      | .outgrown, _ => LetsOut Q := hc.mono (fun e w' r => by
    rcases h e w' r with ⟨v, rfl, hk⟩ | ⟨ch, rfl, hk⟩
    · exact hk
    · exact hk)
  unfold Oper.wp
  simp [execOp, ho, resolve, invoke, hv, he, go_sem]
  exact hc2

set_option maxRecDepth 100000 in
set_option maxHeartbeats 2000000 in
/-- candidates' value, as a range over it wants it. -/
theorem oCands1 (m : Nat) (hm : 1 ≤ m) (p : Option Addr) (B n e_ r bp bb : Nat) (bs : List Nat) (w : World) (hn : 16 ≤ n) (hn2 : n ≤ 4096)
    (hsc : Lsc w p B bs) (hp : Boxed w bp 25 (.pointer p)) (hb : Boxed w bb 3 (.int .i64 (n : Nat))) (hB : B ≤ w.heap.size) (lp : B ≤ bp) (lb : B ≤ bb) :
    SeqP m Tryz.prog 36 #[.pointer (some ⟨bp, 0, none⟩), .pointer (some ⟨bb, 0, none⟩)] (fun x : Nat × Value => #[.int .i64 (x.1 : Nat), x.2]) (CX p B n e_ r bs w.heap.size) (CSt p B n e_ r bs) (fun s s' => s'.1 = s.1 + 1) (fun _ => PanR p B n e_ r bs) (ofP p) (1, bs) w := by
  rintro l J Jx Jp W hkW hlW hsW hJ hY h0 hS0
  have ltp := hp.lt
  have ltb := hb.lt
  have HP0 := toHid (boxed_grew hp hkW)
  have HQ0 := toHid (boxed_grew hb hkW)
  have HH0 := toHid h0
  have HS0 := toHid hS0
  have HOP : Hid (∀ x, ofP p x → x < B) := fun x hx => (hsc.inP hx).1
  have HLE : Hid (B ≤ w.heap.size ∧ B ≤ bp ∧ B ≤ bb ∧ bp < w.heap.size ∧ bb < w.heap.size ∧ l = w.heap.size + 1 ∧ W.heap.size = w.heap.size + 2) := ⟨hB, lp, lb, ltp, ltb, hlW, hsW⟩
  obtain ⟨z, hz⟩ : ∃ z, z = (n + 7) / 8 := ⟨_, rfl⟩
  have hzb : z ≤ 512 := by omega
  have HZ := toHid hz
  have JPA : ∀ W, Calls Tryz.prog 33 #[.int .i64 (n : Int), .int .i64 8] W fun e w' => e = .returned (.int .i64 (z : Int)) ∧ w' = W := fun W => pParts n 8 z (by omega) hn2 (by omega) (by omega) W
  clear hsc hp hb hkW h0 hS0 hB lp lb ltp ltb hlW hsW hz
  refine callsIn_of_wp Tryz.func36 rfl trivial ?_ rfl
  simp only [Tryz.ntmps36, List.size_toArray, List.length_cons, List.length_nil, Nat.reduceAdd, Nat.reduceSub, Array.replicate_succ, Array.replicate_zero, List.push_toArray, List.append_toArray, List.nil_append, List.cons_append]
  refine wpIn_wide.2 ?_
  go_wp2_with fail
  refine (wpIn_wide (n := m)).1 ?_
  gi_loopw [4] (fun iv wr => ∃ (k : Nat) (ds : List Nat), iv = .int .i64 ((k : Nat) : Int) ∧ k ≤ 100001 ∧ Hid (J wr) ∧ Hid (CSt p B n e_ r bs (k, ds) wr) ∧ Hid (Boxed wr bp 25 (.pointer p)) ∧ Hid (Boxed wr bb 3 (.int .i64 (n : Nat))) ∧ Hid (W.heap.size ≤ wr.heap.size)) (fun iv _ => 100002 - (intOf iv).toNat)
  case atStart => exact ⟨1, bs, rfl, by omega, HH0.out, HS0.out, HP0.out, HQ0.out, Nat.le_refl _⟩
  case round =>
    clear HH0 HS0 HP0 HQ0
    obtain ⟨k, ds, rfl, hk, HJ, HS, HPB, HQB, HSZ⟩ := hrel
    by_cases hk1 : k = 100001
    · subst hk1
      have hRf := oRefuseYes 180 wr
      have HJ' := HJ
      gi_wp2_with fail
      refine ⟨trivial, ?_⟩
      refine (callsIn_wide.2 hRf).mono ?_
      rintro e w3 ⟨rfl, rfl⟩
      exact ⟨rfl, .inr ⟨_, rfl, .inr ⟨(0, []), ⟨180, ds, rfl, by omega, HS.out.2.2.1.many rfl, HS.out.1⟩, HJ.out⟩⟩⟩
    · have hk2 : k ≤ 100000 := by omega
      have g1 : ¬ (k : Int) > 100000 := by omega
      have g1' : ¬ (100000 : Int) < (k : Int) := by omega
      have d1 : decide ((100000 : Int) < (k : Int)) = false := decide_eq_false g1'
      have hRf := oRefuseNo 180 wr
      have gk : IntKind.i64.wrap ((k : Int) + 1) = (k : Int) + 1 := by rw [IntKind.wrap_i64]; omega
      clear hk hk1
      gi_wp2_with fail
      refine ⟨trivial, ?_⟩
      try rw [d1]
      refine (callsIn_wide.2 hRf).mono ?_
      rintro e w3 ⟨rfl, rfl⟩
      clear hRf g1 g1' d1
      have cp := HPB.out.cell
      have cb := HQB.out.cell
      have hsc := HS.out.1
      have HK0 : Hid (Kept Nought w3 w3.drew) := (Kept.refl Nought w3).drew
      have J1 := xRead p B ds z w3.drew (hsc.grew HK0.out)
      clear hsc
      by_cases hlen : ds.length < z
      · have t1 : readE ds (z : Int) = 150 := by unfold readE; rw [if_neg (by omega), if_pos (by omega)]
        have t2 : readR ds (z : Int) = [] := by unfold readR; rw [if_neg (by omega)]; exact List.drop_of_length_le (by show _ ≤ ((z : Int)).toNat; omega)
        have t3 : readL ds (z : Int) = [] := by unfold readL; rw [t1]; rfl
        rw [t1, t2, t3] at J1
        have HD9 : Hid (DrawR n e_ r 100000 bs 1 ([], 0, 150, [])) := HS.out.2.2.1.spent hk2 (by show ds.length < _; have := HZ.out; omega)
        clear t1 t2 t3 hlen
        gi_wp2_with fail
        refine wpIn_wide.2 ?_
        have efn : ∀ f args w, f = 33 ∨ f = 38 ∨ f = 37 → (callFunc f args).run Tryz.prog w = .ok (.enter f args) w := fun f args w h => by
          rcases h with rfl | rfl | rfl <;> simp [go_sem]
        refine wp_region_held_drew (S := fun w' => w'.cell? ⟨bp, 0, none⟩ = some (.pointer p) ∧ w'.cell? ⟨bb, 0, none⟩ = some (.int .i64 (n : Int))) (by kernel_rfl) ⟨cp, cb⟩ (fun hS => ?_)
        refine wpAnyH_take (i := 0) (v := .pointer p) rfl (by kernel_rfl) (by kernel_rfl) (by kernel_rfl) (fun _ _ _ h => h) (.inl ⟨by rfl, fun w h => by simp [execOp, go_sem, h.1]⟩) hS ?_
        refine wpAnyH_take (i := 1) (v := .int .i64 (n : Int)) rfl (by kernel_rfl) (by kernel_rfl) (by kernel_rfl) (fun _ _ _ h => h) (.inl ⟨by rfl, fun w h => by simp [execOp, go_sem, h.2]⟩) hS ?_
        refine wpAnyH_callP 2 (by kernel_rfl) rfl rfl 33 _ _ [.int .i64 (n : Int), .int .i64 8] rfl rfl (fun _ _ => efn _ _ _ (.inl rfl)) (JPA _) ?_
        rintro e w4 ⟨rfl, rfl⟩
        refine .inl ⟨_, rfl, hS, ?_⟩
        refine wpAnyH_callP 3 (by kernel_rfl) rfl rfl 38 _ _ [.pointer p, .int .i64 (z : Int)] rfl rfl (fun _ _ => efn _ _ _ (.inr (.inl rfl))) J1 ?_
        rintro e w5 ⟨u, rfl, hO, h5, k5⟩
        obtain ⟨xo, xn, xc, rfl, _⟩ := hO.row.open
        have K5 := HK0.out.any.trans k5
        have HJ5 : Hid (J w5) := hJ _ _ HJ.out (K5.mono fun _ _ e => .inl e)
        have hS5 : w5.cell? ⟨bp, 0, none⟩ = some (.pointer p) ∧ w5.cell? ⟨bb, 0, none⟩ = some (.int .i64 (n : Int)) := ⟨(boxed_but HPB.out K5 (fun e => by have := HOP.out _ e; have := HLE.out; omega)).cell, (boxed_but HQB.out K5 (fun e => by have := HOP.out _ e; have := HLE.out; omega)).cell⟩
        refine .inl ⟨_, rfl, hS5, ?_⟩
        refine wpAnyH_take (i := 4) (v := .slice xo xn xc) rfl (by kernel_rfl) (by kernel_rfl) (by kernel_rfl) (fun _ _ _ h => h) (.inl ⟨by rfl, fun w h => by simp [execOp, go_sem]⟩) hS5 ?_
        refine wpAnyH_take (i := 5) (v := .int .i64 150) rfl (by kernel_rfl) (by kernel_rfl) (by kernel_rfl) (fun _ _ _ h => h) (.inl ⟨by rfl, fun w h => by simp [execOp, go_sem]⟩) hS5 ?_
        refine wpAnyH_callP 6 (by kernel_rfl) rfl rfl 37 _ _ [.slice xo xn xc, .int .i64 150] rfl rfl (fun _ _ => efn _ _ _ (.inr (.inr rfl))) (oStepBE xo xn xc 150 (by omega) w5) ?_
        rintro e w6 ⟨rfl, rfl⟩
        exact .inr ⟨_, rfl, rfl, .inr ⟨_, rfl, .inr ⟨(0, []), ⟨150, [], rfl, by omega, HD9.out, h5⟩, HJ5.out⟩⟩⟩
      · have t1 : readE ds (z : Int) = 0 := by unfold readE; rw [if_neg (by omega), if_neg (by omega)]
        have t2 : readR ds (z : Int) = ds.drop z := by unfold readR; rw [if_neg (by omega)]; rfl
        have t3 : readL ds (z : Int) = ds.take z := by unfold readL; rw [t1]; rfl
        rw [t1, t2, t3] at J1
        have hST := oStepB
        have HDS : Hid (Digs 256 ds) := HS.out.2.1
        have HZL : Hid (z ≤ ds.length) := by unfold Hid; omega
        clear t1 t2 t3 hlen
        gi_wp2_with fail
        refine wpIn_wide.2 ?_
        go_region_held3 (fun w' => w'.cell? ⟨bp, 0, none⟩ = some (.pointer p) ∧ w'.cell? ⟨bb, 0, none⟩ = some (.int .i64 (n : Int)))
          (((try dsimp only); (repeat' apply And.intro) <;> first | (go_keep; done) | assumption))
          (first
          | (go_at_call 37; refine (hST xo xn xc w5).mono ?_; rintro e w6 ⟨rfl, rfl⟩)
          | (go_at_call 38; refine J1.mono ?_; rintro e w5 ⟨u, rfl, hO, h5, k5⟩; have hR5 := hO.row; obtain ⟨xo, xn, xc, rfl, _⟩ := hO.row.open; have cp5 : w5.cell? ⟨bp, 0, none⟩ = some (.pointer p) := (boxed_but HPB.out (HK0.out.any.trans k5) (fun e => by have := HOP.out _ e; have := HLE.out; omega)).cell; have cb5 : w5.cell? ⟨bb, 0, none⟩ = some (.int .i64 (n : Int)) := (boxed_but HQB.out (HK0.out.any.trans k5) (fun e => by have := HOP.out _ e; have := HLE.out; omega)).cell)
          | (go_at_call 33; refine (JPA _).mono ?_; rintro e w4 ⟨rfl, rfl⟩))
        have K5 := toHid (HK0.out.any.trans k5)
        have HP5 := toHid (boxed_but HPB.out K5.out (fun e => by have := HOP.out _ e; have := HLE.out; omega))
        have HQ5 := toHid (boxed_but HQB.out K5.out (fun e => by have := HOP.out _ e; have := HLE.out; omega))
        have HJ5 := toHid (hJ _ _ HJ.out (K5.out.mono fun _ _ e => .inl e))
        have HS5 := toHid h5
        have hCd := pCand (.slice xo xn xc) (ds.take z) (n : Int) (by omega) (by omega) 0 (candL ds n) (by unfold candE; rw [if_neg]; have := HZL.out; have := HZ.out; rw [List.length_take]; omega) (by rw [if_pos rfl, Int.toNat_natCast, HZ.out]; rfl) w6 hR5 (HDS.out.take _)
        clear J1 hO h5 k5 hR5 cp cb cp5 cb5 JPA hST
        have cb6 := HQ5.out.cell
        gi_wp2_with fail
        refine ⟨trivial, ?_⟩
        refine (callsIn_wide.2 hCd).mono ?_
        rintro e w7 ⟨v7, rfl, r7, f7, k7⟩
        have hx7 : CX p B n e_ r bs w.heap.size (k, ds) (k, v7) w7 := ⟨rfl, hk2, by rw [← HZ.out]; exact HZL.out, HS.out.2.2.1, HDS.out, ⟨r7, fun b hb => by have h1 := f7 b hb; have h2 := K5.out.size; have h3 := HSZ.out; have h4 := HLE.out; omega⟩, by show Lsc w7 p B (ds.drop ((n + 7) / 8)); rw [← HZ.out]; exact HS5.out.grew k7⟩
        obtain ⟨fn, tmps, assign, body, hy, hR⟩ := hY (k, ds) (k, v7) w7 (hJ _ _ HJ5.out k7.any) hx7
        obtain ⟨xo', xn', xc', rfl, _⟩ := r7.open
        have hSN := oStepN xo' xn' xc' w7
        have HP7 := toHid (boxed_grew HP5.out k7)
        have HQ7 := toHid (boxed_grew HQ5.out k7)
        have HZ7 : Hid (W.heap.size ≤ w7.heap.size) := Nat.le_trans HSZ.out (Nat.le_trans K5.out.size k7.size)
        clear hCd r7 f7 hx7 k7 cb6
        gi_wp2_with fail
        refine ⟨trivial, ?_⟩
        refine (callsIn_wide.2 hSN).mono ?_
        rintro e w8 ⟨rfl, rfl⟩
        clear hSN
        gi_wp2_with fail
        refine hR.mono ?_
        rintro e w9 (⟨rfl, hJ9, ⟨⟨k', ds'⟩, hs1, hst⟩, k9⟩ | ⟨rfl, hJx⟩ | ⟨ch, rfl, hJp⟩)
        · have hs1' : k' = k + 1 := hs1
          subst hs1'
          have HBX : Hid (∀ x, B ≤ x → x < w.heap.size → ¬ (ofP p x ∨ x = l ∨ x + 1 = l)) := fun x h1 h2 h3 => by
            have h4 := HLE.out
            rcases h3 with h3 | h3 | h3
            · have := HOP.out _ h3
              omega
            · omega
            · omega
          have HP9 := toHid (boxed_but HP7.out k9 (HBX.out _ (by have := HLE.out; omega) (by have := HLE.out; omega)))
          have HQ9 := toHid (boxed_but HQ7.out k9 (HBX.out _ (by have := HLE.out; omega) (by have := HLE.out; omega)))
          have HJ9 := toHid hJ9
          have HS9 := toHid hst
          have HZ9 : Hid (W.heap.size ≤ w9.heap.size) := Nat.le_trans HZ7.out k9.size
          clear hR hy hJ9 hst k9 HP7 HQ7
          gi_wp2_with fail
          go_roundw
          case rel => exact ⟨k + 1, ds', by first | rfl | (rw [gk]; rfl), by omega, HJ9, HS9, HP9, HQ9, HZ9⟩
          case measure => simp [intOf]; omega
        · gi_wp2_with fail
          refine bodyPost_ret (results_none rfl _ _ _) rfl ?_
          exact .inl ⟨⟨_, rfl⟩, hJx⟩
        · exact ⟨rfl, .inr ⟨ch, rfl, .inl hJp⟩⟩

end Go.Proofs.YtcjaafmlflonhaaGreatDoor


/- What is drawn, as numbers. -/
namespace Go.Proofs.YtcjaafmlflonhaaGreatDoor
open Go.RowKit

/-- What a draw comes to: a good candidate, or nothing and an error. -/
theorem DrawR.tells {n e r : Nat} : ∀ {f : Nat} {bs : List Nat} {k : Nat} {P : List Nat} {K E : Nat} {R : List Nat}, DrawR n e r f bs k (P, K, E, R) →
    (E ≠ 0 ∧ P = [] ∧ K = 0) ∨ (E = 0 ∧ k ≤ K ∧ ∃ ds, P = candL ds n ∧ goodN (candN (ds.take ((n + 7) / 8)) n) e)
  | 0, bs, k, P, K, E, R, h => by
    have h' : (P, K, E, R) = ([], 0, 180, bs) := h
    simp only [Prod.mk.injEq] at h'
    obtain ⟨rfl, rfl, rfl, rfl⟩ := h'
    exact .inl ⟨by omega, rfl, rfl⟩
  | f + 1, bs, k, P, K, E, R, h => by
    rcases h with ⟨_, h2⟩ | ⟨_, _, h3⟩ | ⟨_, h2, is, ls, E', rest, _, h4⟩
    · simp only [Prod.mk.injEq] at h2
      obtain ⟨rfl, rfl, rfl, rfl⟩ := h2
      exact .inl ⟨by omega, rfl, rfl⟩
    · rcases DrawR.tells h3 with g | ⟨g1, g2, g3⟩
      · exact .inl g
      · exact .inr ⟨g1, by omega, g3⟩
    · rcases h4 with ⟨hE, h5⟩ | ⟨hE, _, h5⟩ | ⟨_, _, h5⟩
      · simp only [Prod.mk.injEq] at h5
        obtain ⟨rfl, rfl, rfl, rfl⟩ := h5
        exact .inl ⟨hE, rfl, rfl⟩
      · simp only [Prod.mk.injEq] at h5
        obtain ⟨rfl, rfl, rfl, rfl⟩ := h5
        exact .inr ⟨rfl, Nat.le_refl _, bs, rfl, h2⟩
      · rcases DrawR.tells h5 with g | ⟨g1, g2, g3⟩
        · exact .inl g
        · exact .inr ⟨g1, by omega, g3⟩

theorem candL_val (ds : List Nat) {n : Nat} (hn : 16 ≤ n) : val 18446744073709551616 (candL ds n) = candN (ds.take ((n + 7) / 8)) n := by
  unfold candL
  rw [val_digs]
  refine Nat.mod_eq_of_lt (Nat.lt_of_lt_of_le (candN_lt hn) ?_)
  rw [show (18446744073709551616 : Nat) = 2 ^ 64 from rfl, ← Nat.pow_mul]
  exact Nat.pow_le_pow_right (by omega) (by omega)

theorem candN_form (bs : List Nat) {n : Nat} (hn : 16 ≤ n) : ∃ m s, n = m + 2 ∧ candN bs n = 3 * 2 ^ m + s ∧ s < 2 ^ m ∧ s % 2 = 1 ∧ 2 ^ m % 2 = 0 := by
  obtain ⟨m, rfl⟩ : ∃ m, n = m + 2 := ⟨n - 2, by omega⟩
  have hr : bev bs % 2 ^ m < 2 ^ m := Nat.mod_lt _ (Nat.pow_pos (by omega))
  have h2 : 2 ^ m % 2 = 0 := by
    rw [show m = (m - 1) + 1 by omega, Nat.pow_succ]
    omega
  refine ⟨m, bev bs % 2 ^ m + (if bev bs % 2 ^ m % 2 = 0 then 1 else 0), rfl, ?_, ?_, ?_, h2⟩
  · unfold candN
    rw [show m + 2 - 2 = m by omega]
    omega
  · split <;> omega
  · split <;> omega

theorem candN_blen (bs : List Nat) {n : Nat} (hn : 16 ≤ n) : blen (candN bs n) = n := by
  obtain ⟨m, s, rfl, h1, h2, _, _⟩ := candN_form bs hn
  have e1 : 2 ^ (m + 1) = 2 * 2 ^ m := by rw [Nat.pow_succ]; omega
  have e2 : 2 ^ (m + 1 + 1) = 4 * 2 ^ m := by rw [Nat.pow_succ, e1]; omega
  refine blen_one (k := m + 1) (by rw [e2, h1]; omega) ?_
  have : candN bs (m + 2) / 2 ^ (m + 1) = 1 := by
    rw [e1, h1]
    exact Nat.div_eq_of_lt_le (by omega) (by omega)
  rw [this]
  decide

theorem candN_top (bs : List Nat) {n : Nat} (hn : 16 ≤ n) : bitN (candN bs n) ((n : Int) - 2) = 1 := by
  obtain ⟨m, s, rfl, h1, h2, _, _⟩ := candN_form bs hn
  unfold bitN
  rw [if_neg (by omega), show (((m + 2 : Nat) : Int) - 2).toNat = m by omega, h1]
  have : (3 * 2 ^ m + s) / 2 ^ m = 3 := Nat.div_eq_of_lt_le (by omega) (by omega)
  rw [this]

theorem candN_odd (bs : List Nat) {n : Nat} (hn : 16 ≤ n) : bitN (candN bs n) 0 = 1 := by
  obtain ⟨m, s, rfl, h1, _, h3, h4⟩ := candN_form bs hn
  unfold bitN
  rw [if_neg (by omega)]
  show candN bs (m + 2) / 2 ^ 0 % 2 = 1
  rw [Nat.pow_zero, Nat.div_one, h1]
  omega

end Go.Proofs.YtcjaafmlflonhaaGreatDoor

