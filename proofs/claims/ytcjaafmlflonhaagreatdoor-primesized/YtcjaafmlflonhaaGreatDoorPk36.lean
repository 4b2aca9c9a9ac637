/- Put together of: Lsc6 Mir6. -/
import Derived.Test.YtcjaafmlflonhaaGreatDoorPk27
import Derived.Test.YtcjaafmlflonhaaGreatDoorPk30
import Derived.Test.YtcjaafmlflonhaaGreatDoorPk35

/- Scripts: both sides' Below of any number; one script stands while another is read. -/
namespace Go.Proofs.YtcjaafmlflonhaaGreatDoor
open Go.RowKit

theorem belX_bad {xs bs : List Nat} (h : 300 < xs.length ∨ val 18446744073709551616 xs < 2) : belX xs bs = [] ∧ belK xs bs = 0 ∧ belR xs bs = bs := by
  have e : belE xs bs ≠ 0 := by
    unfold belE
    split
    · omega
    · next h1 =>
      rw [if_pos (by omega)]
      omega
  exact ⟨if_neg e, if_neg e, if_pos h⟩

/-- Below, of any number: the answer lies in new memory. -/
theorem xBelowNew (p : Option Addr) (B : Nat) (bs xs : List Nat) (v : Value) (w : World) (h : Lsc w p B bs) (hB : B ≤ w.heap.size) (hbd : Digs 256 bs) (hv : Row .u64 w v xs) (hd : Digs 18446744073709551616 xs) (hl : xs.length ≤ 1000000) :
    Calls Tryz.prog 108 #[.pointer p, v] w fun e w' => ∃ u, e = .returned (.tuple #[u, .int .i64 (belK xs bs : Nat), .int .i64 (belE xs bs : Nat)]) ∧ (Row .u64 w' u (belX xs bs) ∧ ∀ b, u.ownBlock = some b → w.heap.size ≤ b) ∧ Lsc w' p B (belR xs bs) ∧ Kept (ofP p) w w' := by
  by_cases hb : 300 < xs.length ∨ val 18446744073709551616 xs < 2
  · obtain ⟨e1, e2, e3⟩ := belX_bad (bs := bs) hb
    rw [e1, e2, e3]
    refine (xBelowBad p B bs xs v w h hv hd hl hb).mono ?_
    rintro e w' ⟨rfl, h1, k1⟩
    exact ⟨_, rfl, ⟨Row.nil _ _, (fun b hb => by cases hb)⟩, h1, k1.any⟩
  · exact xBelowF p B bs xs v w h hB hbd hv hd (by omega) (by omega)

/-- Numbers of some words, or bytes, lie apart from a plain script. -/
theorem ScrAt.apart {k : IntKind} {w : World} {b B : Nat} {bs xs : List Nat} {v : Value} (h : ScrAt w b B bs) (hv : Row k w v xs) (hx : xs ≠ []) : v.ownBlock ≠ some b := by
  obtain ⟨u, h, _⟩ := h
  refine row_apart h.1 ?_ hv hx
  obtain ⟨_, _, rfl, _⟩ := h.2.1
  intro y hy z
  simp at hy
  rw [hy]
  simp

theorem ofP_some {a y : Nat} (h : ofP (some ⟨a, 0, none⟩) y) : y = a := (Option.some.inj h).symm

/-- A script stands while another is read. -/
theorem Lsc.other {w w' : World} {p q : Option Addr} {B C : Nat} {bs cs : List Nat} (h : Lsc w q C cs) (hp : Lsc w p B bs) (k : Kept (ofP p) w w') (hne : ∀ x, ofP p x → ofP q x → False) : Lsc w' q C cs := by
  rcases h with h | ⟨b, v, ps, pl, rfl, e, h1, h2, h3⟩
  · exact .inl h
  · exact .inr ⟨b, v, ps, pl, rfl, e, (k.block b (lt_of_block h1) (fun f => hne b f rfl)).trans h1, h2.kept' k (fun hx => hp.apart h2 hx), h3⟩

theorem ScrAt.noP {w : World} {p : Option Addr} {b B C : Nat} {bs cs : List Nat} (h : ScrAt w b C cs) (hp : Lsc w p B bs) : ¬ ofP p b := by
  obtain ⟨v, ⟨h1, _⟩, _⟩ := h
  intro f
  rcases hp with ⟨rfl, _⟩ | ⟨b', v', ps, pl, rfl, e, h3, _⟩
  · cases f
  · cases f
    have h3' : w.heap[b']? = some (.cells #[v', .int .i64 (pl : Nat)] 50 (0, 0)) := h3
    rw [h3'] at h1
    cases h1

/-- A plain script stands while a script is read, and the other way round. -/
theorem ScrAt.other {w w' : World} {p : Option Addr} {b B C : Nat} {bs cs : List Nat} (h : ScrAt w b C cs) (hp : Lsc w p B bs) (k : Kept (ofP p) w w') : ScrAt w' b C cs := by
  have hn := h.noP hp
  obtain ⟨v, h1, h2, h3⟩ := h
  exact ⟨v, h1.kept k hn (fun hx => hp.apart h1.2.1 hx), h2, h3⟩

theorem Lsc.plain {w w' : World} {p : Option Addr} {b B C : Nat} {bs cs : List Nat} (hp : Lsc w p B bs) (h : ScrAt w b C cs) (k : Kept (fun x => x = b) w w') : Lsc w' p B bs := by
  have hn := h.noP hp
  rcases hp with h' | ⟨b', v, ps, pl, rfl, e, h1, h2, h3⟩
  · exact .inl h'
  · refine .inr ⟨b', v, ps, pl, rfl, e, (k.block b' (lt_of_block h1) (fun f => hn (by rw [f]; rfl))).trans h1, h2.kept' k (fun hx x ex f => h.apart h2 hx (by rw [ex, f])), h3⟩

set_option maxRecDepth 20000 in
set_option maxHeartbeats 1000000 in
/-- Left, as a region that draws asks it. -/
theorem xLeftD (p : Option Addr) (B : Nat) (bs : List Nat) (w : World) (h : Lsc w p B bs) :
    Calls Tryz.prog 9 #[.pointer p] w fun e w' => e = .returned (.int .i64 (bs.length : Nat)) ∧ ∃ m, w' = w.drewN m := by
  rcases h with ⟨rfl, rfl⟩ | ⟨b, v, ps, k, rfl, rfl, h⟩
  · go_enter Tryz.func9, Tryz.ntmps9
    go_wp2_with fail
    go_ret
    exact ⟨rfl, 0, rfl⟩
  · obtain ⟨c0, c1⟩ := h.cells
    obtain ⟨ao, L, cap, rfl, hL, hLc, hcm, hnn, hnum⟩ := h.2.1.open
    have hk : k ≤ L := by rw [← hL.out]; exact h.2.2.1
    have hLb : L ≤ 1000000 := by rw [← hL.out]; exact h.2.2.2.1
    have e1 : (ps.drop k).length = L - k := by rw [List.length_drop, hL.out]
    rw [e1]
    obtain ⟨d, hd⟩ : ∃ d, d = L - k := ⟨_, rfl⟩
    rw [← hd]
    have g1 : (L : Int) - (k : Int) = (d : Int) := by omega
    clear hd e1 hnum h hnn
    go_enter Tryz.func9, Tryz.ntmps9
    go_wp2_with fail
    go_quiet (fail)
    go_wp2_with fail
    go_ret
    exact ⟨rfl, _, rfl⟩

/-- A plain script that is made of bytes. -/
theorem scrNew {w : World} {o : Option Addr} {l c : Nat} {bs : List Nat} (h : Row .u8 w (.slice o l c) bs) : ScrAt (w.alloc (.cells #[.slice o l c] 29)) w.heap.size (w.heap.size + 1) bs := by
  have hlt := h.lt
  have k : Kept Nought w (w.alloc (.cells #[.slice o l c] 29)) := (Kept.refl _ _).alloc _
  refine ⟨_, ⟨heap_alloc_new _ _, h.grew k, fun e x hx => ?_⟩, by omega, fun e x hx => ?_⟩
  · have := hlt e x hx
    omega
  · have := hlt e x hx
    omega

end Go.Proofs.YtcjaafmlflonhaaGreatDoor


/- Package miller: drawn. -/
namespace Go.Proofs.YtcjaafmlflonhaaGreatDoor
open Go.RowKit

theorem Num17.scr {w w' : World} {X : Nat} {ao bo lo oo : Option Addr} {n mc rc lc oc K s : Nat} {p : Option Addr} {B : Nat} {cs : List Nat} (h : Num17 w X ao bo lo oo n mc rc lc oc K s) (hs : Lsc w p B cs) (k : Kept (ofP p) w w') : Num17 w' X ao bo lo oo n mc rc lc oc K s :=
  ⟨⟨RowT.none (h.mod.hm.1.kept' k (fun hne => hs.apart h.mod.hm.1 hne)), RowT.none (h.mod.hr.1.kept' k (fun hne => hs.apart h.mod.hr.1 hne)), h.mod.hmd, h.mod.hrd, h.mod.hK, h.mod.ok⟩, h.last.kept' k (fun hne => hs.apart h.last hne), h.odd.kept' k (fun hne => hs.apart h.odd hne), h.tz, h.big, h.par, h.fit, h.n0, h.nb, h.sb⟩

/-- What Rounds comes to behind a base x that was drawn, with the bytes cs left. -/
def RndNext (xs : List Nat) (X k i : Nat) (acc : List (List Nat)) (r : Bool × List (List Nat) × Nat × List Nat) (x cs : List Nat) : Prop :=
  (x.length = xs.length ∧ Digs 18446744073709551616 x ∧ 1 < val 18446744073709551616 x ∧ val 18446744073709551616 x < X - 1) ∧ ∃ f, cs.length < f ∧ (if strongB X (val 18446744073709551616 x) then rndF xs k f (i + 1) cs (acc ++ [x]) else (false, acc ++ [x], 0, cs)) = r

/-- What drawn answers. -/
def DrwAns (xs : List Nat) (X k i : Nat) (acc : List (List Nat)) (r : Bool × List (List Nat) × Nat × List Nat) (p : Option Addr) (B : Nat) (cs : List Nat) (w : World) (e : Ending) (w' : World) : Prop :=
  (∃ v x ds, e = .returned v ∧ (Row .u64 w' v x ∧ ∀ b, v.ownBlock = some b → w.heap.size ≤ b) ∧ RndNext xs X k i acc r x ds ∧ Lsc w' p B ds ∧ Digs 256 ds ∧ ds.length < cs.length ∧ Kept (ofP p) w w') ∨
  (∃ (E : Nat) (ds : List Nat), e = .panicked [refusal (E : Nat)] ∧ E ≠ 0 ∧ (false, [], E, ds) = r ∧ Lsc w' p B ds ∧ Kept (ofP p) w w')

set_option maxRecDepth 40000 in
set_option maxHeartbeats 4000000 in
/-- drawn. -/
theorem yDrawn (ao bo lo oo co p : Option Addr) (n mc rc lc oc K s X L cap B k i f : Nat) (xs cs : List Nat) (acc : List (List Nat)) (r : Bool × List (List Nat) × Nat × List Nat) (hX : X = val 18446744073709551616 xs) (hik : i < k) (hf : cs.length < f) (hr : rndF xs k f i cs acc = r) (w : World)
    (h : Num17 w X ao bo lo oo n mc rc lc oc K s) (hu : Row .u64 w (.slice co L cap) xs) (hd : Digs 18446744073709551616 xs) (hL : L ≤ 1000000) (hs : Lsc w p B cs) (hB : B ≤ w.heap.size) (hcd : Digs 256 cs) :
    Calls Tryz.prog 74 #[.agg (numV ao bo lo oo n mc rc lc oc K s), .pointer p, .slice co L cap] w fun e w' => DrwAns xs X k i acc r p B cs w e w' := by
  obtain ⟨W, hW⟩ : ∃ W, W = w.alloc (.cells (numV ao bo lo oo n mc rc lc oc K s) 111) := ⟨_, rfl⟩
  have k0 : Kept Nought w W := by rw [hW]; exact (Kept.refl Nought w).alloc _
  have hx0 : W.heap[w.heap.size]? = some (.cells (numV ao bo lo oo n mc rc lc oc K s) 111 (0, 0)) := by rw [hW]; exact heap_alloc_new _ _
  have HOP : Hid (∀ x, ofP p x → x < B) := fun x hx => (hs.inP hx).1
  have hnb : ¬ ofP p w.heap.size := fun e => by have := HOP.out _ e; omega
  have JC : Hid (∀ W', Kept (ofP p) W W' → W'.cell? ⟨w.heap.size, 0, none⟩ = some (.slice ao n mc) ∧ W'.cell? ⟨w.heap.size, 1, none⟩ = some (.int .u64 (K : Nat)) ∧ W'.cell? ⟨w.heap.size, 2, none⟩ = some (.slice bo n rc) ∧ W'.cell? ⟨w.heap.size, 3, none⟩ = some (.slice lo n lc) ∧ W'.cell? ⟨w.heap.size, 4, none⟩ = some (.slice oo n oc) ∧ W'.cell? ⟨w.heap.size, 5, none⟩ = some (.int .i64 (s : Nat))) := fun W' k => cells6 ((k.block _ (lt_of_block hx0) hnb).trans hx0)
  obtain ⟨_, _, _, e1, hLx, _⟩ := hu.open
  cases e1
  have HLX := toHid hLx.out
  have hX3 := h.big
  have hxne : xs ≠ [] := fun e => by
    rw [e] at hX
    have h9 : val 18446744073709551616 [] = 0 := rfl
    omega
  have HSW := toHid (hs.grew k0)
  have HS0 := toHid (hs.grew k0)
  have HNW := toHid (h.grew k0)
  have HUW := toHid (hu.grew k0)
  have HUP : Hid (∀ W', Kept (ofP p) W W' → Row .u64 W' (.slice co L cap) xs) := fun W' k => HUW.out.kept' k (fun hne => HSW.out.apart HUW.out hne)
  have HNP : Hid (∀ W', Kept (ofP p) W W' → Num17 W' X ao bo lo oo n mc rc lc oc K s) := fun W' k => HNW.out.scr HSW.out k
  have HW := toHid hW
  have HK0 := toHid k0
  have HBW : Hid (B ≤ W.heap.size) := Nat.le_trans hB k0.size
  have HR := toHid hr
  have HX := toHid hX
  have HCD := toHid hcd
  have HF := toHid hf
  unfold numV at HW ⊢
  clear hW k0 hx0 hnb hLx h hu hs hr hX hcd hf HSW HNW HUW
  go_enter Tryz.func74, Tryz.ntmps74
  go_wp2_with (rw [← HW.out])
  go_loopw [] (fun wr => ∃ (ds : List Nat) (g : Nat), Hid (ds.length < g) ∧ ds.length ≤ cs.length ∧ Hid (rndF xs k g i ds acc = r) ∧ Hid (Lsc wr p B ds) ∧ Hid (Digs 256 ds) ∧ Hid (Kept (ofP p) W wr)) (fun wr => lscLen p wr)
  case atStart => exact ⟨cs, f, HF.out, Nat.le_refl _, HR.out, HS0.out, HCD.out, Kept.refl _ _⟩
  case round =>
    clear HF HR
    obtain ⟨ds, g, hdg, hdc, heq, hsc, hdd, hkp⟩ := hrel
    obtain ⟨g', rfl⟩ : ∃ g', g = g' + 1 := ⟨g - 1, by have := hdg.out; omega⟩
    have HLEN := toHid hsc.out.left
    have heq' := heq.out
    unfold rndF at heq'
    rw [if_neg (by omega)] at heq'
    have hBl := xBelowNew p B ds xs (.slice co L cap) wr hsc.out (Nat.le_trans HBW.out hkp.out.size) hdd.out (HUP.out _ hkp.out) hd (by rw [HLX.out]; exact hL)
    by_cases hE0 : belE xs ds = 0
    · rw [if_neg (by omega)] at heq'
      have hlt := bel_less hE0
      have hxl := bel_len hE0
      have hxd : Digs 18446744073709551616 (belX xs ds) := by unfold belX; rw [if_pos hE0]; exact digs_digs (by omega) _ _
      have hrd : Hid (Digs 256 (belR xs ds)) := by
        obtain ⟨m, hm⟩ := bel_rest xs ds
        unfold Hid
        rw [hm]
        exact hdd.out.drop m
      have hval := bel_val hd hE0
      rw [← HX.out] at hval heq'
      rw [hE0] at hBl
      generalize belK xs ds = kk at *
      generalize belX xs ds = x at *
      generalize belR xs ds = ds' at *
      clear hE0 heq
      have HXL := toHid hxl
      have HVAL := toHid hval
      have HEQ := toHid heq'
      have HLT := toHid hlt
      have HXD := toHid hxd
      clear hxl hval heq' hlt hxd
      go_wp2_with fail
      refine hBl.mono ?_
      rintro e w1 ⟨u, rfl, ⟨hru, hnu⟩, hs1, k1⟩
      obtain ⟨uo, un, uc, rfl, _⟩ := hru.open
      have K1 := hkp.out.trans k1
      have hRf := yRefuseNo 0 w1
      have HS1 := toHid hs1
      have HRU := toHid hru
      have HNU : Hid (∀ b, (Value.slice uo un uc).ownBlock = some b → w.heap.size ≤ b) := fun b hb => by have h1 := hnu b hb; have h2 := HK0.out.size; have h3 := hkp.out.size; omega
      clear hBl hs1 hru hnu k1
      go_wp2_with fail
      refine hRf.mono ?_
      rintro e w2 ⟨rfl, rfl⟩
      obtain ⟨p0, p1, p2, p3, p4, p5⟩ := JC.out _ K1
      have hM := yMay ao bo lo oo uo n mc rc lc oc K s X un uc x _ rfl w2 (HNP.out _ K1) HRU.out HXD.out
      unfold numV at hM
      obtain ⟨a, ha⟩ : ∃ a, a = val 18446744073709551616 x := ⟨_, rfl⟩
      rw [← ha] at hM HVAL HEQ
      have HA := toHid ha
      clear hRf ha
      have hval := HVAL.out
      by_cases hin : 1 < a ∧ a < X - 1
      · rw [decide_eq_true hin] at hM
        have HNX : Hid (RndNext xs X k i acc r x ds') := by
          refine ⟨⟨HXL.out, HXD.out, by rw [← HA.out]; exact hin.1, by rw [← HA.out]; exact hin.2⟩, g', by have := hdg.out; have := HLT.out; omega, ?_⟩
          have h1 := HEQ.out
          rw [if_neg (by omega)] at h1
          rw [← HA.out]
          exact h1
        clear hin hval
        go_wp2_with fail
        refine hM.mono ?_
        rintro e w3 ⟨rfl, k3⟩
        have K3 := toHid (K1.trans k3.any)
        have HS3 := toHid (HS1.out.grew k3)
        have HR3 := toHid (HRU.out.grew k3)
        clear hM k3 p0 p1 p2 p3 p4 p5 K1
        go_wp2_with fail
        go_ret
        exact .inl ⟨_, x, ds', rfl, ⟨HR3.out, HNU.out⟩, HNX.out, HS3.out, hrd.out, by have := HLT.out; omega, HK0.out.any.trans K3.out⟩
      · rw [decide_eq_false hin] at hM
        have HEQ2 : Hid (rndF xs k g' i ds' acc = r) := by
          have h1 := HEQ.out
          rw [if_pos (by omega)] at h1
          exact h1
        clear hin hval
        go_wp2_with fail
        refine hM.mono ?_
        rintro e w3 ⟨rfl, k3⟩
        have K3 := toHid (K1.trans k3.any)
        have HS3 := toHid (HS1.out.grew k3)
        have HM3 : Hid (lscLen p w3 < lscLen p wr) := by unfold Hid; rw [HS3.out.left, HLEN.out]; exact HLT.out
        have HG3 : Hid (ds'.length < g') := by unfold Hid; have := hdg.out; have := HLT.out; omega
        have hdc3 : ds'.length ≤ cs.length := by have := HLT.out; omega
        clear hM k3 p0 p1 p2 p3 p4 p5 K1
        go_wp2_with fail
        go_roundw
        case rel => exact ⟨ds', g', HG3, hdc3, HEQ2, HS3, hrd, K3⟩
        case measure => exact HM3.out
    · rw [if_pos hE0] at heq'
      have hE1 : ¬ ((belE xs ds : Nat) : Int) = 0 := by omega
      generalize hEE : belE xs ds = EE at *
      generalize belK xs ds = kk at *
      generalize belX xs ds = x at *
      generalize belR xs ds = ds' at *
      clear hEE
      have HEQ := toHid heq'
      have HE0 := toHid hE0
      have hRf : ∀ W, Calls Tryz.prog 72 #[.bool true, .int .i64 (EE : Int)] W fun e w' => e = .panicked [refusal (EE : Nat)] ∧ w' = W := fun W => yRefuseYes (EE : Int) W
      clear heq' heq hE0
      go_wp2_with fail
      refine hBl.mono ?_
      rintro e w1 ⟨u, rfl, ⟨hru, hnu⟩, hs1, k1⟩
      obtain ⟨uo, un, uc, rfl, _⟩ := hru.open
      have K1 := toHid (hkp.out.trans k1)
      have HS1 := toHid hs1
      have hRw := hRf w1
      clear hBl hs1 hru hnu k1 hRf
      go_wp2_with fail
      rw [show ((EE : Int) != 0) = true by have := HE0.out; simp; omega]
      refine hRw.mono ?_
      rintro e w2 ⟨rfl, rfl⟩
      exact ⟨rfl, .inr ⟨EE, ds', rfl, HE0.out, HEQ.out, HS1.out, HK0.out.any.trans K1.out⟩⟩

end Go.Proofs.YtcjaafmlflonhaaGreatDoor

