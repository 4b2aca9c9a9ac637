/- Put together of: Iva4. -/
import Derived.Test.YtiljkgoafknefaaGreatPk24
import Derived.Test.YtiljkgoafknefaaGreatPk31
import Derived.Test.YtiljkgoafknefaaGreatPk32

/- Melted of: Ivn7 Ivn8. -/

/- Package inverse: inverted: all steps, and what is answered behind them. -/
namespace Go.Proofs.YtiljkgoafknefaaGreat
open Go.RowKit

/-- What k steps write down. -/
def evsK (n : Nat) : Nat → List Ev
  | 0 => []
  | k + 1 => evsK n k ++ stEvs n

/-- What an inverse's steps and their end write down. -/
def invEvs (n : Nat) : List Ev := evsK n (stp n) ++ (List.replicate 3 (1, ((n + 1 : Nat) : Int), 0) ++ (List.replicate 3 (1, (n : Int), 0) ++ List.replicate 2 (1, (n : Int), 0)))

/-- What stands between two steps. -/
structure BtwI (w0 : World) (o0 : Tr) (w : World) (o : Tr) (tp : Value) (n M a pb k N : Nat) (s : Int × Int × Int) (G : Prop) (uo vo fo go : Option Addr) (uc vc fc gc U V : Nat) : Prop where
  wrt : Wr w0 o0 (evsK n k) w o tp (12 * (N - k) + 20)
  box : w.heap[pb]? = some (.cells #[.slice uo n uc, .slice vo n vc, .slice fo (n + 1) fc, .slice go (n + 1) gc, .int .u64 (tcN 18446744073709551616 (dsts s k).1 : Nat)] 138 (0, 0))
  nu : NumN w o (.slice uo n uc) n U
  nv : NumN w o (.slice vo n vc) n V
  nf : NumN w o (.slice fo (n + 1) fc) (n + 1) (tcN (18446744073709551616 ^ (n + 1)) (dsts s k).2.1)
  ng : NumN w o (.slice go (n + 1) gc) (n + 1) (tcN (18446744073709551616 ^ (n + 1)) (dsts s k).2.2)
  co : G → CoOk M a U V (dsts s k)

theorem TrIn.put {w w' : World} {o : Tr} {p : Nat} (h : TrIn w o) (k : Kept (fun b => b = p) w w') (hf : ¬ trFoot o p) : TrIn w' o := by
  rcases o with _ | ⟨q, g, l⟩
  · trivial
  · exact ⟨h.1.kept k (fun e => hf (.inl e.symm)) (fun x hx e => hf (.inr (by rw [← e]; exact hx))), h.2⟩

theorem abs_num {B : Nat} {F : Int} : selN (sgN F) (tcN B (-F)) (tcN B F) = F.natAbs := by
  unfold selN sgN tcN
  by_cases h : F < 0
  · rw [if_pos h, if_pos (by decide), if_neg (by omega)]
    omega
  · rw [if_neg h, if_neg (by decide), if_neg h]
    omega

theorem neg_num {n : Nat} {F : Int} (hF : -((18446744073709551616 ^ n : Nat) : Int) < F ∧ F < ((18446744073709551616 ^ n : Nat) : Int)) : subN 0 (tcN (18446744073709551616 ^ (n + 1)) F) (n + 1) = tcN (18446744073709551616 ^ (n + 1)) (-F) := by
  unfold subN
  rw [← B64]
  exact tc_neg hF (by rw [Nat.pow_succ]; omega)

/-- What is answered in the end. -/
theorem inv_end {n M A U V D is Z Y : Nat} {s : Int × Int × Int} (hn0 : 0 < n) (hn : n ≤ 130) (hM : M < 18446744073709551616 ^ n) (hodd : M % 2 = 1) (h2 : 2 ≤ M) (hA : A < M) (hs : s = dsts (1, (M : Int), (A : Int)) (stp n)) (hco : CoOk M A U V s) (hD : D = s.2.1.natAbs) (his : is = oneN (decide (D = 1))) (hZ : Z = selN (sgN s.2.1) (subM 0 U M) U) (hY : Y = selN is Z 0) :
    (Nat.gcd A M = 1 → Y < M ∧ A * Y % M = 1 ∧ is = 1) ∧ (Nat.gcd A M ≠ 1 → Y = 0 ∧ is = 0) := by
  rw [B64] at hM
  have he := (dsts_end (M := M) (a := A) (n := n) hn0 hn hodd (by omega) hM).2
  rw [← hs, ← hD] at he
  rw [Nat.gcd_comm, ← he]
  constructor
  · intro h1
    rw [h1, decide_eq_true rfl] at his
    have his1 : is = 1 := his
    have hf := inv_fin (d := s.1) (F := s.2.1) (G := s.2.2) hco h2 (by omega)
    have hZ' : Z = if s.2.1 < 0 then subM 0 U M else U := by
      rw [hZ]
      unfold selN sgN
      by_cases h : s.2.1 < 0
      · rw [if_pos h, if_pos h]; rfl
      · rw [if_neg h, if_neg h]; rfl
    rw [← hZ'] at hf
    have hY' : Y = Z := by rw [hY, his1]; rfl
    rw [hY']
    exact ⟨hf.1, hf.2, his1⟩
  · intro h1
    rw [decide_eq_false h1] at his
    have his0 : is = 0 := his
    exact ⟨by rw [hY, his0]; rfl, his0⟩

/-- Select, of numbers of any length up to n, one of them of n words. -/
theorem iSelectL {w0 : World} {o0 : Tr} {m : List Ev} {tp : Value} {k : Nat} (bit n : Nat) (u v : Value) (xs ys : List Nat) {w : World} {o : Tr} (s : Wr w0 o0 m w o tp (k + 1)) (hb : bit ≤ 1) (hu : RowT w o u xs) (hv : RowT w o v ys) (hdx : Digs 18446744073709551616 xs) (hdy : Digs 18446744073709551616 ys) (hl : max xs.length ys.length = n) (hn : n ≤ 1000) :
    Calls Tryz.prog 127 #[tp, .int .u64 (bit : Nat), u, v] w fun e w' => ∃ (v' : Value), e = .returned v' ∧ ∃ (Z : Nat) (o' : Tr), Hid (Z = selN bit (val 18446744073709551616 xs) (val 18446744073709551616 ys)) ∧ NumN w' o' v' n Z ∧ Fresh w v' ∧ Did w o [(1, (n : Int), 0)] w' o' ∧ Wr w0 o0 (m ++ [(1, (n : Int), 0)]) w' o' tp k := by
  have h := lSelect o bit (by omega) u v xs ys w (s.room.less (by omega)) hu hv hdx hdy (by omega) (by omega)
  rw [s.ptr, hl] at h
  refine h.mono ?_
  rintro e w' ⟨v', rfl, ho, o', d⟩
  exact ⟨v', rfl, _, o', rfl, NumN.own ho (selB_lt (val_lt_le hdx (by omega)) (val_lt_le hdy (by omega))) (d.room (k := 0) (s.room.less (by simp))).1, Fresh.own ho (Nat.le_refl _), d, s.next d (by simp; omega)⟩

/-- Equal, with 1. -/
theorem iEqual1 {w0 : World} {o0 : Tr} {m : List Ev} {tp : Value} {k : Nat} (n X : Nat) (u v : Value) {w : World} {o : Tr} (s : Wr w0 o0 m w o tp (k + 1)) (hu : NumT w o u n X) (hv : RowT w o v [1]) (hn0 : 0 < n) (hn : n ≤ 1000) :
    Calls Tryz.prog 81 #[tp, u, v] w fun e w' => ∃ c : Nat, e = .returned (.int .u64 (c : Nat)) ∧ ∃ (o' : Tr), Hid (c = oneN (decide (X = 1))) ∧ c ≤ 1 ∧ Did w o [(1, (n : Int), 0)] w' o' ∧ Wr w0 o0 (m ++ [(1, (n : Int), 0)]) w' o' tp k := by
  have h := lEqual o u v _ [1] w (s.room.less (by omega)) hu.1 hv (digs_digs (by omega) _ _) (Digs.one (by omega)) (by rw [digs_length]; omega) (by simp)
  rw [s.ptr, digs_length, num_val hu.2, show ([1] : List Nat).length = 1 from rfl, show max n 1 = n by omega, show val 18446744073709551616 [1] = 1 from rfl] at h
  refine h.mono ?_
  rintro e w' ⟨rfl, o', d⟩
  exact ⟨_, rfl, o', rfl, one_le _, d, s.next d (by simp; omega)⟩

set_option maxRecDepth 40000 in
set_option maxHeartbeats 8000000 in
/-- inverted. -/
theorem iInv (o : Tr) (ao bo xo : Option Addr) (n l K mcap rcap xc A : Nat) (ms rs : List Nat) (w : World) (ht : TrRoom w o (12 * stp n + 30)) (hm : RowT w o (.slice ao n mcap) ms) (hr : RowT w o (.slice bo l rcap) rs) (hx : NumT w o (.slice xo n xc) n A) (hmd : Digs 18446744073709551616 ms) (hrd : Digs 18446744073709551616 rs) (hK : K < 18446744073709551616) (hn0 : 0 < n) (hn : n ≤ 130) (hPo : okMod ms K rs ∨ o = none) :
    Calls Tryz.prog 100 #[trPtr o, .agg #[.slice ao n mcap, .int .u64 (K : Nat), .slice bo l rcap], .slice xo n xc] w fun e w' => ∃ (v' : Value) (is : Nat), e = .returned (.tuple #[v', .int .u64 (is : Nat)]) ∧ ∃ (Y : Nat) (m : List Ev) (o' : Tr), NumN w' o' v' n Y ∧ Fresh w v' ∧ Did w o m w' o' ∧ (okMod ms K rs → m = invEvs n ∧ (A < val 18446744073709551616 ms → (Nat.gcd A (val 18446744073709551616 ms) = 1 → Y < val 18446744073709551616 ms ∧ A * Y % val 18446744073709551616 ms = 1 ∧ is = 1) ∧ (Nat.gcd A (val 18446744073709551616 ms) ≠ 1 → Y = 0 ∧ is = 0))) := by
  obtain ⟨po, hpo⟩ := trPtr_shape o
  obtain ⟨_, _, _, e1, hLm, _, _, _, _⟩ := hm.1.open
  cases e1
  obtain ⟨M, hM⟩ : ∃ M, M = val 18446744073709551616 ms := ⟨_, rfl⟩
  have hmN : NumT w o (.slice ao n mcap) n M := by rw [hM]; exact NumT.of hm hmd hLm.out
  obtain ⟨W, hW⟩ : ∃ W, W = w.alloc (.cells #[.slice ao n mcap, .int .u64 (K : Nat), .slice bo l rcap] 90) := ⟨_, rfl⟩
  have k0 : Kept Nought w W := by rw [hW]; exact (Kept.refl Nought w).alloc _
  have b1 : W.heap[w.heap.size]? = some (.cells #[.slice ao n mcap, .int .u64 (K : Nat), .slice bo l rcap] 90 (0, 0)) := by rw [hW]; exact heap_alloc_new _ _
  have hB := iBeg n M A ao bo xo mcap l K rcap xc W o (ht.1.grew k0) (hmN.grew k0) (hx.grew k0) hn0 hn
  have hSt := fun W' => iSteps (64 * (n : Int)) W'
  rw [steps_stp hn0 hn] at hSt
  have hw64 : IntKind.i64.wrap (64 * (n : Int)) = 64 * (n : Int) := by simp [IntKind.wrap, IntKind.bits, IntKind.signed]; omega
  have HW := toHid hW
  have HK0 := toHid k0
  have HT := toHid ht
  have HB1 := toHid b1
  obtain ⟨c0, c1, c2⟩ := cells3 b1
  obtain ⟨N, hN⟩ : ∃ N, N = stp n := ⟨_, rfl⟩
  have hNb : N ≤ 30000 := by rw [hN]; unfold stp; omega
  rw [← hN] at hSt HT
  have HN := toHid hN
  rw [hpo]
  clear hW k0 ht b1 hN
  go_enter Tryz.func100, Tryz.ntmps100
  go_wp2_with (rw [← HW.out])
  refine hB.mono ?_
  rintro e w1 ⟨uo, uc, vo, vc, fo, fc, go, gc, rfl, nu, nv, nf, ng, k1⟩
  clear hB c0 c1 c2
  go_wp2_with fail
  refine (hSt _).mono ?_
  rintro e w2 ⟨rfl, hw2⟩
  have b2 : w2.heap[w1.heap.size]? = some (.cells #[.slice uo n uc, .slice vo n vc, .slice fo (n + 1) fc, .slice go (n + 1) gc, .int .u64 1] 138 (0, 0)) := by rw [hw2]; exact heap_alloc_new _ _
  have k2 : Kept Nought w1 w2 := by rw [hw2]; exact (Kept.refl Nought w1).alloc _
  have k01 := HK0.out.trans k1
  have tr1 := HT.out.grew k01
  have hm1 := toHid (hm.grew k01)
  have hmN1 := toHid (hmN.grew k01)
  have hr1 := toHid (hr.grew k01)
  have hb1 := (k1.block _ (lt_of_block HB1.out) (fun f => f)).trans HB1.out
  have JC : Hid (∀ W' m' o', Did w1 o m' W' o' → W'.heap[w.heap.size]? = some (.cells #[.slice ao n mcap, .int .u64 (K : Nat), .slice bo l rcap] 90 (0, 0))) := fun W' m' o' d => d.cells hb1 tr1.1 (by decide) (by decide)
  have hpbw : w.heap.size ≠ w1.heap.size := by have := lt_of_block hb1; omega
  obtain ⟨s0, hs0⟩ : ∃ s0 : Int × Int × Int, s0 = (1, (M : Int), (A : Int)) := ⟨_, rfl⟩
  have hst0 : StIn (18446744073709551616 ^ n) 0 s0 := by
    have h1 := hmN.2
    have h2 := hx.2
    rw [hs0]
    unfold StIn
    dsimp only
    generalize 18446744073709551616 ^ n = Q at *
    omega
  have HST := toHid (StIn.all hst0)
  have HCo0 : Hid (okMod ms K rs → CoOk M A 0 1 s0) := fun h => by
    have := montE_ok h.1
    rw [← hM] at this
    rw [hs0]
    refine ⟨by omega, by omega, ?_, ?_⟩
    · exact ⟨-1, by dsimp only; omega⟩
    · exact ⟨0, by dsimp only; omega⟩
  have HOdd : Hid (okMod ms K rs → M < 18446744073709551616 ^ n ∧ M % 2 = 1 ∧ ∀ k, (dsts s0 k).2.1 % 2 = 1) := fun h => by
    have := montE_ok h.1
    rw [← hM] at this
    refine ⟨hmN.2, by omega, fun k => (gcd_all (s := s0) (by rw [hs0]; dsimp only; omega) k).1⟩
  have hInit : BtwI w1 o w2 o (.pointer po) n M A w1.heap.size 0 N s0 (okMod ms K rs) uo vo fo go uc vc fc gc 0 1 := by
    refine ⟨⟨Did.of_kept k2 tr1.1, (tr1.less (by omega)).grew k2, hpo⟩, ?_, nu.grew k2, nv.grew k2, ?_, ?_, HCo0.out⟩
    · rw [hs0]
      exact b2
    · rw [hs0]
      have := nf.grew k2
      rw [← tc_nat (18446744073709551616 ^ (n + 1)) M] at this
      exact this
    · rw [hs0]
      have := ng.grew k2
      rw [← tc_nat (18446744073709551616 ^ (n + 1)) A] at this
      exact this
  have HInit := toHid hInit
  have HS0 := toHid hs0
  have K02 := toHid k01
  clear hSt hw2 b2 k2 k01 tr1 hb1 hst0 hInit nu nv nf ng k1 hs0
  go_wp2_with fail
  go_loopw [24] (fun i wr => ∃ (k : Nat) (o1 : Tr) (uo vo fo go : Option Addr) (uc vc fc gc U V : Nat), k ≤ N ∧ i = .int .i64 (k : Int) ∧ Hid (BtwI w1 o wr o1 (.pointer po) n M A w1.heap.size k N s0 (okMod ms K rs) uo vo fo go uc vc fc gc U V)) (fun i _ => N - (intOf i).toNat)
  case atStart => exact ⟨0, o, uo, vo, fo, go, uc, vc, fc, gc, 0, 1, by omega, rfl, HInit.out⟩
  case round =>
    clear HInit
    obtain ⟨k, o1, uo, vo, fo, go, uc, vc, fc, gc, U, V, hk, rfl, HB⟩ := hrel
    by_cases hkn : k < N
    · have g1 : (k : Int) < (N : Int) := by omega
      obtain ⟨c0, c1, c2⟩ := cells3 (JC.out wr _ o1 HB.out.wrt.did)
      obtain ⟨p0, p1, p2, p3, p4⟩ := cells5 HB.out.box
      have hS := iStep n M U V k A (dsts s0 k).1 (dsts s0 k).2.1 (dsts s0 k).2.2 uo vo fo go ao bo uc vc fc gc mcap l K rcap (k := 12 * (N - (k + 1)) + 20) (HB.out.wrt.less (by omega)) (HST.out k) (by omega) (hmN1.out.did HB.out.wrt.did) HB.out.nu.1 HB.out.nv.1 HB.out.nf.1 HB.out.ng.1 hn0 (by omega)
      have eds : dst ((dsts s0 k).1, (dsts s0 k).2.1, (dsts s0 k).2.2) = dsts s0 (k + 1) := rfl
      rw [eds] at hS
      have HCk := toHid HB.out.co
      have TI := toHid HB.out.wrt.room.1
      have HBx := toHid HB.out.box
      obtain ⟨T1, hT1⟩ : ∃ T1, T1 = tcN 18446744073709551616 (dsts s0 k).1 := ⟨_, rfl⟩
      rw [← hT1] at hS p4
      have HT1 := toHid hT1
      clear eds hT1 HB
      go_wp2_with fail
      refine hS.mono ?_
      rintro e w5 ⟨u', v', f', g', rfl, U', V', o5, q5, nu5, nv5, nf5, ng5, d5, s5⟩
      obtain ⟨uo', uc', rfl⟩ := nu5.1.shape
      obtain ⟨vo', vc', rfl⟩ := nv5.1.shape
      obtain ⟨fo', fc', rfl⟩ := nf5.1.shape
      obtain ⟨go', gc', rfl⟩ := ng5.1.shape
      have hR5 := d5.cells HBx.out TI.out (by decide) (by decide)
      rw [← HT1.out] at hR5
      obtain ⟨f0, f1, f2, f3, f4⟩ := frees5 hR5
      obtain ⟨g0, g1', g2, g3, g4⟩ := cells5 hR5
      obtain ⟨T2, hT2⟩ : ∃ T2, T2 = tcN 18446744073709551616 (dsts s0 (k + 1)).1 := ⟨_, rfl⟩
      rw [← hT2]
      have c5' := put5 hR5 (.slice uo' n uc') (.slice vo' n vc') (.slice fo' (n + 1) fc') (.slice go' (n + 1) gc') (.int .u64 (T2 : Int))
      have kp := kept5 w5 w1.heap.size (.slice uo' n uc') (.slice vo' n vc') (.slice fo' (n + 1) fc') (.slice go' (n + 1) gc') (.int .u64 (T2 : Int))
      have hap := cells_apart hR5 s5.room.1 (by decide) (by decide)
      have ti5 := s5.room
      have HNew : Hid (BtwI w1 o (((((w5.setCell ⟨w1.heap.size, 0, none⟩ (.slice uo' n uc')).setCell ⟨w1.heap.size, 1, none⟩ (.slice vo' n vc')).setCell ⟨w1.heap.size, 2, none⟩ (.slice fo' (n + 1) fc')).setCell ⟨w1.heap.size, 3, none⟩ (.slice go' (n + 1) gc')).setCell ⟨w1.heap.size, 4, none⟩ (.int .u64 (T2 : Int))) o5 (.pointer po) n M A w1.heap.size (k + 1) N s0 (okMod ms K rs) uo' vo' fo' go' uc' vc' fc' gc' U' V') := by
        have dw := s5.did.wroteNew kp (Nat.le_refl _) hap
        refine ⟨⟨dw, ⟨s5.room.1.put kp hap, s5.room.2⟩, s5.ptr⟩, ?_, nu5.put hR5 (by decide) kp, nv5.put hR5 (by decide) kp, nf5.put hR5 (by decide) kp, ng5.put hR5 (by decide) kp, fun h => ?_⟩
        · rw [← hT2]
          exact c5'
        · obtain ⟨i1, i2, i3⟩ := HOdd.out h
          exact q5.out i1 i2 (i3 k) (HCk.out h)
      clear hS nu5 nv5 nf5 ng5 d5 s5 c5' kp hap ti5 hT2 q5 HCk c0 c1 c2 p0 p1 p2 p3 p4
      go_wp2_with fail
      go_roundw
      case rel => exact ⟨k + 1, o5, uo', vo', fo', go', uc', vc', fc', gc', U', V', by omega, by go_num, HNew.out⟩
      case measure => simp [intOf]; omega
    · have g1 : ¬ (k : Int) < (N : Int) := by omega
      obtain rfl : k = N := by omega
      have hF := HST.out k
      obtain ⟨F, hFe⟩ : ∃ F, F = (dsts s0 k).2.1 := ⟨_, rfl⟩
      have hFb : -((18446744073709551616 ^ n : Nat) : Int) < F ∧ F < ((18446744073709551616 ^ n : Nat) : Int) := by rw [hFe]; exact hF.2.1
      have hsg : sgN F = tcN (18446744073709551616 ^ (n + 1)) F / (9223372036854775808 * 18446744073709551616 ^ n) := (tc_sign (Q := 18446744073709551616 ^ n) (by omega) (by rw [Nat.pow_succ]; omega) (by omega) (Nat.mul_pos (by omega) (Nat.pow_pos (by omega)))).symm
      have hsg1 : sgN F ≤ 1 := by unfold sgN; split <;> omega
      have nf := HB.out.nf
      rw [← hFe] at nf
      have hSi := iSign n _ _ _ wr o1 nf.1 (by omega) hsg
      have s6 := HB.out.wrt
      have h7 := iSub0 (n + 1) _ _ (k := 19) (s6.less (by omega)) nf.1 (by omega)
      obtain ⟨c0, c1, c2⟩ := cells3 (JC.out wr _ o1 s6.did)
      obtain ⟨p0, p1, p2, p3, p4⟩ := cells5 HB.out.box
      have HNF := toHid nf
      have HFE := toHid hFe
      have HFB := toHid hFb
      obtain ⟨sg, hsgE⟩ : ∃ sg, sg = sgN F := ⟨_, rfl⟩
      rw [← hsgE] at hsg1 hSi
      have HSG := toHid hsgE
      have TI := toHid s6.room.1
      have HBx := toHid HB.out.box
      clear nf hFe hFb hF hsg s6 hsgE
      go_wp2_with fail
      refine hSi.mono ?_
      rintro e w6 ⟨rfl, rfl⟩
      clear hSi
      go_wp2_with fail
      refine h7.mono ?_
      rintro e w7 ⟨v7, b7, rfl, Z7, o7, q7, n7, d7, s7⟩
      have hb7 := d7.cells HBx.out TI.out (by decide) (by decide)
      have hm7 := JC.out w7 _ o7 s7.did
      obtain ⟨P0, P1, P2, P3, P4⟩ := cells5 hb7
      have h8 := iSelect sg (n + 1) Z7 _ v7 _ (k := 18) s7 hsg1 n7.1 (HNF.out.1.did d7) (by omega)
      have T7 := toHid s7.room.1
      clear h7 n7 c0 c1 c2 p0 p1 p2 p3 p4 hm7
      go_wp2_with fail
      refine h8.mono ?_
      rintro e w8 ⟨v8, rfl, D, o8, q8, n8, d8, s8⟩
      have hb8 := d8.cells hb7 T7.out (by decide) (by decide)
      have T8 := toHid s8.room.1
      have kA : Kept Nought w8 (w8.alloc (.cells #[.int .u64 1] 24)) := (Kept.refl Nought w8).alloc _
      have r1 : Row .u64 (w8.alloc (.cells #[.int .u64 1] 24)) (.slice (some ⟨w8.heap.size, 0, none⟩) 1 1) [1] := Row.of_block (k := .u64) (w := w8.alloc (.cells #[.int .u64 1] 24)) (g := w8.heap.size) (zs := [1]) (t := 24) (heap_alloc_new _ _) rfl (by unfold maxLen; omega)
      have r1T : RowT (w8.alloc (.cells #[.int .u64 1] 24)) o8 (.slice (some ⟨w8.heap.size, 0, none⟩) 1 1) [1] := ⟨r1, fun _ b hb f => by
        have e' : w8.heap.size = b := by simpa [Value.ownBlock] using hb
        have := T8.out.foot b f
        omega⟩
      have h9 := iEqual1 (n + 1) D v8 _ (k := 17) (s8.grew kA) (n8.1.grew kA) r1T (by omega) (by omega)
      have hb8' := (kA.block _ (lt_of_block hb8) (fun f => f)).trans hb8
      have D8 := toHid ((d7.trans d8).grew kA)
      have T8' := toHid (T8.out.grew kA)
      clear h8 n8 P0 P1 P2 P3 P4 r1 r1T kA d7 d8 hb7
      go_wp2_with fail
      refine h9.mono ?_
      rintro e w9 ⟨is, rfl, o9, q9, his1, d9, s9⟩
      have hb9 := d9.cells hb8' T8'.out (by decide) (by decide)
      obtain ⟨c0, c1, c2⟩ := cells3 (JC.out w9 _ o9 s9.did)
      obtain ⟨P0, P1, P2, P3, P4⟩ := cells5 hb9
      have nu9 := HB.out.nu.1.did (D8.out.trans d9)
      have hNg := gNeg o9 ao bo uo n l K mcap rcap n uc ms rs (digs 18446744073709551616 U n) w9 (s9.room.less (by omega)) (hm1.out.did s9.did) (hr1.out.did s9.did) nu9.1 hmd hrd (digs_digs (by omega) _ _) hK (by omega) (by omega)
      rw [s9.ptr, num_val nu9.2, ← hM] at hNg
      have T9 := toHid s9.room.1
      clear h9 hb8 hb8'
      go_wp2_with fail
      refine hNg.mono ?_
      rintro e w10 ⟨v10, c10, rfl, zs, m10, o10, r10, l10, d10, hp10, hq10⟩
      have hok : okMod ms K rs → (okMod ms K rs ∧ True ∧ U < M) := fun h => ⟨h, trivial, (HB.out.co h).1⟩
      have hz10 : Digs 18446744073709551616 zs ∧ zs.length ≤ n ∧ (okMod ms K rs → zs = digs 18446744073709551616 (subM 0 U M) n ∧ m10 = List.replicate 3 (1, (n : Int), 0)) ∧ TrRoom w10 o10 10 := by
        by_cases h : okMod ms K rs
        · obtain ⟨⟨e1, _⟩, e2⟩ := hp10 (hok h)
          refine ⟨by rw [e1]; exact digs_digs (by omega) _ _, by rw [e1, digs_length]; omega, fun _ => ⟨e1, e2⟩, d10.room ?_⟩
          rw [e2]
          exact s9.room.less (by simp)
        · have hnone : o = none := hPo.resolve_left h
          obtain ⟨e1, _⟩ := hq10 (fun hh => h hh.1)
          have e9 : o9 = none := by have := s9.did; rw [hnone] at this; exact this.none.1
          have e10 : o10 = none := by have := d10; rw [e9] at this; exact this.none.1
          refine ⟨by rw [e1]; exact Digs.nil _, by rw [e1]; simp, fun hh => absurd hh h, by rw [e10]; exact TrRoom.none _ _ (by omega)⟩
      obtain ⟨hzd, hzl, hzok, hroom⟩ := hz10
      have HZ := toHid hzok
      have s10 : Wr w1 o (evsK n k ++ [(1, ((n + 1 : Nat) : Int), 0)] ++ [(1, ((n + 1 : Nat) : Int), 0)] ++ [(1, ((n + 1 : Nat) : Int), 0)] ++ m10) w10 o10 (.pointer po) 10 := ⟨s9.did.trans d10, hroom, d10.ptr.trans s9.ptr⟩
      have hb10 := d10.cells hb9 T9.out (by decide) (by decide)
      obtain ⟨Q0, Q1, Q2, Q3, Q4⟩ := cells5 hb10
      have nu10 := nu9.did d10
      have h11 := iSelectL sg n v10 _ zs (digs 18446744073709551616 U n) (k := 9) s10 hsg1 ((l10 rfl).2.rowT r10 hroom.1) nu10.1 hzd (digs_digs (by omega) _ _) (by rw [digs_length]; omega) (by omega)
      have HU := toHid nu10.2
      clear hNg P0 P1 P2 P3 P4 c0 c1 c2 hb9 hb10 hp10 hq10 l10 r10 hzok hroom hzl nu9 nu10 hok
      go_wp2_with fail
      refine h11.mono ?_
      rintro e w11 ⟨v11, rfl, Z11, o11, q11, n11, _, d11, s11⟩
      have h12 := iSelectL is n v11 (.slice none 0 0) (digs 18446744073709551616 Z11 n) [] (k := 8) s11 his1 n11.1.1 ⟨Row.nil _ _, fun h => absurd rfl h⟩ (digs_digs (by omega) _ _) (Digs.nil _) (by rw [digs_length]; simp) (by omega)
      rw [num_val n11.1.2] at h12
      have HSz := toHid s11.did.size
      clear h11 n11 Q0 Q1 Q2 Q3 Q4
      go_wp2_with fail
      refine h12.mono ?_
      rintro e w12 ⟨v12, rfl, Y, o12, q12, n12, f12, d12, s12⟩
      clear h12
      go_wp2_with fail
      go_ret2
      refine ⟨_, _, rfl, Y, _, o12, n12, ?_, Did.after K02.out s12.did, fun hok => ⟨?_, fun hA => ?_⟩⟩
      · intro b hb
        have h1 := f12 b hb
        have h2 := HSz.out
        have h3 := K02.out.size
        omega
      · rw [(HZ.out hok).2]
        unfold invEvs
        rw [← HN.out]
        simp [List.append_assoc, List.replicate]
      · obtain ⟨i1, i2, i3⟩ := HOdd.out hok
        have hE := montE_ok hok.1
        rw [← hM] at hE hA ⊢
        have hco := HB.out.co hok
        have hs : dsts s0 k = dsts (1, (M : Int), (A : Int)) (stp n) := by rw [HS0.out, ← HN.out]
        refine inv_end (D := D) (is := is) (Z := Z11) (s := dsts s0 k) hn0 hn i1 i2 hE.2.1 hA hs hco ?_ q9.out ?_ q12.out
        · rw [q8.out, q7.out, neg_num HFB.out, HSG.out, ← HFE.out]
          exact abs_num
        · have e11 := q11.out
          rw [(HZ.out hok).1, num_val (Nat.lt_trans (subM_lt (by omega) hco.1) i1), num_val HU.out, HSG.out, HFE.out] at e11
          exact e11

end Go.Proofs.YtiljkgoafknefaaGreat

/- Package inverse: Of. -/
namespace Go.Proofs.YtiljkgoafknefaaGreat
open Go.RowKit

/-- What Of writes down. -/
def ofEvs (n : Nat) : List Ev := (1, (n : Int), 0) :: invEvs n

/-- The inverse Y of A modulo M and whether there is one. -/
def IsInv (A M Y is : Nat) : Prop := (Nat.gcd A M = 1 → Y < M ∧ A * Y % M = 1 ∧ is = 1) ∧ (Nat.gcd A M ≠ 1 → Y = 0 ∧ is = 0)

/-- What Of answers and leaves. -/
def OfAns (w : World) (o : Tr) (P : Prop) (n A M : Nat) (w' : World) (v' : Value) (is c : Nat) : Prop :=
  ∃ (zs : List Nat) (m : List Ev) (o' : Tr), Row .u64 w' v' zs ∧ Lies true w w' v' ∧ Did w o m w' o' ∧ (P → c = 0 ∧ m = ofEvs n ∧ ∃ Y, zs = digs 18446744073709551616 Y n ∧ IsInv A M Y is) ∧ (¬ P → zs = [] ∧ is = 0 ∧ c = 1)

set_option maxRecDepth 40000 in
set_option maxHeartbeats 4000000 in
/-- Of. -/
theorem iOf (o : Tr) (ao bo xo : Option Addr) (n l K mcap rcap N1 xc : Nat) (ms rs xs : List Nat) (w : World) (ht : TrRoom w o 400000) (hm : RowT w o (.slice ao n mcap) ms) (hr : RowT w o (.slice bo l rcap) rs) (hx : RowT w o (.slice xo N1 xc) xs) (hmd : Digs 18446744073709551616 ms) (hrd : Digs 18446744073709551616 rs) (hdx : Digs 18446744073709551616 xs) (hK : K < 18446744073709551616) (hnb : n ≤ 1000000) (hPo : okMod ms K rs ∨ o = none) :
    Calls Tryz.prog 74 #[trPtr o, .agg #[.slice ao n mcap, .int .u64 (K : Nat), .slice bo l rcap], .slice xo N1 xc] w fun e w' => ∃ (v' : Value) (is c : Nat), e = .returned (.tuple #[v', .int .u64 (is : Nat), .int .i64 (c : Nat)]) ∧ OfAns w o (okMod ms K rs ∧ (N1 = n ∧ val 18446744073709551616 xs < val 18446744073709551616 ms)) n (val 18446744073709551616 xs) (val 18446744073709551616 ms) w' v' is c := by
  obtain ⟨po, hpo⟩ := trPtr_shape o
  obtain ⟨_, _, _, e1, hLm, _, _, _, _⟩ := hm.1.open
  cases e1
  obtain ⟨_, _, _, e1, hLx, _, _, _, _⟩ := hx.1.open
  cases e1
  obtain ⟨_, _, _, e1, hLr, _, _, _, _⟩ := hr.1.open
  cases e1
  obtain ⟨W, hW⟩ : ∃ W, W = w.alloc (.cells #[.slice ao n mcap, .int .u64 (K : Nat), .slice bo l rcap] 90) := ⟨_, rfl⟩
  have k0 : Kept Nought w W := by rw [hW]; exact (Kept.refl Nought w).alloc _
  have b1 : W.heap[w.heap.size]? = some (.cells #[.slice ao n mcap, .int .u64 (K : Nat), .slice bo l rcap] 90 (0, 0)) := by rw [hW]; exact heap_alloc_new _ _
  obtain ⟨c0, c1, c2⟩ := cells3 b1
  have HW := toHid hW
  have HK0 := toHid k0
  by_cases hok : 0 < n ∧ n ≤ 130
  · have hn0 := hok.1
    have hn := hok.2
    have g1 : ¬ (n : Int) < 1 := by omega
    have g2 : ¬ (n : Int) > 130 := by omega
    have hstp : 12 * stp n + 30 + 1 ≤ 400000 := by unfold stp; omega
    obtain ⟨M, hM⟩ : ∃ M, M = val 18446744073709551616 ms := ⟨_, rfl⟩
    have hmN : NumT w o (.slice ao n mcap) n M := by rw [hM]; exact NumT.of hm hmd hLm.out
    obtain ⟨A, hA⟩ : ∃ A, A = val 18446744073709551616 xs % 18446744073709551616 ^ n := ⟨_, rfl⟩
    have hAN : N1 = n → A = val 18446744073709551616 xs := fun h => by rw [hA, Nat.mod_eq_of_lt]; rw [← h, ← hLx.out]; exact val_lt (by omega) hdx
    have hFt := iFit _ xs n W (hx.1.grew k0) hdx (by omega)
    rw [digs_mod, ← hA] at hFt
    have lA : A < 18446744073709551616 ^ n := by rw [hA]; exact Nat.mod_lt _ (Nat.pow_pos (by omega))
    rw [← hM]
    have HM := toHid hm
    have HMN := toHid hmN
    have HR := toHid hr
    have HT := toHid ht
    have HB1 := toHid b1
    have HAN := toHid hAN
    have HA := toHid hA
    have HLA := toHid lA
    rw [hpo]
    clear hW k0 b1 hm hmN hr ht hx hLx hAN hA lA hok
    go_enter Tryz.func74, Tryz.ntmps74
    go_wp2_with (rw [← HW.out])
    refine hFt.mono ?_
    rintro e w1 ⟨rfl, ho1, k1⟩
    have k01 := HK0.out.trans k1
    have tr1 := HT.out.grew k01
    have hb1 := (k1.block _ (lt_of_block HB1.out) (fun f => f)).trans HB1.out
    obtain ⟨c0, c1, c2⟩ := cells3 hb1
    have nx := NumN.own ho1 HLA.out tr1.1
    have s1 : Wr w1 o [] w1 o (.pointer po) 400000 := ⟨Did.of_kept (Kept.refl Nought w1) tr1.1, tr1, hpo⟩
    have hLs := lLess o _ _ _ _ w1 (tr1.less (by omega)) nx.1.1 (HMN.out.grew k01).1 (digs_digs (by omega) _ _) (digs_digs (by omega) _ _) (by rw [digs_length]; omega) (by rw [digs_length]; omega)
    rw [hpo, digs_length, digs_length, Nat.max_self, num_val HLA.out, num_val HMN.out.2] at hLs
    have JB : Hid (∀ W' m' o', Did w1 o m' W' o' → W'.heap[w.heap.size]? = some (.cells #[.slice ao n mcap, .int .u64 (K : Nat), .slice bo l rcap] 90 (0, 0))) := fun W' m' o' d => d.cells hb1 tr1.1 (by decide) (by decide)
    have HNX := toHid nx
    have HS1 := toHid s1
    have K01 := toHid k01
    obtain ⟨bl, hbl⟩ : ∃ bl, bl = oneN (decide (A < M)) := ⟨_, rfl⟩
    rw [← hbl] at hLs
    have HBL := toHid hbl
    clear hFt ho1 k1 k01 tr1 hb1 nx s1 hbl
    go_wp2_with fail
    refine hLs.mono ?_
    rintro e w2 ⟨rfl, o2, d2⟩
    have s2 := HS1.out.next (k := 12 * stp n + 30) d2 (by simp; omega)
    have hIv := iInv o2 ao bo _ n l K mcap rcap n A ms rs w2 s2.room ((HM.out.grew K01.out).did d2) ((HR.out.grew K01.out).did d2) (HNX.out.1.did d2) hmd hrd hK hn0 hn (hPo.elim Or.inl (fun h => .inr (by have := d2; rw [h] at this; exact this.none.1)))
    rw [s2.ptr, ← hM] at hIv
    obtain ⟨c0, c1, c2⟩ := cells3 (JB.out w2 _ o2 d2)
    clear hLs
    go_wp2_with fail
    refine hIv.mono ?_
    rintro e w3 ⟨v3, is, rfl, Y, m3, o3, n3, f3, d3, hY⟩
    have d13 := d2.trans d3
    obtain ⟨p0, p1, p2⟩ := cells3 (JB.out w3 _ o3 d13)
    have hm3 := ((HM.out.grew K01.out).did d13).1
    have hr3 := ((HR.out.grew K01.out).did d13).1
    have HD3 := toHid (Did.after K01.out d13)
    have HBad : Hid (∀ w' : World, Kept Nought w3 w' → ¬ (okMod ms K rs ∧ (N1 = n ∧ val 18446744073709551616 xs < M)) → OfAns w o (okMod ms K rs ∧ (N1 = n ∧ val 18446744073709551616 xs < M)) n (val 18446744073709551616 xs) M w' (.slice none 0 0) 0 1) := fun w' k h => ⟨[], _, o3, Row.nil _ _, Lies.nil _ _ _, HD3.out.grew k, fun hp => absurd hp h, fun _ => ⟨rfl, rfl, rfl⟩⟩
    have HGood : Hid (∀ w' : World, Kept Nought w3 w' → okMod ms K rs → N1 = n → A < M → OfAns w o (okMod ms K rs ∧ (N1 = n ∧ val 18446744073709551616 xs < M)) n (val 18446744073709551616 xs) M w' v3 is 0) := fun w' k h1 h2 h3 => by
      have eA := HAN.out h2
      obtain ⟨e1, e2⟩ := hY h1
      refine ⟨digs 18446744073709551616 Y n, _, o3, (n3.1.grew k).1.1, fun _ => ⟨?_, n3.2.grew k⟩, HD3.out.grew k, fun _ => ⟨rfl, ?_, Y, rfl, ?_⟩, fun hp => absurd ⟨h1, h2, by rw [← eA]; exact h3⟩ hp⟩
      · intro b hb
        have q1 := f3 b hb
        have q2 := d2.size
        have q3 := K01.out.size
        omega
      · rw [e1]; rfl
      · rw [← eA]; exact e2 h3
    clear hIv c0 c1 c2 n3 f3 d3 d13 hY s2 d2
    by_cases hN : N1 = n
    · by_cases hlt : A < M
      · have hb1 : bl = 1 := by rw [HBL.out, decide_eq_true hlt]; rfl
        subst hb1
        by_cases hmd2 : okMod ms K rs
        · have hCk := mCheck ao bo n l K mcap rcap ms rs true (by simp [hmd2]) w3 hm3 hr3 hmd hrd hK hnb
          have HF := toHid (fun w' k => HGood.out w' k hmd2 hN hlt)
          have hNI : (N1 : Int) = (n : Int) := by omega
          clear HGood HBad hm3 hr3 hN
          go_wp2_with fail
          refine hCk.mono ?_
          rintro e w4 ⟨rfl, k4⟩
          clear hCk
          go_wp2_with fail
          go_ret3
          exact ⟨_, _, _, rfl, HF.out _ k4⟩
        · have hCk := mCheck ao bo n l K mcap rcap ms rs false (by simp [hmd2]) w3 hm3 hr3 hmd hrd hK hnb
          have HF := toHid (fun w' k => HBad.out w' k (fun h => hmd2 h.1))
          have hNI : (N1 : Int) = (n : Int) := by omega
          clear HGood HBad hm3 hr3 hN
          go_wp2_with fail
          refine hCk.mono ?_
          rintro e w4 ⟨rfl, k4⟩
          clear hCk
          go_wp2_with fail
          go_ret3
          exact ⟨_, 0, 1, rfl, HF.out _ k4⟩
      · have hb0 : bl = 0 := by rw [HBL.out, decide_eq_false hlt]; rfl
        subst hb0
        have HF := toHid (HBad.out w3 (Kept.refl _ _) (fun h => hlt (by rw [HAN.out h.2.1]; exact h.2.2)))
        have hNI : (N1 : Int) = (n : Int) := by omega
        clear HGood HBad hm3 hr3 hN
        go_wp2_with fail
        go_ret3
        exact ⟨_, 0, 1, rfl, HF.out⟩
    · have HF := toHid (HBad.out w3 (Kept.refl _ _) (fun h => hN h.2.1))
      have hNI : ¬ (N1 : Int) = (n : Int) := by omega
      clear HGood HBad hm3 hr3 hN
      go_wp2_with fail
      go_ret3
      exact ⟨_, 0, 1, rfl, HF.out⟩
  · have hbad : ¬ (okMod ms K rs ∧ (N1 = n ∧ val 18446744073709551616 xs < val 18446744073709551616 ms)) := fun h => by
      obtain ⟨_, f2, f3, _⟩ := h.1.facts hLm.out hLr.out hmd hrd hK
      exact hok ⟨f2, f3⟩
    have HF : Hid (OfAns w o (okMod ms K rs ∧ (N1 = n ∧ val 18446744073709551616 xs < val 18446744073709551616 ms)) n (val 18446744073709551616 xs) (val 18446744073709551616 ms) W (.slice none 0 0) 0 1) := ⟨[], [], o, Row.nil _ _, Lies.nil _ _ _, Did.of_kept k0 ht.1, fun hp => absurd hp hbad, fun _ => ⟨rfl, rfl, rfl⟩⟩
    generalize trPtr o = tp at *
    clear hm hr hx ht hmd hrd hdx hbad k0 b1 hLm hLx hLr hW
    by_cases h0 : n < 1
    · have g1 : (n : Int) < 1 := by omega
      clear hok
      go_enter Tryz.func74, Tryz.ntmps74
      go_wp2_with (rw [← HW.out])
      go_ret3
      exact ⟨_, 0, 1, rfl, HF.out⟩
    · have g1 : ¬ (n : Int) < 1 := by omega
      have g2 : (n : Int) > 130 := by omega
      clear hok h0
      go_enter Tryz.func74, Tryz.ntmps74
      go_wp2_with (rw [← HW.out])
      go_ret3
      exact ⟨_, 0, 1, rfl, HF.out⟩

end Go.Proofs.YtiljkgoafknefaaGreat

