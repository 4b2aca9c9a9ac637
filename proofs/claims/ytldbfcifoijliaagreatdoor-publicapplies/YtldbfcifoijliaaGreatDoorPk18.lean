/- Put together of: Mon5. -/
import Derived.Test.YtldbfcifoijliaaGreatDoorPk13
import Derived.Test.YtldbfcifoijliaaGreatDoorPk15
import Derived.Test.YtldbfcifoijliaaGreatDoorPk16

/- Melted of: MonN MonO MonP MonQ MonR MonS. -/

/- Package mont: asked: what it attempts. -/
namespace Go.Proofs.YtldbfcifoijliaaGreatDoor
open Go.RowKit

/-- Whether all operands are members. -/
def AllIn (cnt n V : Nat) (N : Nat → Nat) (xss : Nat → List Nat) : Prop := ∀ i, i < cnt → N i = n ∧ val 18446744073709551616 (xss i) < V

/-- Whether the first of them are members, as a word. -/
def inN (cnt n V : Nat) (N : Nat → Nat) (xss : Nat → List Nat) : Nat → Nat
  | 0 => 1
  | k + 1 => if inN cnt n V N xss k = 1 ∧ (N k = n ∧ val 18446744073709551616 (xss k) < V) then 1 else 0

theorem inN_le (cnt n V : Nat) (N : Nat → Nat) (xss : Nat → List Nat) : ∀ k, inN cnt n V N xss k ≤ 1
  | 0 => by simp [inN]
  | k + 1 => by unfold inN; split <;> omega

theorem inN_iff (cnt n V : Nat) (N : Nat → Nat) (xss : Nat → List Nat) : ∀ k, inN cnt n V N xss k = 1 ↔ AllIn k n V N xss
  | 0 => by simp [inN, AllIn]
  | k + 1 => by
    have ih := inN_iff cnt n V N xss k
    unfold inN
    constructor
    · intro h
      split at h
      · rename_i h1
        intro i hi
        rcases Nat.lt_or_ge i k with h2 | h2
        · exact ih.1 h1.1 i h2
        · obtain rfl : i = k := by omega
          exact h1.2
      · omega
    · intro h
      rw [if_pos ⟨ih.2 (fun i hi => h i (by omega)), h k (by omega)⟩]

theorem inN_bits (cnt n V : Nat) (N : Nat → Nat) (xss : Nat → List Nat) (k : Nat) : bits .and .u64 ((inN cnt n V N xss k : Nat) : Int) ((memN (N k) n (val 18446744073709551616 (xss k)) V : Nat) : Int) = ((inN cnt n V N xss (k + 1) : Nat) : Int) := by
  have h := inN_le cnt n V N xss k
  have h1 : inN cnt n V N xss (k + 1) = if inN cnt n V N xss k = 1 ∧ (N k = n ∧ val 18446744073709551616 (xss k) < V) then 1 else 0 := rfl
  rw [h1]
  unfold memN
  generalize inN cnt n V N xss k = m at *
  have h01 : m = 0 ∨ m = 1 := by omega
  by_cases h2 : N k = n ∧ val 18446744073709551616 (xss k) < V
  · rcases h01 with rfl | rfl
    · rw [if_pos h2, if_neg (by omega)]
      decide
    · rw [if_pos h2, if_pos ⟨rfl, h2⟩]
      decide
  · rcases h01 with rfl | rfl
    · rw [if_neg h2, if_neg (by omega)]
      decide
    · rw [if_neg h2, if_neg (fun h => h2 h.2)]
      decide

/-- What 'do' leaves: a number of n words in new memory, of which G holds; the events m. -/
def Done (W : World) (o : Tr) (m : List Ev) (n : Nat) (G : Nat → Prop) (w' : World) (v' : Value) : Prop :=
  ∃ (Y : Nat) (o' : Tr), OwnN .u64 24 w' W.heap.size v' n (digs 18446744073709551616 Y n) ∧ G Y ∧ Did W o m w' o'

set_option maxRecDepth 20000 in
set_option maxHeartbeats 4000000 in
/-- What asked attempts. -/
theorem mAsked1 (o : Tr) (ao bo lo : Option Addr) (n l K mcap rcap cnt ccap f : Nat) (fcap : Array Value) (A : Nat → Option Addr) (N C : Nat → Nat) (xss : Nat → List Nat) (ms rs : List Nat) (bM bL bT bF bO E rm : Nat) (dE : List Ev) (G : Nat → Prop) (w : World)
    (ht : TrRoom w o (cnt + rm)) (hm : RowT w o (.slice ao n mcap) ms) (hr : RowT w o (.slice bo l rcap) rs) (hmd : Digs 18446744073709551616 ms) (hrd : Digs 18446744073709551616 rs) (hK : K < 18446744073709551616) (hnb : n ≤ 1000000) (hcnt : cnt ≤ 1000)
    (hs : ∀ W m o', Did w o m W o' → Slots W lo cnt A N C) (hrow : ∀ i, i < cnt → RowT w o (.slice (A i) (N i) (C i)) (xss i)) (hdig : ∀ i, i < cnt → Digs 18446744073709551616 (xss i))
    (hM : w.heap[bM]? = some (.cells #[.slice ao n mcap, .int .u64 (K : Nat), .slice bo l rcap] 52 (0, 0))) (hL : Box w bL (.slice lo cnt ccap) 122) (hT : Box w bT (trPtr o) 105) (hF : Box w bF (.func (.func f) #[] fcap) 109) (hO : Box w bO (.slice none 0 0) 23)
    (hf : ∀ args w, (callFunc f args).run Tryz.prog w = .ok (.enter f args) w)
    (hdo : n ≤ 130 → ∀ W m o', Did w o m W o' → TrRoom W o' rm → Calls Tryz.prog f (#[.int .i64 (n : Int)] ++ fcap) W fun e w' => ∃ v', e = .returned v' ∧ Done W o' dE n (fun Y => okMod ms K rs → AllIn cnt n (val 18446744073709551616 ms) N xss → G Y) w' v')
    (hE : E = 0 ↔ okMod ms K rs ∧ AllIn cnt n (val 18446744073709551616 ms) N xss) :
    Calls Tryz.prog 98 #[.pointer (some ⟨bM, 0, none⟩), .pointer (some ⟨bL, 0, none⟩), .pointer (some ⟨bT, 0, none⟩), .pointer (some ⟨bF, 0, none⟩), .pointer (some ⟨bO, 0, none⟩)] w fun e w' =>
      (n ≤ 130 ∧ ∃ (Y : Nat) (v' : Value) (w1 : World) (o1 : Tr), Row .u64 w1 v' (digs 18446744073709551616 Y n) ∧ (Fresh w v' ∧ U64s w1 v') ∧ (E = 0 → G Y) ∧ Did w o (List.replicate cnt (1, (n : Int), 0) ++ dE) w1 o1 ∧
        ((E = 0 ∧ e = .returned (.tuple #[]) ∧ w' = w1.setCell ⟨bO, 0, none⟩ v') ∨ (E ≠ 0 ∧ e = .panicked [refusal 1] ∧ w' = w1))) ∨
      (130 < n ∧ E ≠ 0 ∧ e = .panicked [refusal 1] ∧ w' = w) := by
  obtain ⟨_, _, _, e1, hLm, _, _, _, _⟩ := hm.1.open
  cases e1
  obtain ⟨tp, htp⟩ : ∃ tp, tp = trPtr o := ⟨_, rfl⟩
  obtain ⟨V, hV⟩ : ∃ V, V = val 18446744073709551616 ms := ⟨_, rfl⟩
  rw [← hV] at hE hdo
  have hti := ht.1
  have JM : Hid (∀ W m o', Did w o m W o' → W.cell? ⟨bM, 0, none⟩ = some (.slice ao n mcap) ∧ W.cell? ⟨bM, 1, none⟩ = some (.int .u64 (K : Nat)) ∧ W.cell? ⟨bM, 2, none⟩ = some (.slice bo l rcap)) := fun W m o' d => cells3 ((d.kept.block _ (lt_of_block hM) (cells_apart hM hti (by decide) (by decide))).trans hM)
  have JT : Hid (∀ W m o', Did w o m W o' → W.cell? ⟨bT, 0, none⟩ = some tp) := fun W m o' d => by rw [htp]; exact (hT.did d hti (by decide) (by decide)).cell
  have JF : Hid (∀ W m o', Did w o m W o' → W.cell? ⟨bF, 0, none⟩ = some (.func (.func f) #[] fcap)) := fun W m o' d => (hF.did d hti (by decide) (by decide)).cell
  have JO : Hid (∀ W m o', Did w o m W o' → W.cell? ⟨bO, 0, none⟩ = some (.slice none 0 0) ∧ W.frozen? ⟨bO, 0, none⟩ = false) := fun W m o' d => ⟨(hO.did d hti (by decide) (by decide)).cell, (hO.did d hti (by decide) (by decide)).free⟩
  have h0 := Did.of_kept (Kept.refl Nought w) hti
  obtain ⟨p0, p1, p2⟩ := JM.out _ _ _ h0
  have pL := hL.cell
  have hNo := mRefuseNo 1 w
  have hYes := mRefuseYes 1 w
  by_cases hn : n ≤ 130
  · have g1 : ¬ (n : Int) > 130 := by omega
    have JB : Hid (∀ W m o' i, Did w o m W o' → TrRoom W o' 1 → i < cnt → Calls Tryz.prog 99 #[tp, .agg #[.slice ao n mcap, .int .u64 (K : Nat), .slice bo l rcap], .slice (A i) (N i) (C i)] W fun e w' => e = .returned (.int .u64 ((memN (N i) n (val 18446744073709551616 (xss i)) V : Nat) : Int)) ∧ ∃ o2, Did W o' [(1, (n : Int), 0)] w' o2) := fun W m o' i d hr hi => by
      have := mMember o' ao bo (A i) n (N i) mcap l rcap (C i) K ms (xss i) W hr (hm.did d) ((hrow i hi).did d) hmd (hdig i hi) (by omega) _ rfl
      rw [d.ptr, ← htp, ← hV] at this
      exact this
    have JD : Hid (∀ W m o', Did w o m W o' → TrRoom W o' rm → Calls Tryz.prog f (#[.int .i64 (n : Int)] ++ fcap) W fun e w' => ∃ v', e = .returned v' ∧ Done W o' dE n (fun Y => okMod ms K rs → AllIn cnt n V N xss → G Y) w' v') := hdo hn
    have JK : Hid (∀ W m o' (R : Bool), Did w o m W o' → (R = true ↔ okMod ms K rs) → Calls Tryz.prog 100 #[.agg #[.slice ao n mcap, .int .u64 (K : Nat), .slice bo l rcap]] W fun e w' => e = .returned (.bool R) ∧ Kept Nought W w') := fun W m o' R d hR => mCheck ao bo n l K mcap rcap ms rs R hR W (hm.did d).1 (hr.did d).1 hmd hrd hK (by omega)
    have JS := toHid hs
    have HT := toHid ht
    have HE := toHid hE
    have H0 := toHid h0
    clear hm hr hmd hrd hK hs hrow hdig hM hL hT hF hO hdo hE hti htp hV ht h0 hYes hLm
    go_enter Tryz.func98, Tryz.ntmps98
    go_wp2_with fail
    refine hNo.mono ?_
    rintro e w1 ⟨rfl, rfl⟩
    clear hNo
    go_wp2_with fail
    go_loopw [6, 18] (fun mv i wr => ∃ (k : Nat) (o1 : Tr), k ≤ cnt ∧ i = .int .i64 (k : Int) ∧ mv = .int .u64 ((inN cnt n V N xss k : Nat) : Int) ∧ Hid (Did w1 o (List.replicate k (1, (n : Int), 0)) wr o1)) (fun _ i _ => cnt - (intOf i).toNat)
    case atStart => exact ⟨0, o, Nat.zero_le _, rfl, rfl, H0.out⟩
    case round =>
      obtain ⟨k, o1, hk, rfl, rfl, HD⟩ := hrel
      by_cases hkc : k < cnt
      · have gk0 : (0 : Int) ≤ (k : Int) := Int.natCast_nonneg _
        have gk : (k : Int) < (cnt : Int) := by omega
        obtain ⟨q0, q1, q2⟩ := JM.out _ _ _ HD.out
        have qT := JT.out _ _ _ HD.out
        obtain ⟨b2, off2, rfl, hc2⟩ := JS.out _ _ _ HD.out k hkc
        have hroom : TrRoom wr o1 1 := HD.out.room (by rw [List.length_replicate]; exact HT.out.less (by omega))
        have hB := JB.out wr _ o1 k HD.out hroom hkc
        have hbit := inN_bits cnt n V N xss k
        have HD' := toHid HD
        clear HD hroom
        generalize memN (N k) n (val 18446744073709551616 (xss k)) V = mm at *
        generalize hm2 : inN cnt n V N xss (k + 1) = m2 at *
        have HM2 := toHid hm2
        clear hm2
        generalize inN cnt n V N xss k = m1 at *
        go_wp2_with fail
        refine hB.mono ?_
        rintro e w2 ⟨rfl, o2, d2⟩
        have HD2 := toHid (HD'.out.out.trans d2)
        clear hB d2 q0 q1 q2 qT hc2
        go_wp2_with fail
        go_roundw
        case rel => exact ⟨k + 1, o2, by omega, by go_num, by rw [HM2.out], by unfold Hid; rw [List.replicate_succ']; exact HD2.out⟩
        case measure => simp [intOf]; omega
      · have gk : ¬ (k : Int) < (cnt : Int) := by omega
        obtain rfl : k = cnt := by omega
        have qF := JF.out _ _ _ HD.out
        have hroom : TrRoom wr o1 rm := HD.out.room (by rw [List.length_replicate]; exact HT.out)
        have hD := JD.out wr _ o1 HD.out hroom
        have HI := toHid (inN_iff k n V N xss k)
        have HIl := toHid (inN_le k n V N xss k)
        generalize inN k n V N xss k = mem at *
        go_wp2_with fail
        refine hD.mono ?_
        rintro e w3 ⟨v3, rfl, Y, o3, ho3, hG, d3⟩
        have D3 := toHid (HD.out.trans d3)
        obtain ⟨xo3, xc3, rfl⟩ := own_slice ho3
        have HR3 := toHid (own_row' ho3 (digs_length _ _ _))
        have HF3 : Hid (Fresh w1 (.slice xo3 n xc3) ∧ U64s w3 (.slice xo3 n xc3)) := ⟨Fresh.own ho3 HD.out.size, U64s.own ho3⟩
        have HG := toHid hG
        obtain ⟨q0, q1, q2⟩ := JM.out _ _ _ D3.out
        clear hD d3 ho3 hG qF hroom
        by_cases hok : okMod ms K rs
        · by_cases hall : AllIn k n V N xss
          · have hmem : mem = 1 := HI.out.2 hall
            subst hmem
            go_wp2_with fail
            refine (JK.out w3 _ o3 true D3.out (by simp [hok])).mono ?_
            rintro e w4 ⟨rfl, k4⟩
            have HD4 := toHid (D3.out.grew k4)
            have HR4 := toHid (HR3.out.grew k4)
            have HF4 := toHid (⟨HF3.out.1, HF3.out.2.grew k4⟩ : _ ∧ _)
            obtain ⟨x0, x1⟩ := JO.out _ _ _ HD4.out
            clear k4
            go_wp2_with fail
            refine (mRefuseNo 1 _).mono ?_
            rintro e w5 ⟨rfl, rfl⟩
            go_wp2_with fail
            go_end0
            exact .inl ⟨hn, Y, _, w5, o3, HR4.out, HF4.out, fun _ => HG.out hok hall, HD4.out, .inl ⟨HE.out.2 ⟨hok, hall⟩, rfl, rfl⟩⟩
          · have hmem : mem = 0 := by
              have h1 : mem ≠ 1 := fun h => hall (HI.out.1 h)
              have h2 := HIl.out
              omega
            subst hmem
            go_wp2_with fail
            refine (JK.out w3 _ o3 true D3.out (by simp [hok])).mono ?_
            rintro e w4 ⟨rfl, k4⟩
            have HD4 := toHid (D3.out.grew k4)
            have HR4 := toHid (HR3.out.grew k4)
            have HF4 := toHid (⟨HF3.out.1, HF3.out.2.grew k4⟩ : _ ∧ _)
            clear k4
            go_wp2_with fail
            refine (mRefuseYes 1 _).mono ?_
            rintro e w5 ⟨rfl, rfl⟩
            exact ⟨rfl, .inl ⟨hn, Y, _, _, o3, HR4.out, HF4.out, fun h => absurd (HE.out.1 h).2 hall, HD4.out, .inr ⟨fun h => hall (HE.out.1 h).2, rfl, rfl⟩⟩⟩
        · go_wp2_with fail
          refine (JK.out w3 _ o3 false D3.out (by simp [hok])).mono ?_
          rintro e w4 ⟨rfl, k4⟩
          have HD4 := toHid (D3.out.grew k4)
          have HR4 := toHid (HR3.out.grew k4)
          have HF4 := toHid (⟨HF3.out.1, HF3.out.2.grew k4⟩ : _ ∧ _)
          clear k4
          go_wp2_with fail
          refine (mRefuseYes 1 _).mono ?_
          rintro e w5 ⟨rfl, rfl⟩
          exact ⟨rfl, .inl ⟨hn, Y, _, _, o3, HR4.out, HF4.out, fun h => absurd (HE.out.1 h).1 hok, HD4.out, .inr ⟨fun h => hok (HE.out.1 h).1, rfl, rfl⟩⟩⟩
  · have g1 : (n : Int) > 130 := by omega
    have HE : Hid (E ≠ 0) := fun h => by
      have := (hE.1 h).1
      have h2 := (chk_iff (K := K) hLm.out rfl hmd hrd hK).1 this
      have h3 := h2.1
      unfold rfn at h3
      rw [if_pos (by omega)] at h3
      omega
    clear hm hr hmd hrd hK hs hrow hdig hM hL hT hF hO hdo hE hti htp hV ht h0 hNo hLm
    go_enter Tryz.func98, Tryz.ntmps98
    go_wp2_with fail
    refine hYes.mono ?_
    rintro e w1 ⟨rfl, rfl⟩
    exact ⟨rfl, .inr ⟨by omega, HE.out, rfl, rfl⟩⟩

end Go.Proofs.YtldbfcifoijliaaGreatDoor

/- Package mont: asked. -/
namespace Go.Proofs.YtldbfcifoijliaaGreatDoor
open Go.RowKit

/-- What asked answers beside the error. -/
def Answered (w : World) (o : Tr) (n E cnt : Nat) (dE : List Ev) (G : Nat → Prop) (w' : World) (v' : Value) : Prop :=
  (∃ Y, Row .u64 w' v' (if E = 0 then digs 18446744073709551616 Y n else []) ∧ (E = 0 → G Y)) ∧ (Fresh w v' ∧ U64s w' v') ∧ ∃ o', Did w o (if n ≤ 130 then List.replicate cnt (1, (n : Int), 0) ++ dE else []) w' o'

set_option maxRecDepth 20000 in
set_option maxHeartbeats 4000000 in
/-- asked. -/
theorem mAsked (o : Tr) (ao bo lo : Option Addr) (n l K mcap rcap cnt ccap f : Nat) (fcap : Array Value) (A : Nat → Option Addr) (N C : Nat → Nat) (xss : Nat → List Nat) (ms rs : List Nat) (E rm : Nat) (dE : List Ev) (G : Nat → Prop) (w : World) (hrm : dE.length ≤ rm)
    (ht : TrRoom w o (cnt + rm)) (hm : RowT w o (.slice ao n mcap) ms) (hr : RowT w o (.slice bo l rcap) rs) (hmd : Digs 18446744073709551616 ms) (hrd : Digs 18446744073709551616 rs) (hK : K < 18446744073709551616) (hnb : n ≤ 1000000) (hcnt : cnt ≤ 1000)
    (hs : ∀ W m o', Did w o m W o' → Slots W lo cnt A N C) (hrow : ∀ i, i < cnt → RowT w o (.slice (A i) (N i) (C i)) (xss i)) (hdig : ∀ i, i < cnt → Digs 18446744073709551616 (xss i))
    (hf : ∀ args w, (callFunc f args).run Tryz.prog w = .ok (.enter f args) w)
    (hdo : n ≤ 130 → ∀ W m o', Did w o m W o' → TrRoom W o' rm → Calls Tryz.prog f (#[.int .i64 (n : Int)] ++ fcap) W fun e w' => ∃ v', e = .returned v' ∧ Done W o' dE n (fun Y => okMod ms K rs → AllIn cnt n (val 18446744073709551616 ms) N xss → G Y) w' v')
    (hE : E = 0 ↔ okMod ms K rs ∧ AllIn cnt n (val 18446744073709551616 ms) N xss) (hE1 : E ≤ 1) :
    Calls Tryz.prog 81 #[trPtr o, .agg #[.slice ao n mcap, .int .u64 (K : Nat), .slice bo l rcap], .func (.func f) #[] fcap, .slice lo cnt ccap] w fun e w' => ∃ v', e = .returned (.tuple #[v', .int .i64 (E : Int)]) ∧ Answered w o n E cnt dE G w' v' := by
  have hmf : ∀ (fn : Fn) (first cap : Array Value) (w : World), (Instr.makeFunc fn first cap).run Tryz.prog w = .ok (.func fn first cap) w := fun _ _ _ _ => rfl
  have he : ∀ args w, (callFunc 98 args).run Tryz.prog w = .ok (.enter 98 args) w := fun _ _ => by simp [go_sem]
  obtain ⟨po, hpo⟩ := trPtr_shape o
  obtain ⟨W, hW⟩ : ∃ W, W = ((((w.alloc (.cells #[.pointer po] 105)).alloc (.cells #[.slice ao n mcap, .int .u64 (K : Nat), .slice bo l rcap] 52)).alloc (.cells #[.func (.func f) #[] fcap] 109)).alloc (.cells #[.slice lo cnt ccap] 122)).alloc (.cells #[.slice none 0 0] 23) := ⟨_, rfl⟩
  have k0 : Kept Nought w W := by rw [hW]; exact (((((Kept.refl Nought w).alloc _).alloc _).alloc _).alloc _).alloc _
  have hsz : W.heap.size = w.heap.size + 1 + 1 + 1 + 1 + 1 := by rw [hW]; simp
  have hT0 : Box W w.heap.size (.pointer po) 105 := by rw [hW]; exact ((((Box.new w _ _).alloc _).alloc _).alloc _).alloc _
  have hM0 : W.heap[w.heap.size + 1]? = some (.cells #[.slice ao n mcap, .int .u64 (K : Nat), .slice bo l rcap] 52 (0, 0)) := by
    rw [hW]
    refine heapAt_alloc (heapAt_alloc (heapAt_alloc ?_))
    have := heap_alloc_new (w.alloc (.cells #[.pointer po] 105)) (.cells #[.slice ao n mcap, .int .u64 (K : Nat), .slice bo l rcap] 52)
    rwa [show (w.alloc (.cells #[.pointer po] 105)).heap.size = w.heap.size + 1 by simp] at this
  have hF0 : Box W (w.heap.size + 1 + 1) (.func (.func f) #[] fcap) 109 := by
    rw [hW]
    refine Box.alloc (Box.alloc ?_ _) _
    have := Box.new ((w.alloc (.cells #[.pointer po] 105)).alloc (.cells #[.slice ao n mcap, .int .u64 (K : Nat), .slice bo l rcap] 52)) (.func (.func f) #[] fcap) 109
    rwa [show ((w.alloc (.cells #[.pointer po] 105)).alloc (.cells #[.slice ao n mcap, .int .u64 (K : Nat), .slice bo l rcap] 52)).heap.size = w.heap.size + 1 + 1 by simp] at this
  have hL0 : Box W (w.heap.size + 1 + 1 + 1) (.slice lo cnt ccap) 122 := by
    rw [hW]
    refine Box.alloc ?_ _
    have := Box.new (((w.alloc (.cells #[.pointer po] 105)).alloc (.cells #[.slice ao n mcap, .int .u64 (K : Nat), .slice bo l rcap] 52)).alloc (.cells #[.func (.func f) #[] fcap] 109)) (.slice lo cnt ccap) 122
    rwa [show (((w.alloc (.cells #[.pointer po] 105)).alloc (.cells #[.slice ao n mcap, .int .u64 (K : Nat), .slice bo l rcap] 52)).alloc (.cells #[.func (.func f) #[] fcap] 109)).heap.size = w.heap.size + 1 + 1 + 1 by simp] at this
  have hO0 : Box W (w.heap.size + 1 + 1 + 1 + 1) (.slice none 0 0) 23 := by
    rw [hW]
    have := Box.new ((((w.alloc (.cells #[.pointer po] 105)).alloc (.cells #[.slice ao n mcap, .int .u64 (K : Nat), .slice bo l rcap] 52)).alloc (.cells #[.func (.func f) #[] fcap] 109)).alloc (.cells #[.slice lo cnt ccap] 122)) (.slice none 0 0) 23
    rwa [show ((((w.alloc (.cells #[.pointer po] 105)).alloc (.cells #[.slice ao n mcap, .int .u64 (K : Nat), .slice bo l rcap] 52)).alloc (.cells #[.func (.func f) #[] fcap] 109)).alloc (.cells #[.slice lo cnt ccap] 122)).heap.size = w.heap.size + 1 + 1 + 1 + 1 by simp] at this
  have k1 := k0.alloc (.cells #[.int .i64 0] 28)
  have xe := Box.new W (.int .i64 0) 28
  have h1 := mAsked1 o ao bo lo n l K mcap rcap cnt ccap f fcap A N C xss ms rs (w.heap.size + 1) (w.heap.size + 1 + 1 + 1) w.heap.size (w.heap.size + 1 + 1) (w.heap.size + 1 + 1 + 1 + 1) E rm dE G _ (ht.grew k1) (hm.grew k1) (hr.grew k1) hmd hrd hK hnb hcnt (fun W' m o' d => hs W' m o' (Did.after k1 d)) (fun i hi => (hrow i hi).grew k1) hdig (heapAt_alloc hM0) (hL0.alloc _) (by rw [hpo]; exact hT0.alloc _) (hF0.alloc _) (hO0.alloc (.cells #[.int .i64 0] 28)) hf (fun hn W' m o' d => hdo hn W' m o' (Did.after k1 d)) hE
  have hszE : (W.alloc (.cells #[.int .i64 0] 28)).heap.size = W.heap.size + 1 := by simp
  have hAt := mAttempt 98 #[.pointer (some ⟨w.heap.size + 1, 0, none⟩), .pointer (some ⟨w.heap.size + 1 + 1 + 1, 0, none⟩), .pointer (some ⟨w.heap.size, 0, none⟩), .pointer (some ⟨w.heap.size + 1 + 1, 0, none⟩), .pointer (some ⟨w.heap.size + 1 + 1 + 1 + 1, 0, none⟩)] W
    (fun c W' => c = (E : Int) ∧ ∃ (Y : Nat) (v' : Value) (o1 : Tr), Row .u64 W' v' (if E = 0 then digs 18446744073709551616 Y n else []) ∧ (E = 0 → G Y) ∧ ((∀ x, v'.ownBlock = some x → W.heap.size + 1 ≤ x) ∧ U64s W' v') ∧ Did w o (if n ≤ 130 then List.replicate cnt (1, (n : Int), 0) ++ dE else []) W' o1 ∧ TrIn W' o1 ∧ Box W' (w.heap.size + 1 + 1 + 1 + 1) v' 23) he (h1.mono (by
    have htE : TrIn (W.alloc (.cells #[.int .i64 0] 28)) o := (ht.grew k1).1
    rintro e w' (⟨hn, Y, v', w1, o1, hR, hF, hG, d, hcase⟩ | ⟨hn, h2, rfl, rfl⟩)
    · have hxE := xe.did d htE (by decide) (by decide)
      have hxO := (hO0.alloc (.cells #[.int .i64 0] 28)).did d htE (by decide) (by decide)
      have ti1 : TrIn w1 o1 := (d.room (k := 0) ((ht.grew k1).less (by rw [List.length_append, List.length_replicate]; omega))).1
      have hF' : ∀ x, v'.ownBlock = some x → W.heap.size + 1 ≤ x := fun x hx => by have := hF.1 x hx; omega
      rcases hcase with ⟨h2, rfl, rfl⟩ | ⟨h2, rfl, rfl⟩
      · have kb := kept_box w1 (w.heap.size + 1 + 1 + 1 + 1) v'
        have hap := hxO.apart ti1 (by decide) (by decide)
        have d2 := (Did.after k1 d).wroteNew kb (by omega) hap
        refine ⟨hxE.kept kb (by omega), .inl ⟨rfl, by rw [h2]; rfl, Y, v', o1, ?_, hG, ⟨hF', hF.2.kept kb (fun x hx e => by have := hF' x hx; omega)⟩, ?_, ?_, hxO.set v'⟩⟩
        · rw [if_pos h2]
          exact hR.kept kb (fun x hx e => by have := hF' x hx; omega)
        · rw [if_pos hn]
          exact d2
        · exact (d2.room (k := 0) (ht.less (by rw [List.length_append, List.length_replicate]; omega))).1
      · refine ⟨hxE, .inr ⟨1, rfl, by omega, Y, .slice none 0 0, o1, ?_, hG, ⟨(fun x hx => by cases hx), U64s.nil _⟩, ?_, ti1, hxO⟩⟩
        · rw [if_neg h2]
          exact Row.nil _ _
        · rw [if_pos hn]
          exact Did.after k1 d
    · refine ⟨xe, .inr ⟨1, rfl, by omega, 0, .slice none 0 0, o, ?_, (fun h => absurd h h2), ⟨(fun x hx => by cases hx), U64s.nil _⟩, ?_, htE, hO0.alloc _⟩⟩
      · rw [if_neg h2]
        exact Row.nil _ _
      · rw [if_neg (by omega)]
        exact Did.of_kept k1 ht.1))
  have HW := toHid hW
  have HSZ := toHid hsz
  have HT := toHid ht
  rw [hpo]
  clear h1 hm hr hmd hrd hK hnb hcnt hs hrow hdig hdo hE hE1 hW k0 k1 hM0 hO0 hL0 hF0 hT0 xe he hsz hszE ht hpo hf
  go_enter Tryz.func81, Tryz.ntmps81
  go_wp2_with (rw [← HW.out])
  refine hAt.mono ?_
  rintro e w' ⟨c, w1, rfl, ⟨⟨rfl, Y, v', o1, hR, hG, hF, d, ti, hO⟩, hbe⟩, rfl⟩
  obtain ⟨xo, xn, xc, rfl, _, _, _, _, _⟩ := hR.open
  have hbe' : Box w1 W.heap.size (.int .i64 0) 28 := hbe
  have k3 := kept_box w1 W.heap.size (.int .i64 (E : Int))
  have hne : w.heap.size + 1 + 1 + 1 + 1 ≠ W.heap.size := by have := HSZ.out; omega
  have hO3 := hO.other ⟨W.heap.size, 0, none⟩ hne (.int .i64 (E : Int))
  have d3 := d.wroteNew k3 (by have := HSZ.out; omega) (hbe'.apart ti (by decide) (by decide))
  have ti3 : TrIn (w1.setCell ⟨W.heap.size, 0, none⟩ (.int .i64 (E : Int))) o1 := (d3.room (k := 0) (HT.out.less (by split <;> simp <;> omega))).1
  have hR3 := hR.kept k3 (fun x hx e => by have := hF.1 x hx; omega)
  have hU3 := hF.2.kept k3 (fun x hx e => by have := hF.1 x hx; omega)
  generalize w1.setCell ⟨W.heap.size, 0, none⟩ (.int .i64 (E : Int)) = w2 at *
  have c0 := hO3.cell
  have f0 := hO3.free
  have c1 := (hO3.set (.slice xo xn xc)).cell
  have k4 := kept_box w2 (w.heap.size + 1 + 1 + 1 + 1) (.slice xo xn xc)
  have HR := toHid (hR3.kept k4 (fun x hx e => by have := hF.1 x hx; have := HSZ.out; omega))
  have HU := toHid (hU3.kept k4 (fun x hx e => by have := hF.1 x hx; have := HSZ.out; omega))
  have HD := toHid (d3.wroteNew k4 (by omega) (hO3.apart ti3 (by decide) (by decide)))
  have HF : Hid (Fresh w (.slice xo xn xc)) := fun x hx => by have := hF.1 x hx; have := HSZ.out; omega
  have HG := toHid hG
  clear hAt hR hR3 hU3 hG hF d d3 ti ti3 hO hO3 hbe hbe' k3 k4
  go_wp2_with fail
  exact bodyPost_ret (v := .tuple #[.slice xo xn xc, .int .i64 (E : Int)]) (by simp [results, Tryz.results81, go_sem, c1]) rfl ⟨_, rfl, ⟨Y, HR.out, HG.out⟩, ⟨HF.out, HU.out⟩, o1, HD.out⟩

end Go.Proofs.YtldbfcifoijliaaGreatDoor

/- Package mont: Mul. -/
namespace Go.Proofs.YtldbfcifoijliaaGreatDoor
open Go.RowKit

/-- What a modulus that is one has. -/
theorem okMod.facts {ms rs : List Nat} {K n l : Nat} (h : okMod ms K rs) (hn : ms.length = n) (hl : rs.length = l) (hmd : Digs 18446744073709551616 ms) (hrd : Digs 18446744073709551616 rs) (hK : K < 18446744073709551616) :
    (val 18446744073709551616 ms * K + 1) % 18446744073709551616 = 0 ∧ 0 < n ∧ n ≤ 130 ∧ l = n ∧ val 18446744073709551616 ms % 2 = 1 ∧ val 18446744073709551616 ms < 18446744073709551616 ^ n ∧ val 18446744073709551616 rs = 18446744073709551616 ^ (2 * n) % val 18446744073709551616 ms := by
  obtain ⟨h1, h2, h3, h4⟩ := (chk_iff hn hl hmd hrd hK).1 h
  have hVn : val 18446744073709551616 ms < 18446744073709551616 ^ n := by rw [← hn]; exact val_lt (by omega) hmd
  obtain ⟨V, hV⟩ : ∃ V, V = val 18446744073709551616 ms := ⟨_, rfl⟩
  rw [← hV] at h1 h2 h4 hVn ⊢
  have m := montE_ok h.1
  rw [← hV] at m
  unfold prepN at h4
  by_cases h5 : (V * K + 1) % 18446744073709551616 = 0 ∧ val 18446744073709551616 rs = 18446744073709551616 ^ (2 * n) % V
  · refine ⟨h5.1, ?_, by omega, h3, m.2.2, hVn, h5.2⟩
    rcases Nat.eq_zero_or_pos n with h0 | h0
    · rw [h0, Nat.pow_zero] at hVn
      omega
    · exact h0
  · rw [if_neg h5] at h4
    omega

/-- The events of times. -/
def timesEvs (n : Nat) : List Ev := List.replicate n (1, (n : Int), 0) ++ List.replicate (n + 2) (1, (n : Int), 0)

theorem Reduced.done {W : World} {o : Tr} {m : List Ev} {n K X V : Nat} {w' : World} {v' : Value} {G : Nat → Prop} (h : Reduced W o m n K X V w' v') (hG : ∀ Y, ((V * K + 1) % 18446744073709551616 = 0 → 0 < n → X < V * 18446744073709551616 ^ n → Y < V ∧ 18446744073709551616 ^ n * Y % V = X % V) → G Y) : Done W o (m ++ List.replicate (n + 2) (1, (n : Int), 0)) n G w' v' := by
  obtain ⟨Y, o', h1, h2, h3⟩ := h
  exact ⟨Y, o', h1, hG Y h2, h3⟩

/-- The product's place, whatever the numbers are. -/
def MulG (n V X Z : Nat) (Y : Nat) : Prop := Y < V ∧ 2 ^ (64 * n) * Y % V = (X * Z) % V

set_option maxRecDepth 20000 in
set_option maxHeartbeats 4000000 in
/-- What Mul asks for. -/
theorem mMul1 (o : Tr) (ao bo xo yo : Option Addr) (n l K mcap rcap N1 N2 xc yc bT bM bA bB : Nat) (ms rs xs ys : List Nat) (w : World)
    (ht : TrRoom w o 1000) (hm : RowT w o (.slice ao n mcap) ms) (hx : RowT w o (.slice xo N1 xc) xs) (hy : RowT w o (.slice yo N2 yc) ys) (hmd : Digs 18446744073709551616 ms) (hrd : Digs 18446744073709551616 rs) (hdx : Digs 18446744073709551616 xs) (hdy : Digs 18446744073709551616 ys) (hrl : rs.length = l) (hK : K < 18446744073709551616) (hn : n ≤ 130)
    (hT : Box w bT (trPtr o) 105) (hM : w.heap[bM]? = some (.cells #[.slice ao n mcap, .int .u64 (K : Nat), .slice bo l rcap] 52 (0, 0))) (hA : Box w bA (.slice xo N1 xc) 23) (hB : Box w bB (.slice yo N2 yc) 23) :
    Calls Tryz.prog 105 #[.int .i64 (n : Int), .pointer (some ⟨bT, 0, none⟩), .pointer (some ⟨bM, 0, none⟩), .pointer (some ⟨bA, 0, none⟩), .pointer (some ⟨bB, 0, none⟩)] w fun e w' => ∃ v', e = .returned v' ∧
      Done w o (timesEvs n) n (fun Y => okMod ms K rs → (N1 = n ∧ val 18446744073709551616 xs < val 18446744073709551616 ms) → (N2 = n ∧ val 18446744073709551616 ys < val 18446744073709551616 ms) → MulG n (val 18446744073709551616 ms) (val 18446744073709551616 xs) (val 18446744073709551616 ys) Y) w' v' := by
  obtain ⟨_, _, _, e1, hLm, _, _, _, _⟩ := hm.1.open
  cases e1
  obtain ⟨po, hpo⟩ := trPtr_shape o
  have hti := ht.1
  have JC : Hid (∀ W m o', Did w o m W o' → W.cell? ⟨bT, 0, none⟩ = some (.pointer po) ∧ W.cell? ⟨bA, 0, none⟩ = some (.slice xo N1 xc) ∧ W.cell? ⟨bB, 0, none⟩ = some (.slice yo N2 yc) ∧ W.cell? ⟨bM, 0, none⟩ = some (.slice ao n mcap) ∧ W.cell? ⟨bM, 1, none⟩ = some (.int .u64 (K : Nat)) ∧ W.cell? ⟨bM, 2, none⟩ = some (.slice bo l rcap)) := fun W m o' d => by
    rw [← hpo]
    exact ⟨(hT.did d hti (by decide) (by decide)).cell, (hA.did d hti (by decide) (by decide)).cell, (hB.did d hti (by decide) (by decide)).cell, cells3 ((d.kept.block _ (lt_of_block hM) (cells_apart hM hti (by decide) (by decide))).trans hM)⟩
  have JF : Hid (∀ W (zo : Option Addr) (z zc : Nat) (zs : List Nat), Kept Nought w W → RowT w o (.slice zo z zc) zs → Digs 18446744073709551616 zs → Calls Tryz.prog 84 #[.slice zo z zc, .int .i64 (n : Int)] W fun e w' => ∃ g, e = .returned (.slice (some ⟨g, 0, none⟩) n n) ∧ Kept Nought W w' ∧ RowT w' o (.slice (some ⟨g, 0, none⟩) n n) (digs 18446744073709551616 (val 18446744073709551616 zs) n)) := fun W zo z zc zs k hz hdz => by
    refine (mFit (.slice zo z zc) zs n W (hz.1.grew k) hdz (by omega)).mono ?_
    rintro e w' ⟨rfl, ho, k'⟩
    exact ⟨_, rfl, k', own_rowT ho (digs_length _ _ _) (ht.grew (k.trans k')).1⟩
  have JX : Hid (∀ W, Kept Nought w W → Calls Tryz.prog 84 #[.slice xo N1 xc, .int .i64 (n : Int)] W fun e w' => ∃ g, e = .returned (.slice (some ⟨g, 0, none⟩) n n) ∧ Kept Nought W w' ∧ RowT w' o (.slice (some ⟨g, 0, none⟩) n n) (digs 18446744073709551616 (val 18446744073709551616 xs) n)) := fun W k => JF.out W _ _ _ _ k hx hdx
  have JY : Hid (∀ W, Kept Nought w W → Calls Tryz.prog 84 #[.slice yo N2 yc, .int .i64 (n : Int)] W fun e w' => ∃ g, e = .returned (.slice (some ⟨g, 0, none⟩) n n) ∧ Kept Nought W w' ∧ RowT w' o (.slice (some ⟨g, 0, none⟩) n n) (digs 18446744073709551616 (val 18446744073709551616 ys) n)) := fun W k => JF.out W _ _ _ _ k hy hdy
  have JT : Hid (∀ W g h, Kept Nought w W → RowT W o (.slice (some ⟨g, 0, none⟩) n n) (digs 18446744073709551616 (val 18446744073709551616 xs) n) → RowT W o (.slice (some ⟨h, 0, none⟩) n n) (digs 18446744073709551616 (val 18446744073709551616 ys) n) → Calls Tryz.prog 83 #[.pointer po, .agg #[.slice ao n mcap, .int .u64 (K : Nat), .slice bo l rcap], .slice (some ⟨g, 0, none⟩) n n, .slice (some ⟨h, 0, none⟩) n n] W fun e w' => ∃ v', e = .returned v' ∧ Done w o (timesEvs n) n (fun Y => okMod ms K rs → (N1 = n ∧ val 18446744073709551616 xs < val 18446744073709551616 ms) → (N2 = n ∧ val 18446744073709551616 ys < val 18446744073709551616 ms) → MulG n (val 18446744073709551616 ms) (val 18446744073709551616 xs) (val 18446744073709551616 ys) Y) w' v') := fun W g h k hg hh => by
    have := mTimes o n K mcap l rcap n n ao bo _ _ _ _ ms W (ht.grew k) hg hh (hm.grew k) (digs_digs (by omega) _ _) (digs_digs (by omega) _ _) hmd hn
    rw [hpo] at this
    refine this.mono ?_
    rintro e w' ⟨v', rfl, hR⟩
    refine ⟨v', rfl, ?_⟩
    obtain ⟨Y, o', h1, h2, h3⟩ := hR.done (G := fun Y => okMod ms K rs → (N1 = n ∧ val 18446744073709551616 xs < val 18446744073709551616 ms) → (N2 = n ∧ val 18446744073709551616 ys < val 18446744073709551616 ms) → MulG n (val 18446744073709551616 ms) (val 18446744073709551616 xs) (val 18446744073709551616 ys) Y) (fun Y hY hok h1 h2 => by
      obtain ⟨f1, f2, f3, f4, f5, f6, f7⟩ := hok.facts hLm.out hrl hmd hrd hK
      rw [val_digs, val_digs, Nat.mod_eq_of_lt (Nat.lt_trans h1.2 f6), Nat.mod_eq_of_lt (Nat.lt_trans h2.2 f6)] at hY
      have := hY f1 f2 (Nat.mul_lt_mul_of_lt_of_le h1.2 (Nat.le_of_lt (Nat.lt_trans h2.2 f6)) (Nat.pow_pos (by omega)))
      rw [B64] at this
      exact this)
    exact ⟨Y, o', own_base h1 (fun b hb => Nat.le_trans k.size (h1.lt b hb).1), h2, Did.after k h3⟩
  have h0 := Did.of_kept (Kept.refl Nought w) hti
  obtain ⟨c0, c1, c2, c3, c4, c5⟩ := JC.out _ _ _ h0
  have HTI := toHid hti
  have JD : Hid (∀ (W : World) (v' : Value) (G : Nat → Prop), Done w o (timesEvs n) n G W v' → ∃ m o', Did w o m W o') := fun W v' G h => by
    obtain ⟨Y, o', _, _, d⟩ := h
    exact ⟨_, _, d⟩
  clear ht hm hx hy hmd hrd hdx hdy hrl hK hT hM hA hB hpo hti h0 JF hLm
  generalize (fun Y => okMod ms K rs → (N1 = n ∧ val 18446744073709551616 xs < val 18446744073709551616 ms) → (N2 = n ∧ val 18446744073709551616 ys < val 18446744073709551616 ms) → MulG n (val 18446744073709551616 ms) (val 18446744073709551616 xs) (val 18446744073709551616 ys) Y) = G at *
  generalize val 18446744073709551616 xs = X at *
  generalize val 18446744073709551616 ys = Z at *
  go_enter Tryz.func105, Tryz.ntmps105
  go_wp2_with fail
  go_region_held3 (fun w' => w'.cell? ⟨bT, 0, none⟩ = some (.pointer po) ∧ w'.cell? ⟨bA, 0, none⟩ = some (.slice xo N1 xc) ∧ w'.cell? ⟨bB, 0, none⟩ = some (.slice yo N2 yc) ∧ w'.cell? ⟨bM, 0, none⟩ = some (.slice ao n mcap) ∧ w'.cell? ⟨bM, 1, none⟩ = some (.int .u64 (K : Int)) ∧ w'.cell? ⟨bM, 2, none⟩ = some (.slice bo l rcap))
    (((try dsimp only); (repeat' apply And.intro) <;> first | (go_keep; done) | assumption))
    (first
    | (go_at_call_of 84 (Value.slice xo N1 xc); refine (JX.out _ ?_).mono ?_; (exact (Kept.refl _ _).drew); rintro e w2 ⟨g2, rfl, k2, r2⟩; obtain ⟨q0, q1, q2, q3, q4, q5⟩ := JC.out _ _ _ (Did.of_kept ((Kept.refl _ _).drew.trans k2) HTI.out))
    | (go_at_call_of 84 (Value.slice yo N2 yc); refine (JY.out _ ?_).mono ?_; (exact (Kept.refl _ _).drew.trans k2); rintro e w3 ⟨g3, rfl, k3, r3⟩; obtain ⟨s0, s1, s2, s3, s4, s5⟩ := JC.out _ _ _ (Did.of_kept ((Kept.refl _ _).drew.trans (k2.trans k3)) HTI.out))
    | (go_at_call 83; refine (JT.out _ g2 g3 ?_ ?_ ?_).mono ?_; (exact (Kept.refl _ _).drew.trans (k2.trans k3)); (exact r2.grew k3); (exact r3); rintro e w4 ⟨v4, rfl, hd4⟩; obtain ⟨m4, o4, d4⟩ := JD.out _ _ _ hd4; obtain ⟨t0, t1, t2, t3, t4, t5⟩ := JC.out _ _ _ d4))
  all_goals
    go_wp2_with fail
    go_ret
    exact ⟨_, rfl, hd4⟩

end Go.Proofs.YtldbfcifoijliaaGreatDoor

/- Package mont: Mul, whole. -/
namespace Go.Proofs.YtldbfcifoijliaaGreatDoor
open Go.RowKit

theorem two_slots {W : World} {g N1 N2 xc yc : Nat} {xo yo : Option Addr} {t : TypeId} (h : W.heap[g]? = some (.cells #[.slice xo N1 xc, .slice yo N2 yc] t (0, 0))) : Slots W (some ⟨g, 0, none⟩) 2 (fun i => if i = 0 then xo else yo) (fun i => if i = 0 then N1 else N2) (fun i => if i = 0 then xc else yc) := by
  intro i hi
  refine ⟨g, 0, rfl, ?_⟩
  have h01 : i = 0 ∨ i = 1 := by omega
  rcases h01 with rfl | rfl
  · exact (cell_of_row W g 0 _ _ _ h).trans rfl
  · exact (cell_of_row W g 1 _ _ _ h).trans rfl

theorem one_slot {W : World} {g N1 xc : Nat} {xo : Option Addr} {t : TypeId} (h : W.heap[g]? = some (.cells #[.slice xo N1 xc] t (0, 0))) : Slots W (some ⟨g, 0, none⟩) 1 (fun _ => xo) (fun _ => N1) (fun _ => xc) := by
  intro i hi
  refine ⟨g, 0, rfl, ?_⟩
  obtain rfl : i = 0 := by omega
  exact (cell_of_row W g 0 _ _ _ h).trans rfl

theorem Answered.after {w W : World} {o : Tr} {n E cnt : Nat} {dE : List Ev} {G : Nat → Prop} {w' : World} {v' : Value} (k : Kept Nought w W) (h : Answered W o n E cnt dE G w' v') : Answered w o n E cnt dE G w' v' := by
  obtain ⟨h1, h2, o', d⟩ := h
  exact ⟨h1, ⟨h2.1.after k, h2.2⟩, o', Did.after k d⟩

set_option maxRecDepth 20000 in
set_option maxHeartbeats 4000000 in
/-- Mul. -/
theorem mMul (o : Tr) (ao bo xo yo : Option Addr) (n l K mcap rcap N1 N2 xc yc E : Nat) (ms rs xs ys : List Nat) (w : World)
    (ht : TrRoom w o 2000) (hm : RowT w o (.slice ao n mcap) ms) (hr : RowT w o (.slice bo l rcap) rs) (hx : RowT w o (.slice xo N1 xc) xs) (hy : RowT w o (.slice yo N2 yc) ys) (hmd : Digs 18446744073709551616 ms) (hrd : Digs 18446744073709551616 rs) (hdx : Digs 18446744073709551616 xs) (hdy : Digs 18446744073709551616 ys) (hK : K < 18446744073709551616) (hnb : n ≤ 300)
    (hE : E = 0 ↔ okMod ms K rs ∧ (N1 = n ∧ val 18446744073709551616 xs < val 18446744073709551616 ms) ∧ (N2 = n ∧ val 18446744073709551616 ys < val 18446744073709551616 ms)) (hE1 : E ≤ 1) :
    Calls Tryz.prog 89 #[trPtr o, .agg #[.slice ao n mcap, .int .u64 (K : Nat), .slice bo l rcap], .slice xo N1 xc, .slice yo N2 yc] w fun e w' => ∃ v', e = .returned (.tuple #[v', .int .i64 (E : Int)]) ∧ Answered w o n E 2 (timesEvs n) (MulG n (val 18446744073709551616 ms) (val 18446744073709551616 xs) (val 18446744073709551616 ys)) w' v' := by
  have hmf : ∀ (fn : Fn) (first cap : Array Value) (w : World), (Instr.makeFunc fn first cap).run Tryz.prog w = .ok (.func fn first cap) w := fun _ _ _ _ => rfl
  have he : ∀ args w, (callFunc 105 args).run Tryz.prog w = .ok (.enter 105 args) w := fun _ _ => by simp [go_sem]
  obtain ⟨po, hpo⟩ := trPtr_shape o
  obtain ⟨_, _, _, e1, hLr, _, _, _, _⟩ := hr.1.open
  cases e1
  obtain ⟨W, hW⟩ : ∃ W, W = (((w.alloc (.cells #[.pointer po] 105)).alloc (.cells #[.slice ao n mcap, .int .u64 (K : Nat), .slice bo l rcap] 52)).alloc (.cells #[.slice xo N1 xc] 23)).alloc (.cells #[.slice yo N2 yc] 23) := ⟨_, rfl⟩
  have k0 : Kept Nought w W := by rw [hW]; exact ((((Kept.refl Nought w).alloc _).alloc _).alloc _).alloc _
  have hT0 : Box W w.heap.size (.pointer po) 105 := by rw [hW]; exact (((Box.new w _ _).alloc _).alloc _).alloc _
  have hM0 : W.heap[w.heap.size + 1]? = some (.cells #[.slice ao n mcap, .int .u64 (K : Nat), .slice bo l rcap] 52 (0, 0)) := by
    rw [hW]
    refine heapAt_alloc (heapAt_alloc ?_)
    have := heap_alloc_new (w.alloc (.cells #[.pointer po] 105)) (.cells #[.slice ao n mcap, .int .u64 (K : Nat), .slice bo l rcap] 52)
    rwa [show (w.alloc (.cells #[.pointer po] 105)).heap.size = w.heap.size + 1 by simp] at this
  have hA0 : Box W (w.heap.size + 1 + 1) (.slice xo N1 xc) 23 := by
    rw [hW]
    refine Box.alloc ?_ _
    have := Box.new ((w.alloc (.cells #[.pointer po] 105)).alloc (.cells #[.slice ao n mcap, .int .u64 (K : Nat), .slice bo l rcap] 52)) (.slice xo N1 xc) 23
    rwa [show ((w.alloc (.cells #[.pointer po] 105)).alloc (.cells #[.slice ao n mcap, .int .u64 (K : Nat), .slice bo l rcap] 52)).heap.size = w.heap.size + 1 + 1 by simp] at this
  have hB0 : Box W (w.heap.size + 1 + 1 + 1) (.slice yo N2 yc) 23 := by
    rw [hW]
    have := Box.new (((w.alloc (.cells #[.pointer po] 105)).alloc (.cells #[.slice ao n mcap, .int .u64 (K : Nat), .slice bo l rcap] 52)).alloc (.cells #[.slice xo N1 xc] 23)) (.slice yo N2 yc) 23
    rwa [show (((w.alloc (.cells #[.pointer po] 105)).alloc (.cells #[.slice ao n mcap, .int .u64 (K : Nat), .slice bo l rcap] 52)).alloc (.cells #[.slice xo N1 xc] 23)).heap.size = w.heap.size + 1 + 1 + 1 by simp] at this
  obtain ⟨Wl, hWl⟩ : ∃ Wl, Wl = W.alloc (.cells #[.slice xo N1 xc, .slice yo N2 yc] 23) := ⟨_, rfl⟩
  have kl : Kept Nought W Wl := by rw [hWl]; exact (Kept.refl Nought W).alloc _
  have hl0 : Wl.heap[W.heap.size]? = some (.cells #[.slice xo N1 xc, .slice yo N2 yc] 23 (0, 0)) := by rw [hWl]; exact heap_alloc_new _ _
  have kk := k0.trans kl
  have hAsk := mAsked o ao bo (some ⟨W.heap.size, 0, none⟩) n l K mcap rcap 2 2 105 #[.pointer (some ⟨w.heap.size, 0, none⟩), .pointer (some ⟨w.heap.size + 1, 0, none⟩), .pointer (some ⟨w.heap.size + 1 + 1, 0, none⟩), .pointer (some ⟨w.heap.size + 1 + 1 + 1, 0, none⟩)]
    (fun i => if i = 0 then xo else yo) (fun i => if i = 0 then N1 else N2) (fun i => if i = 0 then xc else yc) (fun i => if i = 0 then xs else ys) ms rs E 1998 (timesEvs n) (MulG n (val 18446744073709551616 ms) (val 18446744073709551616 xs) (val 18446744073709551616 ys)) Wl (by unfold timesEvs; simp; omega)
    (ht.grew kk) (hm.grew kk) (hr.grew kk) hmd hrd hK (by omega) (by omega)
    (fun W' m o' d => two_slots ((d.kept.block _ (lt_of_block hl0) (cells_apart hl0 (ht.grew kk).1 (by decide) (by decide))).trans hl0))
    (fun i hi => by
      have h01 : i = 0 ∨ i = 1 := by omega
      rcases h01 with rfl | rfl
      · exact hx.grew kk
      · exact hy.grew kk)
    (fun i hi => by
      have h01 : i = 0 ∨ i = 1 := by omega
      rcases h01 with rfl | rfl
      · exact hdx
      · exact hdy)
    he
    (fun hn W' m o' d hroom => by
      have hti := (ht.grew kk).1
      refine (mMul1 o' ao bo xo yo n l K mcap rcap N1 N2 xc yc w.heap.size (w.heap.size + 1) (w.heap.size + 1 + 1) (w.heap.size + 1 + 1 + 1) ms rs xs ys W' (hroom.less (by omega)) ((hm.grew kk).did d) ((hx.grew kk).did d) ((hy.grew kk).did d) hmd hrd hdx hdy hLr.out hK hn (by rw [d.ptr, hpo]; exact (hT0.grew kl).did d hti (by decide) (by decide)) ((d.kept.block _ (lt_of_block ((kl.block _ (lt_of_block hM0) (fun f => f)).trans hM0)) (cells_apart ((kl.block _ (lt_of_block hM0) (fun f => f)).trans hM0) hti (by decide) (by decide))).trans ((kl.block _ (lt_of_block hM0) (fun f => f)).trans hM0)) ((hA0.grew kl).did d hti (by decide) (by decide)) ((hB0.grew kl).did d hti (by decide) (by decide))).mono ?_
      rintro e w' ⟨v', rfl, Y, o2, h1, h2, h3⟩
      exact ⟨v', rfl, Y, o2, h1, fun hok hall => h2 hok (hall 0 (by omega)) (hall 1 (by omega)), h3⟩)
    (by
      rw [hE]
      refine and_congr_right fun _ => ⟨fun h i hi => ?_, fun h => ⟨h 0 (by omega), h 1 (by omega)⟩⟩
      have h01 : i = 0 ∨ i = 1 := by omega
      rcases h01 with rfl | rfl
      · exact h.1
      · exact h.2) hE1
  have HB : Hid (∀ w' v', Answered Wl o n E 2 (timesEvs n) (MulG n (val 18446744073709551616 ms) (val 18446744073709551616 xs) (val 18446744073709551616 ys)) w' v' → Answered w o n E 2 (timesEvs n) (MulG n (val 18446744073709551616 ms) (val 18446744073709551616 xs) (val 18446744073709551616 ys)) w' v') := fun w' v' h => h.after kk
  have hsz : W.heap.size = w.heap.size + 1 + 1 + 1 + 1 := by rw [hW]; simp
  rw [hsz] at hAsk
  have HW := toHid hW
  have HWl := toHid hWl
  have JM := cells3 hM0
  obtain ⟨c3, c4, c5⟩ := JM
  have c0 := hT0.cell
  have c1 := hA0.cell
  have c2 := hB0.cell
  rw [hpo] at hAsk ⊢
  clear ht hm hr hx hy hmd hrd hdx hdy hK hnb hE hE1 hpo k0 hT0 hM0 hA0 hB0 hW hWl hl0 kk kl he hLr hsz
  generalize MulG n (val 18446744073709551616 ms) (val 18446744073709551616 xs) (val 18446744073709551616 ys) = G at *
  go_enter Tryz.func89, Tryz.ntmps89
  go_wp2_with fail
  rw [← HW.out, ← HWl.out]
  refine hAsk.mono ?_
  rintro e w1 ⟨v1, rfl, h1⟩
  have H1 := toHid (HB.out _ _ h1)
  clear hAsk h1 c0 c1 c2 c3 c4 c5
  go_wp2_with fail
  go_ret2
  exact ⟨_, rfl, H1.out⟩

end Go.Proofs.YtldbfcifoijliaaGreatDoor

/- Package mont: what Enter and Leave ask for. -/
namespace Go.Proofs.YtldbfcifoijliaaGreatDoor
open Go.RowKit

/-- What goes in. -/
def EntG (n V X : Nat) (Y : Nat) : Prop := Y = 2 ^ (64 * n) * X % V

theorem ent_num {V n X Y : Nat} (hodd : V % 2 = 1) (hY : Y < V) (h : 18446744073709551616 ^ n * Y % V = (X * (18446744073709551616 ^ (2 * n) % V)) % V) : EntG n V X Y := by
  unfold EntG
  have hco : Nat.Coprime (18446744073709551616 ^ n) V := by rw [B64]; exact (odd_coprime hodd).symm
  rw [← B64, ← Nat.mod_eq_of_lt hY]
  apply cancel_mod hco
  rw [h, Nat.mul_mod, Nat.mod_mod, ← Nat.mul_mod, Nat.two_mul, Nat.pow_add]
  congr 1
  generalize 18446744073709551616 ^ n = p
  grind

/-- What comes out. -/
def LeaG (n V X : Nat) (Y : Nat) : Prop := Y < V ∧ 2 ^ (64 * n) * Y % V = X % V

set_option maxRecDepth 20000 in
set_option maxHeartbeats 4000000 in
/-- What Enter asks for. -/
theorem mEnter1 (o : Tr) (ao bo xo : Option Addr) (n l K mcap rcap N1 xc bT bM bA : Nat) (ms rs xs : List Nat) (w : World)
    (ht : TrRoom w o 1000) (hm : RowT w o (.slice ao n mcap) ms) (hx : RowT w o (.slice xo N1 xc) xs) (hy : RowT w o (.slice bo l rcap) rs) (hmd : Digs 18446744073709551616 ms) (hrd : Digs 18446744073709551616 rs) (hdx : Digs 18446744073709551616 xs) (hrl : rs.length = l) (hK : K < 18446744073709551616) (hn : n ≤ 130)
    (hT : Box w bT (trPtr o) 105) (hM : w.heap[bM]? = some (.cells #[.slice ao n mcap, .int .u64 (K : Nat), .slice bo l rcap] 52 (0, 0))) (hA : Box w bA (.slice xo N1 xc) 23) :
    Calls Tryz.prog 82 #[.int .i64 (n : Int), .pointer (some ⟨bT, 0, none⟩), .pointer (some ⟨bM, 0, none⟩), .pointer (some ⟨bA, 0, none⟩)] w fun e w' => ∃ v', e = .returned v' ∧
      Done w o (timesEvs n) n (fun Y => okMod ms K rs → (N1 = n ∧ val 18446744073709551616 xs < val 18446744073709551616 ms) → EntG n (val 18446744073709551616 ms) (val 18446744073709551616 xs) Y) w' v' := by
  obtain ⟨_, _, _, e1, hLm, _, _, _, _⟩ := hm.1.open
  cases e1
  obtain ⟨po, hpo⟩ := trPtr_shape o
  have hti := ht.1
  have JC : Hid (∀ W m o', Did w o m W o' → W.cell? ⟨bT, 0, none⟩ = some (.pointer po) ∧ W.cell? ⟨bA, 0, none⟩ = some (.slice xo N1 xc) ∧ W.cell? ⟨bM, 0, none⟩ = some (.slice ao n mcap) ∧ W.cell? ⟨bM, 1, none⟩ = some (.int .u64 (K : Nat)) ∧ W.cell? ⟨bM, 2, none⟩ = some (.slice bo l rcap)) := fun W m o' d => by
    rw [← hpo]
    exact ⟨(hT.did d hti (by decide) (by decide)).cell, (hA.did d hti (by decide) (by decide)).cell, cells3 ((d.kept.block _ (lt_of_block hM) (cells_apart hM hti (by decide) (by decide))).trans hM)⟩
  have JF : Hid (∀ W (zo : Option Addr) (z zc : Nat) (zs : List Nat), Kept Nought w W → RowT w o (.slice zo z zc) zs → Digs 18446744073709551616 zs → Calls Tryz.prog 84 #[.slice zo z zc, .int .i64 (n : Int)] W fun e w' => ∃ g, e = .returned (.slice (some ⟨g, 0, none⟩) n n) ∧ Kept Nought W w' ∧ RowT w' o (.slice (some ⟨g, 0, none⟩) n n) (digs 18446744073709551616 (val 18446744073709551616 zs) n)) := fun W zo z zc zs k hz hdz => by
    refine (mFit (.slice zo z zc) zs n W (hz.1.grew k) hdz (by omega)).mono ?_
    rintro e w' ⟨rfl, ho, k'⟩
    exact ⟨_, rfl, k', own_rowT ho (digs_length _ _ _) (ht.grew (k.trans k')).1⟩
  have JX : Hid (∀ W, Kept Nought w W → Calls Tryz.prog 84 #[.slice xo N1 xc, .int .i64 (n : Int)] W fun e w' => ∃ g, e = .returned (.slice (some ⟨g, 0, none⟩) n n) ∧ Kept Nought W w' ∧ RowT w' o (.slice (some ⟨g, 0, none⟩) n n) (digs 18446744073709551616 (val 18446744073709551616 xs) n)) := fun W k => JF.out W _ _ _ _ k hx hdx
  have JY : Hid (∀ W, Kept Nought w W → Calls Tryz.prog 84 #[.slice bo l rcap, .int .i64 (n : Int)] W fun e w' => ∃ g, e = .returned (.slice (some ⟨g, 0, none⟩) n n) ∧ Kept Nought W w' ∧ RowT w' o (.slice (some ⟨g, 0, none⟩) n n) (digs 18446744073709551616 (val 18446744073709551616 rs) n)) := fun W k => JF.out W _ _ _ _ k hy hrd
  have JT : Hid (∀ W g h, Kept Nought w W → RowT W o (.slice (some ⟨g, 0, none⟩) n n) (digs 18446744073709551616 (val 18446744073709551616 xs) n) → RowT W o (.slice (some ⟨h, 0, none⟩) n n) (digs 18446744073709551616 (val 18446744073709551616 rs) n) → Calls Tryz.prog 83 #[.pointer po, .agg #[.slice ao n mcap, .int .u64 (K : Nat), .slice bo l rcap], .slice (some ⟨g, 0, none⟩) n n, .slice (some ⟨h, 0, none⟩) n n] W fun e w' => ∃ v', e = .returned v' ∧ Done w o (timesEvs n) n (fun Y => okMod ms K rs → (N1 = n ∧ val 18446744073709551616 xs < val 18446744073709551616 ms) → EntG n (val 18446744073709551616 ms) (val 18446744073709551616 xs) Y) w' v') := fun W g h k hg hh => by
    have := mTimes o n K mcap l rcap n n ao bo _ _ _ _ ms W (ht.grew k) hg hh (hm.grew k) (digs_digs (by omega) _ _) (digs_digs (by omega) _ _) hmd hn
    rw [hpo] at this
    refine this.mono ?_
    rintro e w' ⟨v', rfl, hR⟩
    refine ⟨v', rfl, ?_⟩
    obtain ⟨Y, o', h1, h2, h3⟩ := hR.done (G := fun Y => okMod ms K rs → (N1 = n ∧ val 18446744073709551616 xs < val 18446744073709551616 ms) → EntG n (val 18446744073709551616 ms) (val 18446744073709551616 xs) Y) (fun Y hY hok h1 => by
      obtain ⟨f1, f2, f3, f4, f5, f6, f7⟩ := hok.facts hLm.out hrl hmd hrd hK
      have hRV : val 18446744073709551616 rs < val 18446744073709551616 ms := by rw [f7]; exact Nat.mod_lt _ (by omega)
      rw [val_digs, val_digs, Nat.mod_eq_of_lt (Nat.lt_trans h1.2 f6), Nat.mod_eq_of_lt (Nat.lt_trans hRV f6)] at hY
      have h2 := hY f1 f2 (Nat.mul_lt_mul_of_lt_of_le h1.2 (Nat.le_of_lt (Nat.lt_trans hRV f6)) (Nat.pow_pos (by omega)))
      exact ent_num f5 h2.1 (by rw [f7] at h2; exact h2.2))
    exact ⟨Y, o', own_base h1 (fun b hb => Nat.le_trans k.size (h1.lt b hb).1), h2, Did.after k h3⟩
  have h0 := Did.of_kept (Kept.refl Nought w) hti
  obtain ⟨c0, c1, c3, c4, c5⟩ := JC.out _ _ _ h0
  have HTI := toHid hti
  have JD : Hid (∀ (W : World) (v' : Value) (G : Nat → Prop), Done w o (timesEvs n) n G W v' → ∃ m o', Did w o m W o') := fun W v' G h => by
    obtain ⟨Y, o', _, _, d⟩ := h
    exact ⟨_, _, d⟩
  clear ht hm hx hy hmd hrd hdx hrl hK hT hM hA hpo hti h0 JF hLm
  generalize (fun Y => okMod ms K rs → (N1 = n ∧ val 18446744073709551616 xs < val 18446744073709551616 ms) → EntG n (val 18446744073709551616 ms) (val 18446744073709551616 xs) Y) = G at *
  generalize val 18446744073709551616 xs = X at *
  generalize val 18446744073709551616 rs = Z at *
  go_enter Tryz.func82, Tryz.ntmps82
  go_wp2_with fail
  go_region_held3 (fun w' => w'.cell? ⟨bT, 0, none⟩ = some (.pointer po) ∧ w'.cell? ⟨bA, 0, none⟩ = some (.slice xo N1 xc) ∧ w'.cell? ⟨bM, 0, none⟩ = some (.slice ao n mcap) ∧ w'.cell? ⟨bM, 1, none⟩ = some (.int .u64 (K : Int)) ∧ w'.cell? ⟨bM, 2, none⟩ = some (.slice bo l rcap))
    (((try dsimp only); (repeat' apply And.intro) <;> first | (go_keep; done) | assumption))
    (first
    | (go_at_call_of 84 (Value.slice xo N1 xc); refine (JX.out _ ?_).mono ?_; (exact (Kept.refl _ _).drew); rintro e w2 ⟨g2, rfl, k2, r2⟩; obtain ⟨q0, q1, q3, q4, q5⟩ := JC.out _ _ _ (Did.of_kept ((Kept.refl _ _).drew.trans k2) HTI.out))
    | (go_at_call_of 84 (Value.slice bo l rcap); refine (JY.out _ ?_).mono ?_; (exact (Kept.refl _ _).drew.trans k2); rintro e w3 ⟨g3, rfl, k3, r3⟩; obtain ⟨s0, s1, s3, s4, s5⟩ := JC.out _ _ _ (Did.of_kept ((Kept.refl _ _).drew.trans (k2.trans k3)) HTI.out))
    | (go_at_call 83; refine (JT.out _ g2 g3 ?_ ?_ ?_).mono ?_; (exact (Kept.refl _ _).drew.trans (k2.trans k3)); (exact r2.grew k3); (exact r3); rintro e w4 ⟨v4, rfl, hd4⟩; obtain ⟨m4, o4, d4⟩ := JD.out _ _ _ hd4; obtain ⟨t0, t1, t3, t4, t5⟩ := JC.out _ _ _ d4))
  all_goals
    go_wp2_with fail
    go_ret
    exact ⟨_, rfl, hd4⟩

set_option maxRecDepth 20000 in
set_option maxHeartbeats 4000000 in
/-- What Leave asks for. -/
theorem mLeave1 (o : Tr) (ao bo xo : Option Addr) (n l K mcap rcap N1 xc bT bM bA : Nat) (ms rs xs : List Nat) (w : World)
    (ht : TrRoom w o 1000) (hm : RowT w o (.slice ao n mcap) ms) (hx : RowT w o (.slice xo N1 xc) xs) (hmd : Digs 18446744073709551616 ms) (hrd : Digs 18446744073709551616 rs) (hdx : Digs 18446744073709551616 xs) (hrl : rs.length = l) (hK : K < 18446744073709551616) (hn : n ≤ 130)
    (hT : Box w bT (trPtr o) 105) (hM : w.heap[bM]? = some (.cells #[.slice ao n mcap, .int .u64 (K : Nat), .slice bo l rcap] 52 (0, 0))) (hA : Box w bA (.slice xo N1 xc) 23) :
    Calls Tryz.prog 85 #[.int .i64 (n : Int), .pointer (some ⟨bT, 0, none⟩), .pointer (some ⟨bM, 0, none⟩), .pointer (some ⟨bA, 0, none⟩)] w fun e w' => ∃ v', e = .returned v' ∧
      Done w o (List.replicate (n + 2) (1, (n : Int), 0)) n (fun Y => okMod ms K rs → (N1 = n ∧ val 18446744073709551616 xs < val 18446744073709551616 ms) → LeaG n (val 18446744073709551616 ms) (val 18446744073709551616 xs) Y) w' v' := by
  obtain ⟨_, _, _, e1, hLm, _, _, _, _⟩ := hm.1.open
  cases e1
  obtain ⟨po, hpo⟩ := trPtr_shape o
  have hti := ht.1
  obtain ⟨N, hN⟩ : ∃ N, N = n + n := ⟨_, rfl⟩
  have JC : Hid (∀ W m o', Did w o m W o' → W.cell? ⟨bT, 0, none⟩ = some (.pointer po) ∧ W.cell? ⟨bA, 0, none⟩ = some (.slice xo N1 xc) ∧ W.cell? ⟨bM, 0, none⟩ = some (.slice ao n mcap) ∧ W.cell? ⟨bM, 1, none⟩ = some (.int .u64 (K : Nat)) ∧ W.cell? ⟨bM, 2, none⟩ = some (.slice bo l rcap)) := fun W m o' d => by
    rw [← hpo]
    exact ⟨(hT.did d hti (by decide) (by decide)).cell, (hA.did d hti (by decide) (by decide)).cell, cells3 ((d.kept.block _ (lt_of_block hM) (cells_apart hM hti (by decide) (by decide))).trans hM)⟩
  have JX : Hid (∀ W, Kept Nought w W → Calls Tryz.prog 84 #[.slice xo N1 xc, .int .i64 (N : Int)] W fun e w' => ∃ g, e = .returned (.slice (some ⟨g, 0, none⟩) N N) ∧ Kept Nought w w' ∧ w.heap.size ≤ g ∧ OwnN .u64 24 w' g (.slice (some ⟨g, 0, none⟩) N N) N (digs 18446744073709551616 (val 18446744073709551616 xs) N)) := fun W k => by
    refine (mFit (.slice xo N1 xc) xs N W (hx.1.grew k) hdx (by omega)).mono ?_
    rintro e w' ⟨rfl, ho, k'⟩
    exact ⟨_, rfl, k.trans k', k.size, ho⟩
  have JT : Hid (∀ W g, Kept Nought w W → w.heap.size ≤ g → OwnN .u64 24 W g (.slice (some ⟨g, 0, none⟩) N N) N (digs 18446744073709551616 (val 18446744073709551616 xs) N) → Calls Tryz.prog 86 #[.pointer po, .agg #[.slice ao n mcap, .int .u64 (K : Nat), .slice bo l rcap], .slice (some ⟨g, 0, none⟩) N N] W fun e w' => ∃ v', e = .returned v' ∧ Done w o (List.replicate (n + 2) (1, (n : Int), 0)) n (fun Y => okMod ms K rs → (N1 = n ∧ val 18446744073709551616 xs < val 18446744073709551616 ms) → LeaG n (val 18446744073709551616 ms) (val 18446744073709551616 xs) Y) w' v') := fun W g k hg ho => by
    have := mReduced w o o [] g g N N n K mcap l rcap ao bo _ ms W (Did.of_kept k hti) (ht.less (by simp; omega)) hg ho (digs_length _ _ _) (digs_digs (by omega) _ _) hN (by omega) hm hmd
    rw [hpo] at this
    refine this.mono ?_
    rintro e w' ⟨v', rfl, hR⟩
    refine ⟨v', rfl, ?_⟩
    have := hR.done (G := fun Y => okMod ms K rs → (N1 = n ∧ val 18446744073709551616 xs < val 18446744073709551616 ms) → LeaG n (val 18446744073709551616 ms) (val 18446744073709551616 xs) Y) (fun Y hY hok h1 => by
      obtain ⟨f1, f2, f3, f4, f5, f6, f7⟩ := hok.facts hLm.out hrl hmd hrd hK
      have hp : 18446744073709551616 ^ n ≤ 18446744073709551616 ^ N := Nat.pow_le_pow_right (by omega) (by omega)
      rw [val_digs, Nat.mod_eq_of_lt (Nat.lt_of_lt_of_le (Nat.lt_trans h1.2 f6) hp)] at hY
      have := hY f1 f2 (Nat.lt_of_lt_of_le h1.2 (Nat.le_mul_of_pos_right _ (Nat.pow_pos (by omega))))
      rw [B64] at this
      exact this)
    exact this
  have h0 := Did.of_kept (Kept.refl Nought w) hti
  obtain ⟨c0, c1, c3, c4, c5⟩ := JC.out _ _ _ h0
  have HTI := toHid hti
  have JD : Hid (∀ (W : World) (v' : Value) (G : Nat → Prop), Done w o (List.replicate (n + 2) (1, (n : Int), 0)) n G W v' → ∃ m o', Did w o m W o') := fun W v' G h => by
    obtain ⟨Y, o', _, _, d⟩ := h
    exact ⟨_, _, d⟩
  have g2 : IntKind.i64.wrap (2 * (n : Int)) = (N : Int) := by rw [IntKind.wrap_i64]; omega
  clear ht hm hx hmd hrd hdx hrl hK hT hM hA hpo hti h0 hLm hN
  generalize (fun Y => okMod ms K rs → (N1 = n ∧ val 18446744073709551616 xs < val 18446744073709551616 ms) → LeaG n (val 18446744073709551616 ms) (val 18446744073709551616 xs) Y) = G at *
  generalize val 18446744073709551616 xs = X at *
  go_enter Tryz.func85, Tryz.ntmps85
  go_wp2_with fail
  go_region_held3 (fun w' => w'.cell? ⟨bT, 0, none⟩ = some (.pointer po) ∧ w'.cell? ⟨bA, 0, none⟩ = some (.slice xo N1 xc) ∧ w'.cell? ⟨bM, 0, none⟩ = some (.slice ao n mcap) ∧ w'.cell? ⟨bM, 1, none⟩ = some (.int .u64 (K : Int)) ∧ w'.cell? ⟨bM, 2, none⟩ = some (.slice bo l rcap))
    (((try dsimp only); (repeat' apply And.intro) <;> first | (go_keep; done) | assumption))
    (first
    | (go_at_call 84; refine (JX.out _ ?_).mono ?_; (exact (Kept.refl _ _).drew); rintro e w2 ⟨g2', rfl, k2, hg2, r2⟩; obtain ⟨q0, q1, q3, q4, q5⟩ := JC.out _ _ _ (Did.of_kept k2 HTI.out))
    | (go_at_call 86; refine (JT.out _ g2' k2 hg2 r2).mono ?_; rintro e w4 ⟨v4, rfl, hd4⟩; obtain ⟨m4, o4, d4⟩ := JD.out _ _ _ hd4; obtain ⟨t0, t1, t3, t4, t5⟩ := JC.out _ _ _ d4))
  all_goals
    go_wp2_with fail
    go_ret
    exact ⟨_, rfl, hd4⟩

end Go.Proofs.YtldbfcifoijliaaGreatDoor

/- Package mont: Enter, Leave, One. -/
namespace Go.Proofs.YtldbfcifoijliaaGreatDoor
open Go.RowKit

set_option maxRecDepth 20000 in
set_option maxHeartbeats 4000000 in
/-- Enter. -/
theorem mEnter (o : Tr) (ao bo xo : Option Addr) (n l K mcap rcap N1 xc E : Nat) (ms rs xs : List Nat) (w : World)
    (ht : TrRoom w o 2000) (hm : RowT w o (.slice ao n mcap) ms) (hr : RowT w o (.slice bo l rcap) rs) (hx : RowT w o (.slice xo N1 xc) xs) (hmd : Digs 18446744073709551616 ms) (hrd : Digs 18446744073709551616 rs) (hdx : Digs 18446744073709551616 xs) (hK : K < 18446744073709551616) (hnb : n ≤ 300)
    (hE : E = 0 ↔ okMod ms K rs ∧ (N1 = n ∧ val 18446744073709551616 xs < val 18446744073709551616 ms)) (hE1 : E ≤ 1) :
    Calls Tryz.prog 64 #[trPtr o, .agg #[.slice ao n mcap, .int .u64 (K : Nat), .slice bo l rcap], .slice xo N1 xc] w fun e w' => ∃ v', e = .returned (.tuple #[v', .int .i64 (E : Int)]) ∧ Answered w o n E 1 (timesEvs n) (EntG n (val 18446744073709551616 ms) (val 18446744073709551616 xs)) w' v' := by
  have hmf : ∀ (fn : Fn) (first cap : Array Value) (w : World), (Instr.makeFunc fn first cap).run Tryz.prog w = .ok (.func fn first cap) w := fun _ _ _ _ => rfl
  have he : ∀ args w, (callFunc 82 args).run Tryz.prog w = .ok (.enter 82 args) w := fun _ _ => by simp [go_sem]
  obtain ⟨po, hpo⟩ := trPtr_shape o
  obtain ⟨_, _, _, e1, hLr, _, _, _, _⟩ := hr.1.open
  cases e1
  obtain ⟨W, hW⟩ : ∃ W, W = ((w.alloc (.cells #[.pointer po] 105)).alloc (.cells #[.slice ao n mcap, .int .u64 (K : Nat), .slice bo l rcap] 52)).alloc (.cells #[.slice xo N1 xc] 23) := ⟨_, rfl⟩
  have k0 : Kept Nought w W := by rw [hW]; exact (((Kept.refl Nought w).alloc _).alloc _).alloc _
  have hT0 : Box W w.heap.size (.pointer po) 105 := by rw [hW]; exact ((Box.new w _ _).alloc _).alloc _
  have hM0 : W.heap[w.heap.size + 1]? = some (.cells #[.slice ao n mcap, .int .u64 (K : Nat), .slice bo l rcap] 52 (0, 0)) := by
    rw [hW]
    refine heapAt_alloc ?_
    have := heap_alloc_new (w.alloc (.cells #[.pointer po] 105)) (.cells #[.slice ao n mcap, .int .u64 (K : Nat), .slice bo l rcap] 52)
    rwa [show (w.alloc (.cells #[.pointer po] 105)).heap.size = w.heap.size + 1 by simp] at this
  have hA0 : Box W (w.heap.size + 1 + 1) (.slice xo N1 xc) 23 := by
    rw [hW]
    have := Box.new ((w.alloc (.cells #[.pointer po] 105)).alloc (.cells #[.slice ao n mcap, .int .u64 (K : Nat), .slice bo l rcap] 52)) (.slice xo N1 xc) 23
    rwa [show ((w.alloc (.cells #[.pointer po] 105)).alloc (.cells #[.slice ao n mcap, .int .u64 (K : Nat), .slice bo l rcap] 52)).heap.size = w.heap.size + 1 + 1 by simp] at this
  obtain ⟨Wl, hWl⟩ : ∃ Wl, Wl = W.alloc (.cells #[.slice xo N1 xc] 23) := ⟨_, rfl⟩
  have kl : Kept Nought W Wl := by rw [hWl]; exact (Kept.refl Nought W).alloc _
  have hl0 : Wl.heap[W.heap.size]? = some (.cells #[.slice xo N1 xc] 23 (0, 0)) := by rw [hWl]; exact heap_alloc_new _ _
  have kk := k0.trans kl
  have hAsk := mAsked o ao bo (some ⟨W.heap.size, 0, none⟩) n l K mcap rcap 1 1 82 #[.pointer (some ⟨w.heap.size, 0, none⟩), .pointer (some ⟨w.heap.size + 1, 0, none⟩), .pointer (some ⟨w.heap.size + 1 + 1, 0, none⟩)]
    (fun _ => xo) (fun _ => N1) (fun _ => xc) (fun _ => xs) ms rs E 1999 (timesEvs n) (EntG n (val 18446744073709551616 ms) (val 18446744073709551616 xs)) Wl (by unfold timesEvs; simp; omega)
    (ht.grew kk) (hm.grew kk) (hr.grew kk) hmd hrd hK (by omega) (by omega)
    (fun W' m o' d => one_slot ((d.kept.block _ (lt_of_block hl0) (cells_apart hl0 (ht.grew kk).1 (by decide) (by decide))).trans hl0))
    (fun i hi => hx.grew kk)
    (fun i hi => hdx)
    he
    (fun hn W' m o' d hroom => by
      have hti := (ht.grew kk).1
      refine (mEnter1 o' ao bo xo n l K mcap rcap N1 xc w.heap.size (w.heap.size + 1) (w.heap.size + 1 + 1) ms rs xs W' (hroom.less (by omega)) ((hm.grew kk).did d) ((hx.grew kk).did d) ((hr.grew kk).did d) hmd hrd hdx hLr.out hK hn (by rw [d.ptr, hpo]; exact (hT0.grew kl).did d hti (by decide) (by decide)) ((d.kept.block _ (lt_of_block ((kl.block _ (lt_of_block hM0) (fun f => f)).trans hM0)) (cells_apart ((kl.block _ (lt_of_block hM0) (fun f => f)).trans hM0) hti (by decide) (by decide))).trans ((kl.block _ (lt_of_block hM0) (fun f => f)).trans hM0)) ((hA0.grew kl).did d hti (by decide) (by decide))).mono ?_
      rintro e w' ⟨v', rfl, Y, o2, h1, h2, h3⟩
      exact ⟨v', rfl, Y, o2, h1, fun hok hall => h2 hok (hall 0 (by omega)), h3⟩)
    (by
      rw [hE]
      exact and_congr_right fun _ => ⟨fun h i hi => h, fun h => h 0 (by omega)⟩) hE1
  have HB : Hid (∀ w' v', Answered Wl o n E 1 (timesEvs n) (EntG n (val 18446744073709551616 ms) (val 18446744073709551616 xs)) w' v' → Answered w o n E 1 (timesEvs n) (EntG n (val 18446744073709551616 ms) (val 18446744073709551616 xs)) w' v') := fun w' v' h => h.after kk
  have hsz : W.heap.size = w.heap.size + 1 + 1 + 1 := by rw [hW]; simp
  rw [hsz] at hAsk
  have HW := toHid hW
  have HWl := toHid hWl
  have JM := cells3 hM0
  obtain ⟨c3, c4, c5⟩ := JM
  have c0 := hT0.cell
  have c1 := hA0.cell
  rw [hpo] at hAsk ⊢
  clear ht hm hr hx hmd hrd hdx hK hnb hE hE1 hpo k0 hT0 hM0 hA0 hW hWl hl0 kk kl he hLr hsz
  generalize EntG n (val 18446744073709551616 ms) (val 18446744073709551616 xs) = G at *
  go_enter Tryz.func64, Tryz.ntmps64
  go_wp2_with fail
  rw [← HW.out, ← HWl.out]
  refine hAsk.mono ?_
  rintro e w1 ⟨v1, rfl, h1⟩
  have H1 := toHid (HB.out _ _ h1)
  clear hAsk h1 c0 c1 c3 c4 c5
  go_wp2_with fail
  go_ret2
  exact ⟨_, rfl, H1.out⟩

set_option maxRecDepth 20000 in
set_option maxHeartbeats 4000000 in
/-- Leave. -/
theorem mLeave (o : Tr) (ao bo xo : Option Addr) (n l K mcap rcap N1 xc E : Nat) (ms rs xs : List Nat) (w : World)
    (ht : TrRoom w o 2000) (hm : RowT w o (.slice ao n mcap) ms) (hr : RowT w o (.slice bo l rcap) rs) (hx : RowT w o (.slice xo N1 xc) xs) (hmd : Digs 18446744073709551616 ms) (hrd : Digs 18446744073709551616 rs) (hdx : Digs 18446744073709551616 xs) (hK : K < 18446744073709551616) (hnb : n ≤ 300)
    (hE : E = 0 ↔ okMod ms K rs ∧ (N1 = n ∧ val 18446744073709551616 xs < val 18446744073709551616 ms)) (hE1 : E ≤ 1) :
    Calls Tryz.prog 65 #[trPtr o, .agg #[.slice ao n mcap, .int .u64 (K : Nat), .slice bo l rcap], .slice xo N1 xc] w fun e w' => ∃ v', e = .returned (.tuple #[v', .int .i64 (E : Int)]) ∧ Answered w o n E 1 (List.replicate (n + 2) (1, (n : Int), 0)) (LeaG n (val 18446744073709551616 ms) (val 18446744073709551616 xs)) w' v' := by
  have hmf : ∀ (fn : Fn) (first cap : Array Value) (w : World), (Instr.makeFunc fn first cap).run Tryz.prog w = .ok (.func fn first cap) w := fun _ _ _ _ => rfl
  have he : ∀ args w, (callFunc 85 args).run Tryz.prog w = .ok (.enter 85 args) w := fun _ _ => by simp [go_sem]
  obtain ⟨po, hpo⟩ := trPtr_shape o
  obtain ⟨_, _, _, e1, hLr, _, _, _, _⟩ := hr.1.open
  cases e1
  obtain ⟨W, hW⟩ : ∃ W, W = ((w.alloc (.cells #[.pointer po] 105)).alloc (.cells #[.slice ao n mcap, .int .u64 (K : Nat), .slice bo l rcap] 52)).alloc (.cells #[.slice xo N1 xc] 23) := ⟨_, rfl⟩
  have k0 : Kept Nought w W := by rw [hW]; exact (((Kept.refl Nought w).alloc _).alloc _).alloc _
  have hT0 : Box W w.heap.size (.pointer po) 105 := by rw [hW]; exact ((Box.new w _ _).alloc _).alloc _
  have hM0 : W.heap[w.heap.size + 1]? = some (.cells #[.slice ao n mcap, .int .u64 (K : Nat), .slice bo l rcap] 52 (0, 0)) := by
    rw [hW]
    refine heapAt_alloc ?_
    have := heap_alloc_new (w.alloc (.cells #[.pointer po] 105)) (.cells #[.slice ao n mcap, .int .u64 (K : Nat), .slice bo l rcap] 52)
    rwa [show (w.alloc (.cells #[.pointer po] 105)).heap.size = w.heap.size + 1 by simp] at this
  have hA0 : Box W (w.heap.size + 1 + 1) (.slice xo N1 xc) 23 := by
    rw [hW]
    have := Box.new ((w.alloc (.cells #[.pointer po] 105)).alloc (.cells #[.slice ao n mcap, .int .u64 (K : Nat), .slice bo l rcap] 52)) (.slice xo N1 xc) 23
    rwa [show ((w.alloc (.cells #[.pointer po] 105)).alloc (.cells #[.slice ao n mcap, .int .u64 (K : Nat), .slice bo l rcap] 52)).heap.size = w.heap.size + 1 + 1 by simp] at this
  obtain ⟨Wl, hWl⟩ : ∃ Wl, Wl = W.alloc (.cells #[.slice xo N1 xc] 23) := ⟨_, rfl⟩
  have kl : Kept Nought W Wl := by rw [hWl]; exact (Kept.refl Nought W).alloc _
  have hl0 : Wl.heap[W.heap.size]? = some (.cells #[.slice xo N1 xc] 23 (0, 0)) := by rw [hWl]; exact heap_alloc_new _ _
  have kk := k0.trans kl
  have hAsk := mAsked o ao bo (some ⟨W.heap.size, 0, none⟩) n l K mcap rcap 1 1 85 #[.pointer (some ⟨w.heap.size, 0, none⟩), .pointer (some ⟨w.heap.size + 1, 0, none⟩), .pointer (some ⟨w.heap.size + 1 + 1, 0, none⟩)]
    (fun _ => xo) (fun _ => N1) (fun _ => xc) (fun _ => xs) ms rs E 1999 (List.replicate (n + 2) (1, (n : Int), 0)) (LeaG n (val 18446744073709551616 ms) (val 18446744073709551616 xs)) Wl (by simp; omega)
    (ht.grew kk) (hm.grew kk) (hr.grew kk) hmd hrd hK (by omega) (by omega)
    (fun W' m o' d => one_slot ((d.kept.block _ (lt_of_block hl0) (cells_apart hl0 (ht.grew kk).1 (by decide) (by decide))).trans hl0))
    (fun i hi => hx.grew kk)
    (fun i hi => hdx)
    he
    (fun hn W' m o' d hroom => by
      have hti := (ht.grew kk).1
      refine (mLeave1 o' ao bo xo n l K mcap rcap N1 xc w.heap.size (w.heap.size + 1) (w.heap.size + 1 + 1) ms rs xs W' (hroom.less (by omega)) ((hm.grew kk).did d) ((hx.grew kk).did d) hmd hrd hdx hLr.out hK hn (by rw [d.ptr, hpo]; exact (hT0.grew kl).did d hti (by decide) (by decide)) ((d.kept.block _ (lt_of_block ((kl.block _ (lt_of_block hM0) (fun f => f)).trans hM0)) (cells_apart ((kl.block _ (lt_of_block hM0) (fun f => f)).trans hM0) hti (by decide) (by decide))).trans ((kl.block _ (lt_of_block hM0) (fun f => f)).trans hM0)) ((hA0.grew kl).did d hti (by decide) (by decide))).mono ?_
      rintro e w' ⟨v', rfl, Y, o2, h1, h2, h3⟩
      exact ⟨v', rfl, Y, o2, h1, fun hok hall => h2 hok (hall 0 (by omega)), h3⟩)
    (by
      rw [hE]
      exact and_congr_right fun _ => ⟨fun h i hi => h, fun h => h 0 (by omega)⟩) hE1
  have HB : Hid (∀ w' v', Answered Wl o n E 1 (List.replicate (n + 2) (1, (n : Int), 0)) (LeaG n (val 18446744073709551616 ms) (val 18446744073709551616 xs)) w' v' → Answered w o n E 1 (List.replicate (n + 2) (1, (n : Int), 0)) (LeaG n (val 18446744073709551616 ms) (val 18446744073709551616 xs)) w' v') := fun w' v' h => h.after kk
  have hsz : W.heap.size = w.heap.size + 1 + 1 + 1 := by rw [hW]; simp
  rw [hsz] at hAsk
  have HW := toHid hW
  have HWl := toHid hWl
  have JM := cells3 hM0
  obtain ⟨c3, c4, c5⟩ := JM
  have c0 := hT0.cell
  have c1 := hA0.cell
  rw [hpo] at hAsk ⊢
  clear ht hm hr hx hmd hrd hdx hK hnb hE hE1 hpo k0 hT0 hM0 hA0 hW hWl hl0 kk kl he hLr hsz
  generalize LeaG n (val 18446744073709551616 ms) (val 18446744073709551616 xs) = G at *
  go_enter Tryz.func65, Tryz.ntmps65
  go_wp2_with fail
  rw [← HW.out, ← HWl.out]
  refine hAsk.mono ?_
  rintro e w1 ⟨v1, rfl, h1⟩
  have H1 := toHid (HB.out _ _ h1)
  clear hAsk h1 c0 c1 c3 c4 c5
  go_wp2_with fail
  go_ret2
  exact ⟨_, rfl, H1.out⟩

set_option maxRecDepth 20000 in
set_option maxHeartbeats 2000000 in
/-- One. -/
theorem mOne (ao bo : Option Addr) (n l K mcap rcap : Nat) (ms rs RL : List Nat) (w : World) (hm : Row .u64 w (.slice ao n mcap) ms) (hr : Row .u64 w (.slice bo l rcap) rs) (hmd : Digs 18446744073709551616 ms) (hrd : Digs 18446744073709551616 rs) (hK : K < 18446744073709551616) (hnb : n ≤ 300)
    (hok1 : okMod ms K rs → RL = digs 18446744073709551616 (2 ^ (64 * n) % val 18446744073709551616 ms) n) (hok0 : ¬ okMod ms K rs → RL = []) :
    Calls Tryz.prog 87 #[.agg #[.slice ao n mcap, .int .u64 (K : Nat), .slice bo l rcap]] w fun e w' => ∃ v', e = .returned v' ∧ Row .u64 w' v' RL ∧ Kept Nought w w' := by
  obtain ⟨_, _, _, e1, hLm, _, _, _, _⟩ := hm.open
  cases e1
  obtain ⟨_, _, _, e1, hLr, _, _, _, _⟩ := hr.open
  cases e1
  obtain ⟨W, hW⟩ : ∃ W, W = w.alloc (.cells #[.slice ao n mcap, .int .u64 (K : Nat), .slice bo l rcap] 52) := ⟨_, rfl⟩
  have k0 : Kept Nought w W := by rw [hW]; exact (Kept.refl Nought w).alloc _
  have hx0 : W.heap[w.heap.size]? = some (.cells #[.slice ao n mcap, .int .u64 (K : Nat), .slice bo l rcap] 52 (0, 0)) := by rw [hW]; exact heap_alloc_new _ _
  obtain ⟨p0, p1, p2⟩ := cells3 hx0
  have HW := toHid hW
  have HK0 := toHid k0
  by_cases hok : okMod ms K rs
  · obtain ⟨f1, f2, f3, f4, f5, f6, f7⟩ := hok.facts hLm.out hLr.out hmd hrd hK
    obtain ⟨N, hN⟩ : ∃ N, N = n + n := ⟨_, rfl⟩
    have hC := mCheck ao bo n l K mcap rcap ms rs true (by simp [hok]) W (hm.grew k0) (hr.grew k0) hmd hrd hK (by omega)
    have JX : Hid (∀ W', Kept Nought W W' → Calls Tryz.prog 84 #[.slice bo l rcap, .int .i64 (N : Int)] W' fun e w' => ∃ g, e = .returned (.slice (some ⟨g, 0, none⟩) N N) ∧ Kept Nought W w' ∧ W.heap.size ≤ g ∧ OwnN .u64 24 w' g (.slice (some ⟨g, 0, none⟩) N N) N (digs 18446744073709551616 (val 18446744073709551616 rs) N)) := fun W' k => by
      refine (mFit (.slice bo l rcap) rs N W' (hr.grew (k0.trans k)) hrd (by omega)).mono ?_
      rintro e w' ⟨rfl, ho, k'⟩
      exact ⟨_, rfl, k.trans k', k.size, ho⟩
    have JT : Hid (∀ W' g, Kept Nought W W' → W.heap.size ≤ g → OwnN .u64 24 W' g (.slice (some ⟨g, 0, none⟩) N N) N (digs 18446744073709551616 (val 18446744073709551616 rs) N) → Calls Tryz.prog 86 #[.pointer none, .agg #[.slice ao n mcap, .int .u64 (K : Nat), .slice bo l rcap], .slice (some ⟨g, 0, none⟩) N N] W' fun e w' => ∃ v', e = .returned v' ∧ Row .u64 w' v' RL ∧ Kept Nought W w') := fun W' g k hg ho => by
      have := mReduced W none none [] g g N N n K mcap l rcap ao bo _ ms W' (Did.of_kept k trivial) (TrRoom.none _ _ (by simp; omega)) hg ho (digs_length _ _ _) (digs_digs (by omega) _ _) hN (by omega) (RowT.none (hm.grew k0)) hmd
      refine this.mono ?_
      rintro e w' ⟨v', rfl, Y, o', h1, h2, h3⟩
      refine ⟨v', rfl, ?_, h3.none.2⟩
      have hp : 18446744073709551616 ^ n ≤ 18446744073709551616 ^ N := Nat.pow_le_pow_right (by omega) (by omega)
      have hRV : val 18446744073709551616 rs < val 18446744073709551616 ms := by rw [f7]; exact Nat.mod_lt _ (by omega)
      rw [val_digs, Nat.mod_eq_of_lt (Nat.lt_of_lt_of_le (Nat.lt_trans hRV f6) hp)] at h2
      obtain ⟨y1, y2⟩ := h2 f1 f2 (Nat.lt_of_lt_of_le hRV (Nat.le_mul_of_pos_right _ (Nat.pow_pos (by omega))))
      rw [hok1 hok]
      have hco : Nat.Coprime (18446744073709551616 ^ n) (val 18446744073709551616 ms) := by rw [B64]; exact (odd_coprime f5).symm
      have hY : Y = 2 ^ (64 * n) % val 18446744073709551616 ms := by
        rw [← B64, ← Nat.mod_eq_of_lt y1]
        apply cancel_mod hco
        rw [y2, f7, Nat.mod_mod, Nat.two_mul, Nat.pow_add]
      rw [← hY]
      exact own_row' h1 (digs_length _ _ _)
    have JC : Hid (∀ W', Kept Nought W W' → W'.cell? ⟨w.heap.size, 0, none⟩ = some (.slice ao n mcap) ∧ W'.cell? ⟨w.heap.size, 1, none⟩ = some (.int .u64 (K : Nat)) ∧ W'.cell? ⟨w.heap.size, 2, none⟩ = some (.slice bo l rcap)) := fun W' k => cells3 ((k.block _ (lt_of_block hx0) (fun f => f)).trans hx0)
    have g2 : IntKind.i64.wrap (2 * (n : Int)) = (N : Int) := by rw [IntKind.wrap_i64]; omega
    clear hm hr hmd hrd hK hok1 hok0 hok hLm hLr hW k0 hx0 f1 f2 f3 f4 f5 f6 f7 hN
    go_enter Tryz.func87, Tryz.ntmps87
    go_wp2_with (rw [← HW.out])
    refine hC.mono ?_
    rintro e w1 ⟨rfl, k1⟩
    obtain ⟨q0, q1, q2⟩ := JC.out _ k1
    have kd : Kept Nought W w1.drew := k1.drew
    clear hC p0 p1 p2
    go_wp2_with fail
    go_region_held3 (fun w' => w'.cell? ⟨w.heap.size, 0, none⟩ = some (.slice ao n mcap) ∧ w'.cell? ⟨w.heap.size, 1, none⟩ = some (.int .u64 (K : Int)) ∧ w'.cell? ⟨w.heap.size, 2, none⟩ = some (.slice bo l rcap))
      (((try dsimp only); (repeat' apply And.intro) <;> first | (go_keep; done) | assumption))
      (first
      | (go_at_call 84; refine (JX.out _ kd).mono ?_; rintro e w2 ⟨g', rfl, k2, hg2, r2⟩; obtain ⟨s0, s1, s2⟩ := JC.out _ k2)
      | (go_at_call 86; refine (JT.out _ g' k2 hg2 r2).mono ?_; rintro e w4 ⟨v4, rfl, hr4, k4⟩; obtain ⟨t0, t1, t2⟩ := JC.out _ k4))
    all_goals
      go_wp2_with fail
      go_ret
      exact ⟨_, rfl, hr4, HK0.out.trans k4⟩
  · have hC := mCheck ao bo n l K mcap rcap ms rs false (by simp [hok]) W (hm.grew k0) (hr.grew k0) hmd hrd hK (by omega)
    have HRL := toHid (hok0 hok)
    clear hm hr hmd hrd hK hok1 hok0 hLm hLr hW k0 hx0
    go_enter Tryz.func87, Tryz.ntmps87
    go_wp2_with (rw [← HW.out])
    refine hC.mono ?_
    rintro e w1 ⟨rfl, k1⟩
    go_wp2_with fail
    go_ret
    exact ⟨_, rfl, by rw [HRL.out]; exact Row.nil _ _, HK0.out.trans k1⟩

end Go.Proofs.YtldbfcifoijliaaGreatDoor

