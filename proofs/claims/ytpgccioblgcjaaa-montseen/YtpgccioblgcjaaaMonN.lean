/- Package mont: asked: what it attempts. -/
import Derived.Test.YtpgccioblgcjaaaMonG
import Derived.Test.YtpgccioblgcjaaaMonH
import Derived.Test.YtpgccioblgcjaaaMonM
namespace Go.Proofs.Ytpgccioblgcjaaa
open Go.RowKit

/-- Whether all operands are members. -/
def AllIn (cnt n V : Nat) (N : Nat → Nat) (xss : Nat → List Nat) : Prop := ∀ i, i < cnt → N i = n ∧ val 18446744073709551616 (xss i) < V

/-- Whether the first of them are members, as a word. -/
def inN (cnt n V : Nat) (N : Nat → Nat) (xss : Nat → List Nat) : Nat → Nat
  | 0 => 1
  | k + 1 => if inN cnt n V N xss k = 1 ∧ (N k = n ∧ val 18446744073709551616 (xss k) < V) then 1 else 0

theorem inN_le (cnt n V : Nat) (N : Nat → Nat) (xss : Nat → List Nat) : ∀ k, inN cnt n V N xss k ≤ 1
  | 0 => by simp [inN]
  | k + 1 => by unfold inN; split <;> omega

theorem inN_iff (cnt n V : Nat) (N : Nat → Nat) (xss : Nat → List Nat) : ∀ k, inN cnt n V N xss k = 1 ↔ AllIn k n V N xss
  | 0 => by simp [inN, AllIn]
  | k + 1 => by
    have ih := inN_iff cnt n V N xss k
    unfold inN
    constructor
    · intro h
      split at h
      · rename_i h1
        intro i hi
        rcases Nat.lt_or_ge i k with h2 | h2
        · exact ih.1 h1.1 i h2
        · obtain rfl : i = k := by omega
          exact h1.2
      · omega
    · intro h
      rw [if_pos ⟨ih.2 (fun i hi => h i (by omega)), h k (by omega)⟩]

theorem inN_bits (cnt n V : Nat) (N : Nat → Nat) (xss : Nat → List Nat) (k : Nat) : bits .and .u64 ((inN cnt n V N xss k : Nat) : Int) ((memN (N k) n (val 18446744073709551616 (xss k)) V : Nat) : Int) = ((inN cnt n V N xss (k + 1) : Nat) : Int) := by
  have h := inN_le cnt n V N xss k
  have h1 : inN cnt n V N xss (k + 1) = if inN cnt n V N xss k = 1 ∧ (N k = n ∧ val 18446744073709551616 (xss k) < V) then 1 else 0 := rfl
  rw [h1]
  unfold memN
  generalize inN cnt n V N xss k = m at *
  have h01 : m = 0 ∨ m = 1 := by omega
  by_cases h2 : N k = n ∧ val 18446744073709551616 (xss k) < V
  · rcases h01 with rfl | rfl
    · rw [if_pos h2, if_neg (by omega)]
      decide
    · rw [if_pos h2, if_pos ⟨rfl, h2⟩]
      decide
  · rcases h01 with rfl | rfl
    · rw [if_neg h2, if_neg (by omega)]
      decide
    · rw [if_neg h2, if_neg (fun h => h2 h.2)]
      decide

/-- What 'do' leaves: a number of n words in new memory, of which G holds; the events m. -/
def Done (W : World) (o : Tr) (m : List Ev) (n : Nat) (G : Nat → Prop) (w' : World) (v' : Value) : Prop :=
  ∃ (Y : Nat) (o' : Tr), OwnN .u64 26 w' W.heap.size v' n (digs 18446744073709551616 Y n) ∧ G Y ∧ Did W o m w' o'

set_option maxRecDepth 20000 in
set_option maxHeartbeats 4000000 in
/-- What asked attempts. -/
theorem mAsked1 (o : Tr) (ao bo lo : Option Addr) (n l K mcap rcap cnt ccap f : Nat) (fcap : Array Value) (A : Nat → Option Addr) (N C : Nat → Nat) (xss : Nat → List Nat) (ms rs : List Nat) (bM bL bT bF bO E rm : Nat) (dE : List Ev) (G : Nat → Prop) (w : World)
    (ht : TrRoom w o (cnt + rm)) (hm : RowT w o (.slice ao n mcap) ms) (hr : RowT w o (.slice bo l rcap) rs) (hmd : Digs 18446744073709551616 ms) (hrd : Digs 18446744073709551616 rs) (hK : K < 18446744073709551616) (hnb : n ≤ 1000000) (hcnt : cnt ≤ 1000)
    (hs : ∀ W m o', Did w o m W o' → Slots W lo cnt A N C) (hrow : ∀ i, i < cnt → RowT w o (.slice (A i) (N i) (C i)) (xss i)) (hdig : ∀ i, i < cnt → Digs 18446744073709551616 (xss i))
    (hM : w.heap[bM]? = some (.cells #[.slice ao n mcap, .int .u64 (K : Nat), .slice bo l rcap] 28 (0, 0))) (hL : Box w bL (.slice lo cnt ccap) 59) (hT : Box w bT (trPtr o) 54) (hF : Box w bF (.func (.func f) #[] fcap) 77) (hO : Box w bO (.slice none 0 0) 23)
    (hf : ∀ args w, (callFunc f args).run Try.prog w = .ok (.enter f args) w)
    (hdo : n ≤ 130 → ∀ W m o', Did w o m W o' → TrRoom W o' rm → Calls Try.prog f (#[.int .i64 (n : Int)] ++ fcap) W fun e w' => ∃ v', e = .returned v' ∧ Done W o' dE n (fun Y => okMod ms K rs → AllIn cnt n (val 18446744073709551616 ms) N xss → G Y) w' v')
    (hE : E = 0 ↔ okMod ms K rs ∧ AllIn cnt n (val 18446744073709551616 ms) N xss) :
    Calls Try.prog 74 #[.pointer (some ⟨bM, 0, none⟩), .pointer (some ⟨bL, 0, none⟩), .pointer (some ⟨bT, 0, none⟩), .pointer (some ⟨bF, 0, none⟩), .pointer (some ⟨bO, 0, none⟩)] w fun e w' =>
      (n ≤ 130 ∧ ∃ (Y : Nat) (v' : Value) (w1 : World) (o1 : Tr), Row .u64 w1 v' (digs 18446744073709551616 Y n) ∧ Fresh w v' ∧ (E = 0 → G Y) ∧ Did w o (List.replicate cnt (1, (n : Int), 0) ++ dE) w1 o1 ∧
        ((E = 0 ∧ e = .returned (.tuple #[]) ∧ w' = w1.setCell ⟨bO, 0, none⟩ v') ∨ (E ≠ 0 ∧ e = .panicked [refusal 1] ∧ w' = w1))) ∨
      (130 < n ∧ E ≠ 0 ∧ e = .panicked [refusal 1] ∧ w' = w) := by
  obtain ⟨_, _, _, e1, hLm, _, _, _, _⟩ := hm.1.open
  cases e1
  obtain ⟨tp, htp⟩ : ∃ tp, tp = trPtr o := ⟨_, rfl⟩
  obtain ⟨V, hV⟩ : ∃ V, V = val 18446744073709551616 ms := ⟨_, rfl⟩
  rw [← hV] at hE hdo
  have hti := ht.1
  have JM : Hid (∀ W m o', Did w o m W o' → W.cell? ⟨bM, 0, none⟩ = some (.slice ao n mcap) ∧ W.cell? ⟨bM, 1, none⟩ = some (.int .u64 (K : Nat)) ∧ W.cell? ⟨bM, 2, none⟩ = some (.slice bo l rcap)) := fun W m o' d => cells3 ((d.kept.block _ (lt_of_block hM) (cells_apart hM hti (by decide) (by decide))).trans hM)
  have JT : Hid (∀ W m o', Did w o m W o' → W.cell? ⟨bT, 0, none⟩ = some tp) := fun W m o' d => by rw [htp]; exact (hT.did d hti (by decide) (by decide)).cell
  have JF : Hid (∀ W m o', Did w o m W o' → W.cell? ⟨bF, 0, none⟩ = some (.func (.func f) #[] fcap)) := fun W m o' d => (hF.did d hti (by decide) (by decide)).cell
  have JO : Hid (∀ W m o', Did w o m W o' → W.cell? ⟨bO, 0, none⟩ = some (.slice none 0 0) ∧ W.frozen? ⟨bO, 0, none⟩ = false) := fun W m o' d => ⟨(hO.did d hti (by decide) (by decide)).cell, (hO.did d hti (by decide) (by decide)).free⟩
  have h0 := Did.of_kept (Kept.refl Nought w) hti
  obtain ⟨p0, p1, p2⟩ := JM.out _ _ _ h0
  have pL := hL.cell
  have hNo := mRefuseNo 1 w
  have hYes := mRefuseYes 1 w
  by_cases hn : n ≤ 130
  · have g1 : ¬ (n : Int) > 130 := by omega
    have JB : Hid (∀ W m o' i, Did w o m W o' → TrRoom W o' 1 → i < cnt → Calls Try.prog 75 #[tp, .agg #[.slice ao n mcap, .int .u64 (K : Nat), .slice bo l rcap], .slice (A i) (N i) (C i)] W fun e w' => e = .returned (.int .u64 ((memN (N i) n (val 18446744073709551616 (xss i)) V : Nat) : Int)) ∧ ∃ o2, Did W o' [(1, (n : Int), 0)] w' o2) := fun W m o' i d hr hi => by
      have := mMember o' ao bo (A i) n (N i) mcap l rcap (C i) K ms (xss i) W hr (hm.did d) ((hrow i hi).did d) hmd (hdig i hi) (by omega) _ rfl
      rw [d.ptr, ← htp, ← hV] at this
      exact this
    have JD : Hid (∀ W m o', Did w o m W o' → TrRoom W o' rm → Calls Try.prog f (#[.int .i64 (n : Int)] ++ fcap) W fun e w' => ∃ v', e = .returned v' ∧ Done W o' dE n (fun Y => okMod ms K rs → AllIn cnt n V N xss → G Y) w' v') := hdo hn
    have JK : Hid (∀ W m o' (R : Bool), Did w o m W o' → (R = true ↔ okMod ms K rs) → Calls Try.prog 15 #[.agg #[.slice ao n mcap, .int .u64 (K : Nat), .slice bo l rcap]] W fun e w' => e = .returned (.bool R) ∧ Kept Nought W w') := fun W m o' R d hR => mCheck ao bo n l K mcap rcap ms rs R hR W (hm.did d).1 (hr.did d).1 hmd hrd hK (by omega)
    have JS := toHid hs
    have HT := toHid ht
    have HE := toHid hE
    have H0 := toHid h0
    clear hm hr hmd hrd hK hs hrow hdig hM hL hT hF hO hdo hE hti htp hV ht h0 hYes hLm
    go_enter Try.func74, Try.ntmps74
    go_wp2_with fail
    refine hNo.mono ?_
    rintro e w1 ⟨rfl, rfl⟩
    clear hNo
    go_wp2_with fail
    go_loopw [6, 18] (fun mv i wr => ∃ (k : Nat) (o1 : Tr), k ≤ cnt ∧ i = .int .i64 (k : Int) ∧ mv = .int .u64 ((inN cnt n V N xss k : Nat) : Int) ∧ Hid (Did w1 o (List.replicate k (1, (n : Int), 0)) wr o1)) (fun _ i _ => cnt - (intOf i).toNat)
    case atStart => exact ⟨0, o, Nat.zero_le _, rfl, rfl, H0.out⟩
    case round =>
      obtain ⟨k, o1, hk, rfl, rfl, HD⟩ := hrel
      by_cases hkc : k < cnt
      · have gk0 : (0 : Int) ≤ (k : Int) := Int.natCast_nonneg _
        have gk : (k : Int) < (cnt : Int) := by omega
        obtain ⟨q0, q1, q2⟩ := JM.out _ _ _ HD.out
        have qT := JT.out _ _ _ HD.out
        obtain ⟨b2, off2, rfl, hc2⟩ := JS.out _ _ _ HD.out k hkc
        have hroom : TrRoom wr o1 1 := HD.out.room (by rw [List.length_replicate]; exact HT.out.less (by omega))
        have hB := JB.out wr _ o1 k HD.out hroom hkc
        have hbit := inN_bits cnt n V N xss k
        have HD' := toHid HD
        clear HD hroom
        generalize memN (N k) n (val 18446744073709551616 (xss k)) V = mm at *
        generalize hm2 : inN cnt n V N xss (k + 1) = m2 at *
        have HM2 := toHid hm2
        clear hm2
        generalize inN cnt n V N xss k = m1 at *
        go_wp2_with fail
        refine hB.mono ?_
        rintro e w2 ⟨rfl, o2, d2⟩
        have HD2 := toHid (HD'.out.out.trans d2)
        clear hB d2 q0 q1 q2 qT hc2
        go_wp2_with fail
        go_roundw
        case rel => exact ⟨k + 1, o2, by omega, by go_num, by rw [HM2.out], by unfold Hid; rw [List.replicate_succ']; exact HD2.out⟩
        case measure => simp [intOf]; omega
      · have gk : ¬ (k : Int) < (cnt : Int) := by omega
        obtain rfl : k = cnt := by omega
        have qF := JF.out _ _ _ HD.out
        have hroom : TrRoom wr o1 rm := HD.out.room (by rw [List.length_replicate]; exact HT.out)
        have hD := JD.out wr _ o1 HD.out hroom
        have HI := toHid (inN_iff k n V N xss k)
        have HIl := toHid (inN_le k n V N xss k)
        generalize inN k n V N xss k = mem at *
        go_wp2_with fail
        refine hD.mono ?_
        rintro e w3 ⟨v3, rfl, Y, o3, ho3, hG, d3⟩
        have D3 := toHid (HD.out.trans d3)
        obtain ⟨xo3, xc3, rfl⟩ := own_slice ho3
        have HR3 := toHid (own_row' ho3 (digs_length _ _ _))
        have HF3 : Hid (Fresh w1 (.slice xo3 n xc3)) := Fresh.own ho3 HD.out.size
        have HG := toHid hG
        obtain ⟨q0, q1, q2⟩ := JM.out _ _ _ D3.out
        clear hD d3 ho3 hG qF hroom
        by_cases hok : okMod ms K rs
        · by_cases hall : AllIn k n V N xss
          · have hmem : mem = 1 := HI.out.2 hall
            subst hmem
            go_wp2_with fail
            refine (JK.out w3 _ o3 true D3.out (by simp [hok])).mono ?_
            rintro e w4 ⟨rfl, k4⟩
            have HD4 := toHid (D3.out.grew k4)
            have HR4 := toHid (HR3.out.grew k4)
            obtain ⟨x0, x1⟩ := JO.out _ _ _ HD4.out
            clear k4
            go_wp2_with fail
            refine (mRefuseNo 1 _).mono ?_
            rintro e w5 ⟨rfl, rfl⟩
            go_wp2_with fail
            go_end0
            exact .inl ⟨hn, Y, _, w5, o3, HR4.out, HF3.out, fun _ => HG.out hok hall, HD4.out, .inl ⟨HE.out.2 ⟨hok, hall⟩, rfl, rfl⟩⟩
          · have hmem : mem = 0 := by
              have h1 : mem ≠ 1 := fun h => hall (HI.out.1 h)
              have h2 := HIl.out
              omega
            subst hmem
            go_wp2_with fail
            refine (JK.out w3 _ o3 true D3.out (by simp [hok])).mono ?_
            rintro e w4 ⟨rfl, k4⟩
            have HD4 := toHid (D3.out.grew k4)
            have HR4 := toHid (HR3.out.grew k4)
            clear k4
            go_wp2_with fail
            refine (mRefuseYes 1 _).mono ?_
            rintro e w5 ⟨rfl, rfl⟩
            exact ⟨rfl, .inl ⟨hn, Y, _, _, o3, HR4.out, HF3.out, fun h => absurd (HE.out.1 h).2 hall, HD4.out, .inr ⟨fun h => hall (HE.out.1 h).2, rfl, rfl⟩⟩⟩
        · go_wp2_with fail
          refine (JK.out w3 _ o3 false D3.out (by simp [hok])).mono ?_
          rintro e w4 ⟨rfl, k4⟩
          have HD4 := toHid (D3.out.grew k4)
          have HR4 := toHid (HR3.out.grew k4)
          clear k4
          go_wp2_with fail
          refine (mRefuseYes 1 _).mono ?_
          rintro e w5 ⟨rfl, rfl⟩
          exact ⟨rfl, .inl ⟨hn, Y, _, _, o3, HR4.out, HF3.out, fun h => absurd (HE.out.1 h).1 hok, HD4.out, .inr ⟨fun h => hok (HE.out.1 h).1, rfl, rfl⟩⟩⟩
  · have g1 : (n : Int) > 130 := by omega
    have HE : Hid (E ≠ 0) := fun h => by
      have := (hE.1 h).1
      have h2 := (chk_iff (K := K) hLm.out rfl hmd hrd hK).1 this
      have h3 := h2.1
      unfold rfn at h3
      rw [if_pos (by omega)] at h3
      omega
    clear hm hr hmd hrd hK hs hrow hdig hM hL hT hF hO hdo hE hti htp hV ht h0 hNo hLm
    go_enter Try.func74, Try.ntmps74
    go_wp2_with fail
    refine hYes.mono ?_
    rintro e w1 ⟨rfl, rfl⟩
    exact ⟨rfl, .inr ⟨by omega, HE.out, rfl, rfl⟩⟩

end Go.Proofs.Ytpgccioblgcjaaa
