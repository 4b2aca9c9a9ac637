/- Put together of: RinB RinC RinD. -/
import Derived.Test.YtiljkgoafknefaaGreatPk28

/- Package ring: haveLength, asked. -/
namespace Go.Proofs.YtiljkgoafknefaaGreat
open Go.RowKit

set_option maxRecDepth 20000 in
set_option maxHeartbeats 2000000 in
/-- haveLength. -/
theorem gHave (ao bo lo : Option Addr) (n l mcap rcap cnt ccap : Nat) (K : Int) (A : Nat → Option Addr) (N C : Nat → Nat) (R : Bool) (hR : R = true ↔ (∀ i, i < cnt → N i = n) ∧ n ≤ 130) (w : World) (hs : Slots w lo cnt A N C) (hcnt : cnt ≤ 1000) (hN : ∀ i, i < cnt → N i ≤ 1000000000) (hn : n ≤ 1000000000) :
    Calls Tryz.prog 168 #[.agg #[.slice ao n mcap, .int .u64 K, .slice bo l rcap], .slice lo cnt ccap] w fun e w' => e = .returned (.bool R) ∧ Kept Nought w w' := by
  have k0 : Kept Nought w (w.alloc (.cells #[.slice ao n mcap, .int .u64 K, .slice bo l rcap] 90)) := (Kept.refl Nought w).alloc _
  have hx0 : (w.alloc (.cells #[.slice ao n mcap, .int .u64 K, .slice bo l rcap] 90)).heap[w.heap.size]? = some (.cells #[.slice ao n mcap, .int .u64 K, .slice bo l rcap] 90 (0, 0)) := heap_alloc_new _ _
  obtain ⟨p0, p1, p2⟩ := cells3 hx0
  have HS : Hid (Slots (w.alloc (.cells #[.slice ao n mcap, .int .u64 K, .slice bo l rcap] 90)) lo cnt A N C) := hs.grew k0
  have HR := toHid hR
  have HN := toHid hN
  clear hs hx0 hR hN
  generalize hW : w.alloc (.cells #[.slice ao n mcap, .int .u64 K, .slice bo l rcap] 90) = W at *
  have HW := toHid hW
  clear hW
  go_enter Tryz.func168, Tryz.ntmps168
  go_wp2_with (rw [HW.out])
  go_loopw [13] (fun i wr => ∃ (k : Nat), k ≤ cnt ∧ i = .int .i64 (k : Int) ∧ Hid (∀ j, j < k → N j = n) ∧ Kept Nought W wr) (fun i _ => cnt - (intOf i).toNat)
  case atStart => exact ⟨0, Nat.zero_le _, rfl, fun j hj => by omega, Kept.refl _ _⟩
  case round =>
    obtain ⟨k, hk, rfl, hall, hkp⟩ := hrel
    by_cases hkc : k < cnt
    · have gk0 : (0 : Int) ≤ (k : Int) := Int.natCast_nonneg _
      have gk : (k : Int) < (cnt : Int) := by omega
      obtain ⟨b2, off2, rfl, hc2⟩ := (HS.out.grew hkp) k hkc
      have hNk := HN.out k hkc
      by_cases he : N k = n
      · have HA : Hid (∀ j, j < k + 1 → N j = n) := fun j hj => by
          by_cases e : j = k
          · subst e; exact he
          · exact hall.out j (by omega)
        generalize A k = a0 at *
        generalize C k = c0 at *
        rw [he] at hc2
        clear he
        go_wp2_with fail
        go_roundw
        case rel => exact ⟨k + 1, by omega, by go_num, HA, hkp⟩
        case measure => simp [intOf]; omega
      · have HF : Hid (R = false) := by
          unfold Hid
          cases h : R with
          | false => rfl
          | true => exact absurd ((HR.out.1 h).1 k hkc) he
        have ge : ¬ ((N k : Nat) : Int) = (n : Int) := by omega
        generalize A k = a0 at *
        generalize C k = c0 at *
        generalize N k = n0 at *
        go_wp2_with fail
        go_ret
        exact ⟨by rw [HF.out]; rfl, k0.trans hkp⟩
    · have gk : ¬ (k : Int) < (cnt : Int) := by omega
      obtain rfl : k = cnt := by omega
      have HB : Hid (R = decide ((n : Int) ≤ 130)) := by
        unfold Hid
        by_cases h : n ≤ 130
        · rw [decide_eq_true (by omega)]
          exact HR.out.2 ⟨hall.out, h⟩
        · rw [decide_eq_false (by omega)]
          cases h2 : R with
          | false => rfl
          | true => exact absurd (HR.out.1 h2).2 h
      go_wp2_with fail
      go_ret
      exact ⟨by rw [HB.out]; rfl, k0.trans hkp⟩

/-- Where an answer lies, where that is told. -/
def Lies (u : Bool) (w w' : World) (v : Value) : Prop := u = true → Fresh w v ∧ U64s w' v

theorem Lies.grew {u : Bool} {w w' w2 : World} {v : Value} (h : Lies u w w' v) (k : Kept Nought w' w2) : Lies u w w2 v := fun e => ⟨(h e).1, (h e).2.grew k⟩

theorem Lies.nil (u : Bool) (w w' : World) : Lies u w w' (.slice none 0 0) := fun _ => ⟨(fun b hb => by cases hb), U64s.nil _⟩

theorem Lies.after {u : Bool} {w W w' : World} {v : Value} (h : Lies u W w' v) (hs : w.heap.size ≤ W.heap.size) : Lies u w w' v := fun e => ⟨fun b hb => Nat.le_trans hs ((h e).1 b hb), (h e).2⟩

/-- What ring's asked answers: R holds of the number and the error where m is a modulus and all are its members, else there is none. -/
def Asked (w : World) (o : Tr) (u : Bool) (P : Prop) (R : List Nat → Nat → Prop) (dE : List Ev) (w' : World) (v' : Value) (c : Nat) : Prop :=
  ∃ (zs : List Nat) (m : List Ev) (o' : Tr), Row .u64 w' v' zs ∧ Lies u w w' v' ∧ Did w o m w' o' ∧ (P → R zs c ∧ m = dE) ∧ (¬ P → zs = [] ∧ c = 1)

set_option maxRecDepth 20000 in
set_option maxHeartbeats 4000000 in
/-- asked. -/
theorem gAsked (o : Tr) (ao bo lo : Option Addr) (n l K mcap rcap cnt ccap f : Nat) (fcap : Array Value) (A : Nat → Option Addr) (N C : Nat → Nat) (xss : Nat → List Nat) (ms rs : List Nat) (rm : Nat) (dE : List Ev) (u : Bool) (R : List Nat → Nat → Prop) (w : World)
    (ht : TrRoom w o (cnt + rm)) (hm : RowT w o (.slice ao n mcap) ms) (hr : RowT w o (.slice bo l rcap) rs) (hmd : Digs 18446744073709551616 ms) (hrd : Digs 18446744073709551616 rs) (hK : K < 18446744073709551616) (hnb : n ≤ 1000000) (hcnt : cnt ≤ 1000) (hNb : ∀ i, i < cnt → N i ≤ 1000000000)
    (hs : ∀ W m o', Did w o m W o' → Slots W lo cnt A N C) (hrow : ∀ i, i < cnt → RowT w o (.slice (A i) (N i) (C i)) (xss i)) (hdig : ∀ i, i < cnt → Digs 18446744073709551616 (xss i))
    (hf : ∀ args w, (callFunc f args).run Tryz.prog w = .ok (.enter f args) w)
    (hdo : n ≤ 130 → (∀ i, i < cnt → N i = n) → ∀ W m o', Did w o m W o' → TrRoom W o' rm → Calls Tryz.prog f fcap W fun e w' => ∃ v' c, e = .returned (.tuple #[v', .int .i64 ((c : Nat) : Int)]) ∧ ∃ zs m' o2, Row .u64 w' v' zs ∧ Lies u W w' v' ∧ Did W o' m' w' o2 ∧ (okMod ms K rs → AllIn cnt n (val 18446744073709551616 ms) N xss → R zs c ∧ m' = dE)) :
    Calls Tryz.prog 153 #[trPtr o, .agg #[.slice ao n mcap, .int .u64 (K : Nat), .slice bo l rcap], .func (.func f) #[] fcap, .slice lo cnt ccap] w fun e w' => ∃ v' c, e = .returned (.tuple #[v', .int .i64 ((c : Nat) : Int)]) ∧
      Asked w o u (okMod ms K rs ∧ AllIn cnt n (val 18446744073709551616 ms) N xss) R (List.replicate cnt (1, (n : Int), 0) ++ dE) w' v' c := by
  obtain ⟨_, _, _, e1, hLm, _, _, _, _⟩ := hm.1.open
  cases e1
  obtain ⟨po, hpo⟩ := trPtr_shape o
  obtain ⟨V, hV⟩ : ∃ V, V = val 18446744073709551616 ms := ⟨_, rfl⟩
  rw [← hV]
  rw [← hV] at hdo
  have hti := ht.1
  obtain ⟨W, hW⟩ : ∃ W, W = w.alloc (.cells #[.slice ao n mcap, .int .u64 (K : Nat), .slice bo l rcap] 90) := ⟨_, rfl⟩
  have k0 : Kept Nought w W := by rw [hW]; exact (Kept.refl Nought w).alloc _
  have hx0 : W.heap[w.heap.size]? = some (.cells #[.slice ao n mcap, .int .u64 (K : Nat), .slice bo l rcap] 90 (0, 0)) := by rw [hW]; exact heap_alloc_new _ _
  have JM : Hid (∀ W' m o', Did W o m W' o' → W'.cell? ⟨w.heap.size, 0, none⟩ = some (.slice ao n mcap) ∧ W'.cell? ⟨w.heap.size, 1, none⟩ = some (.int .u64 (K : Nat)) ∧ W'.cell? ⟨w.heap.size, 2, none⟩ = some (.slice bo l rcap)) := fun W' m o' d => cells3 ((d.kept.block _ (lt_of_block hx0) (cells_apart hx0 (hti.grew k0) (by decide) (by decide))).trans hx0)
  obtain ⟨p0, p1, p2⟩ := cells3 hx0
  have K0 := toHid k0
  have HW := toHid hW
  have HTI := toHid hti
  by_cases hlen : (∀ i, i < cnt → N i = n) ∧ n ≤ 130
  · have hH := gHave ao bo lo n l mcap rcap cnt ccap K A N C true (by simp only [true_iff]; exact hlen) W (hs W _ _ (Did.of_kept k0 hti)) hcnt hNb (by omega)
    have JB : Hid (∀ W' m o' i, Did W o m W' o' → TrRoom W' o' 1 → i < cnt → Calls Tryz.prog 99 #[.pointer po, .slice (A i) (N i) (C i), .slice ao n mcap] W' fun e w' => e = .returned (.int .u64 ((memN (N i) n (val 18446744073709551616 (xss i)) V : Nat) : Int)) ∧ ∃ o2, Did W' o' [(1, (n : Int), 0)] w' o2) := fun W' m o' i d hro hi => by
      have hd' := Did.after k0 d
      obtain ⟨_, _, _, e1, hLi, _, _, _, _⟩ := (hrow i hi).1.open
      cases e1
      have hNi := hlen.1 i hi
      have := lLess o' _ _ (xss i) ms W' hro ((hrow i hi).did hd') (hm.did hd') (hdig i hi) hmd (by rw [hLi.out]; omega) (by rw [hLm.out]; omega)
      rw [hLi.out, hLm.out, hNi, Nat.max_self, d.ptr, hpo, ← hV] at this
      rw [hNi]
      refine this.mono ?_
      rintro e w' ⟨rfl, h2⟩
      refine ⟨?_, h2⟩
      unfold memN oneN
      by_cases hlt : val 18446744073709551616 (xss i) < V
      · rw [decide_eq_true hlt, if_pos rfl, if_pos ⟨rfl, hlt⟩]
      · rw [decide_eq_false hlt, if_neg (by decide), if_neg (fun h => hlt h.2)]
    have JD : Hid (∀ W' m o', Did W o m W' o' → TrRoom W' o' rm → Calls Tryz.prog f fcap W' fun e w' => ∃ v' c, e = .returned (.tuple #[v', .int .i64 ((c : Nat) : Int)]) ∧ ∃ zs m' o2, Row .u64 w' v' zs ∧ Lies u W' w' v' ∧ Did W' o' m' w' o2 ∧ (okMod ms K rs → AllIn cnt n V N xss → R zs c ∧ m' = dE)) := fun W' m o' d hro => hdo hlen.2 hlen.1 W' m o' (Did.after k0 d) hro
    have JK : Hid (∀ W' m o' (R : Bool), Did W o m W' o' → (R = true ↔ okMod ms K rs) → Calls Tryz.prog 101 #[.agg #[.slice ao n mcap, .int .u64 (K : Nat), .slice bo l rcap]] W' fun e w' => e = .returned (.bool R) ∧ Kept Nought W' w') := fun W' m o' R d hR => mCheck ao bo n l K mcap rcap ms rs R hR W' (hm.did (Did.after k0 d)).1 (hr.did (Did.after k0 d)).1 hmd hrd hK (by omega)
    have JS : Hid (∀ W' m o', Did W o m W' o' → Slots W' lo cnt A N C) := fun W' m o' d => hs W' m o' (Did.after k0 d)
    have HT := toHid ht
    clear hm hr hmd hrd hK hs hrow hdig hdo hti ht hLm hV hW hx0 hlen hNb k0
    rw [hpo]
    go_enter Tryz.func153, Tryz.ntmps153
    go_wp2_with (rw [← HW.out])
    refine hH.mono ?_
    rintro e w1 ⟨rfl, k1⟩
    have H1 : Hid (Did W o [] w1 o) := Did.of_kept k1 (HTI.out.grew K0.out)
    clear hH k1 p0 p1 p2
    go_wp2_with fail
    go_loopw [10, 21] (fun mv i wr => ∃ (k : Nat) (o1 : Tr), k ≤ cnt ∧ i = .int .i64 (k : Int) ∧ mv = .int .u64 ((inN cnt n V N xss k : Nat) : Int) ∧ Hid (Did W o (List.replicate k (1, (n : Int), 0)) wr o1)) (fun _ i _ => cnt - (intOf i).toNat)
    case atStart => exact ⟨0, o, Nat.zero_le _, rfl, rfl, H1.out⟩
    case round =>
      obtain ⟨k, o1, hk, rfl, rfl, HD⟩ := hrel
      by_cases hkc : k < cnt
      · have gk0 : (0 : Int) ≤ (k : Int) := Int.natCast_nonneg _
        have gk : (k : Int) < (cnt : Int) := by omega
        obtain ⟨q0, q1, q2⟩ := JM.out _ _ _ HD.out
        obtain ⟨b2, off2, rfl, hc2⟩ := JS.out _ _ _ HD.out k hkc
        have hroom : TrRoom wr o1 1 := HD.out.room (by rw [List.length_replicate]; exact (HT.out.less (by omega)).grew K0.out)
        have hB := JB.out wr _ o1 k HD.out hroom hkc
        have hbit := inN_bits cnt n V N xss k
        have HD' := toHid HD
        clear HD hroom
        generalize memN (N k) n (val 18446744073709551616 (xss k)) V = mm at *
        generalize hm2 : inN cnt n V N xss (k + 1) = m2 at *
        have HM2 := toHid hm2
        clear hm2
        generalize inN cnt n V N xss k = m1 at *
        go_wp2_with fail
        refine hB.mono ?_
        rintro e w2 ⟨rfl, o2, d2⟩
        have HD2 := toHid (HD'.out.out.trans d2)
        clear hB d2 q0 q1 q2 hc2
        go_wp2_with fail
        go_roundw
        case rel => exact ⟨k + 1, o2, by omega, by go_num, by rw [HM2.out], by unfold Hid; rw [List.replicate_succ']; exact HD2.out⟩
        case measure => simp [intOf]; omega
      · have gk : ¬ (k : Int) < (cnt : Int) := by omega
        obtain rfl : k = cnt := by omega
        have hroom : TrRoom wr o1 rm := HD.out.room (by rw [List.length_replicate]; exact HT.out.grew K0.out)
        have hD := JD.out wr _ o1 HD.out hroom
        have HI := toHid (inN_iff k n V N xss k)
        have HIl := toHid (inN_le k n V N xss k)
        generalize inN k n V N xss k = mem at *
        go_wp2_with fail
        refine hD.mono ?_
        rintro e w3 ⟨v3, c3, rfl, zs, m3, o3, hr3, hl3, d3, hG⟩
        have D3 := toHid (HD.out.trans d3)
        obtain ⟨xo3, xn3, xc3, rfl, _, _, _, _, _⟩ := hr3.open
        have HR3 := toHid hr3
        have HL3 := toHid (hl3.after (Nat.le_trans K0.out.size HD.out.size))
        have HG := toHid hG
        obtain ⟨q0, q1, q2⟩ := JM.out _ _ _ D3.out
        clear hD d3 hr3 hl3 hG hroom
        by_cases hall : AllIn k n V N xss
        · have hmem : mem = 1 := HI.out.2 hall
          subst hmem
          by_cases hok : okMod ms K rs
          · go_wp2_with fail
            refine (JK.out w3 _ o3 true D3.out (by simp [hok])).mono ?_
            rintro e w4 ⟨rfl, k4⟩
            have HD4 := toHid (Did.after K0.out (D3.out.grew k4))
            have HR4 := toHid (HR3.out.grew k4)
            have HL4 := toHid (HL3.out.grew k4)
            clear k4
            go_wp2_with fail
            go_ret2
            exact ⟨_, c3, rfl, zs, _, o3, HR4.out, HL4.out, HD4.out, fun _ => ⟨(HG.out hok hall).1, by rw [(HG.out hok hall).2]⟩, fun h => absurd ⟨hok, hall⟩ h⟩
          · go_wp2_with fail
            refine (JK.out w3 _ o3 false D3.out (by simp [hok])).mono ?_
            rintro e w4 ⟨rfl, k4⟩
            have HD4 := toHid (Did.after K0.out (D3.out.grew k4))
            clear k4
            go_wp2_with fail
            go_ret2
            exact ⟨_, 1, rfl, [], _, o3, Row.nil _ _, Lies.nil _ _ _, HD4.out, fun h => absurd h.1 hok, fun _ => ⟨rfl, rfl⟩⟩
        · have hmem : mem = 0 := by
            have h1 : mem ≠ 1 := fun h => hall (HI.out.1 h)
            have h2 := HIl.out
            omega
          subst hmem
          have HD4 := toHid (Did.after K0.out D3.out)
          go_wp2_with fail
          go_ret2
          exact ⟨_, 1, rfl, [], _, o3, Row.nil _ _, Lies.nil _ _ _, HD4.out, fun h => absurd h.2 hall, fun _ => ⟨rfl, rfl⟩⟩
  · have HP : Hid (¬ (okMod ms K rs ∧ AllIn cnt n V N xss)) := fun h => by
      refine hlen ⟨fun i hi => (h.2 i hi).1, ?_⟩
      obtain ⟨_, _, _, e1, hLr, _, _, _, _⟩ := hr.1.open
      cases e1
      have h2 := (chk_iff (K := K) hLm.out rfl hmd hrd hK).1 h.1
      have h3 := h2.1
      unfold rfn at h3
      by_cases h4 : 130 < n
      · rw [if_pos (by omega)] at h3
        omega
      · omega
    have hH := gHave ao bo lo n l mcap rcap cnt ccap K A N C false (by simp only [Bool.false_eq_true, false_iff]; exact hlen) W (hs W _ _ (Did.of_kept k0 hti)) hcnt hNb (by omega)
    clear hm hr hmd hrd hK hs hrow hdig hdo hti ht hLm hV hW hx0 hlen hNb k0
    rw [hpo]
    go_enter Tryz.func153, Tryz.ntmps153
    go_wp2_with (rw [← HW.out])
    refine hH.mono ?_
    rintro e w1 ⟨rfl, k1⟩
    go_wp2_with fail
    go_ret2
    exact ⟨_, 1, rfl, [], [], o, Row.nil _ _, Lies.nil _ _ _, Did.of_kept (K0.out.trans k1) HTI.out, fun h => absurd h HP.out, fun _ => ⟨rfl, rfl⟩⟩

end Go.Proofs.YtiljkgoafknefaaGreat


/- Package ring: Add, Sub. -/
namespace Go.Proofs.YtiljkgoafknefaaGreat
open Go.RowKit

theorem Asked.after {w W : World} {o : Tr} {u : Bool} {P : Prop} {R : List Nat → Nat → Prop} {dE : List Ev} {w' : World} {v' : Value} {c : Nat} (k : Kept Nought w W) (h : Asked W o u P R dE w' v' c) : Asked w o u P R dE w' v' c := by
  obtain ⟨zs, m, o', h1, h2, h3, h4⟩ := h
  exact ⟨zs, m, o', h1, h2.after k.size, Did.after k h3, h4⟩

end Go.Proofs.YtiljkgoafknefaaGreat


/- Package ring: Neg, Half. -/
namespace Go.Proofs.YtiljkgoafknefaaGreat
open Go.RowKit

theorem gNegS (o : Tr) (ao bo xo : Option Addr) (n mcap rl rcap xc : Nat) (K : Nat) (xs ms : List Nat) (w : World) (ht : TrRoom w o 2) (hx : RowT w o (.slice xo n xc) xs) (hm : RowT w o (.slice ao n mcap) ms) (hdx : Digs 18446744073709551616 xs) (hdm : Digs 18446744073709551616 ms) (hn : n ≤ 100000) :
    Calls Tryz.prog 155 #[trPtr o, .agg #[.slice ao n mcap, .int .u64 (K : Nat), .slice bo rl rcap], .slice none 0 0, .slice xo n xc] w fun e w' => ∃ v', e = .returned v' ∧ Done w o (List.replicate 2 (1, (n : Int), 0)) n (fun Y => val 18446744073709551616 xs < val 18446744073709551616 ms → digs 18446744073709551616 Y n = digs 18446744073709551616 (subM 0 (val 18446744073709551616 xs) (val 18446744073709551616 ms)) n) w' v' := by
  refine (gDiff o ao bo none xo n 0 mcap rl rcap 0 xc K [] xs ms w ht ⟨Row.nil _ _, fun h => absurd rfl h⟩ hx hm (fun d hd => by cases hd) hdx hdm hn (Nat.zero_le _)).mono ?_
  rintro e w' ⟨v', rfl, Y, o', h1, h2, h3⟩
  exact ⟨v', rfl, Y, o', h1, fun h => h2 (Nat.lt_of_le_of_lt (Nat.zero_le _) h) h, h3⟩

set_option maxRecDepth 20000 in
set_option maxHeartbeats 2000000 in
/-- What Neg asks for. -/
theorem gNeg1 (o : Tr) (ao bo xo : Option Addr) (n l K mcap rcap xc bT bM bA : Nat) (ms xs : List Nat) (w : World)
    (ht : TrRoom w o 2) (hm : RowT w o (.slice ao n mcap) ms) (hx : RowT w o (.slice xo n xc) xs) (hmd : Digs 18446744073709551616 ms) (hdx : Digs 18446744073709551616 xs) (hn : n ≤ 130)
    (hT : Box w bT (trPtr o) 87) (hM : w.heap[bM]? = some (.cells #[.slice ao n mcap, .int .u64 (K : Nat), .slice bo l rcap] 90 (0, 0))) (hA : Box w bA (.slice xo n xc) 23) :
    Calls Tryz.prog 154 #[.pointer (some ⟨bT, 0, none⟩), .pointer (some ⟨bM, 0, none⟩), .pointer (some ⟨bA, 0, none⟩)] w fun e w' => ∃ v', e = .returned (.tuple #[v', .int .i64 0]) ∧ Done w o (List.replicate 2 (1, (n : Int), 0)) n (fun Y => val 18446744073709551616 xs < val 18446744073709551616 ms → digs 18446744073709551616 Y n = digs 18446744073709551616 (subM 0 (val 18446744073709551616 xs) (val 18446744073709551616 ms)) n) w' v' := by
  obtain ⟨po, hpo⟩ := trPtr_shape o
  have hS := gNegS o ao bo xo n mcap l rcap xc K xs ms w ht hx hm hdx hmd (by omega)
  have cT := hT.cell
  have cA := hA.cell
  obtain ⟨p0, p1, p2⟩ := cells3 hM
  rw [hpo] at hS cT
  clear hm hx hmd hdx hT hM hA ht hpo
  generalize (fun Y => val 18446744073709551616 xs < val 18446744073709551616 ms → digs 18446744073709551616 Y n = digs 18446744073709551616 (subM 0 (val 18446744073709551616 xs) (val 18446744073709551616 ms)) n) = G at *
  go_enter Tryz.func154, Tryz.ntmps154
  go_wp2_with fail
  refine hS.mono ?_
  rintro e w1 ⟨v1, rfl, h1⟩
  clear hS cT cA p0 p1 p2
  go_wp2_with fail
  go_ret2
  exact ⟨_, rfl, h1⟩

set_option maxRecDepth 20000 in
set_option maxHeartbeats 4000000 in
/-- Neg. -/
theorem gNeg (o : Tr) (ao bo xo : Option Addr) (n l K mcap rcap N1 xc : Nat) (ms rs xs : List Nat) (w : World)
    (ht : TrRoom w o 10) (hm : RowT w o (.slice ao n mcap) ms) (hr : RowT w o (.slice bo l rcap) rs) (hx : RowT w o (.slice xo N1 xc) xs) (hmd : Digs 18446744073709551616 ms) (hrd : Digs 18446744073709551616 rs) (hdx : Digs 18446744073709551616 xs) (hK : K < 18446744073709551616) (hnb : n ≤ 1000000) (hN1 : N1 ≤ 1000000000) :
    Calls Tryz.prog 128 #[trPtr o, .agg #[.slice ao n mcap, .int .u64 (K : Nat), .slice bo l rcap], .slice xo N1 xc] w fun e w' => ∃ v' c, e = .returned (.tuple #[v', .int .i64 ((c : Nat) : Int)]) ∧ Asked w o true (okMod ms K rs ∧ (N1 = n ∧ val 18446744073709551616 xs < val 18446744073709551616 ms)) (fun zs c => zs = digs 18446744073709551616 (subM 0 (val 18446744073709551616 xs) (val 18446744073709551616 ms)) n ∧ c = 0) (List.replicate 1 (1, (n : Int), 0) ++ List.replicate 2 (1, (n : Int), 0)) w' v' c := by
  have hmf : ∀ (fn : Fn) (first cap : Array Value) (w : World), (Instr.makeFunc fn first cap).run Tryz.prog w = .ok (.func fn first cap) w := fun _ _ _ _ => rfl
  have he : ∀ args w, (callFunc 154 args).run Tryz.prog w = .ok (.enter 154 args) w := fun _ _ => by simp [go_sem]
  obtain ⟨po, hpo⟩ := trPtr_shape o
  obtain ⟨W, hW⟩ : ∃ W, W = ((w.alloc (.cells #[.pointer po] 87)).alloc (.cells #[.slice ao n mcap, .int .u64 (K : Nat), .slice bo l rcap] 90)).alloc (.cells #[.slice xo N1 xc] 23) := ⟨_, rfl⟩
  have k0 : Kept Nought w W := by rw [hW]; exact (((Kept.refl Nought w).alloc _).alloc _).alloc _
  have hT0 : Box W w.heap.size (.pointer po) 87 := by rw [hW]; exact ((Box.new w _ _).alloc _).alloc _
  have hM0 : W.heap[w.heap.size + 1]? = some (.cells #[.slice ao n mcap, .int .u64 (K : Nat), .slice bo l rcap] 90 (0, 0)) := by
    rw [hW]
    refine heapAt_alloc ?_
    have := heap_alloc_new (w.alloc (.cells #[.pointer po] 87)) (.cells #[.slice ao n mcap, .int .u64 (K : Nat), .slice bo l rcap] 90)
    rwa [show (w.alloc (.cells #[.pointer po] 87)).heap.size = w.heap.size + 1 by simp] at this
  have hA0 : Box W (w.heap.size + 1 + 1) (.slice xo N1 xc) 23 := by
    rw [hW]
    have := Box.new ((w.alloc (.cells #[.pointer po] 87)).alloc (.cells #[.slice ao n mcap, .int .u64 (K : Nat), .slice bo l rcap] 90)) (.slice xo N1 xc) 23
    rwa [show ((w.alloc (.cells #[.pointer po] 87)).alloc (.cells #[.slice ao n mcap, .int .u64 (K : Nat), .slice bo l rcap] 90)).heap.size = w.heap.size + 1 + 1 by simp] at this
  obtain ⟨Wl, hWl⟩ : ∃ Wl, Wl = W.alloc (.cells #[.slice xo N1 xc] 23) := ⟨_, rfl⟩
  have kl : Kept Nought W Wl := by rw [hWl]; exact (Kept.refl Nought W).alloc _
  have hl0 : Wl.heap[W.heap.size]? = some (.cells #[.slice xo N1 xc] 23 (0, 0)) := by rw [hWl]; exact heap_alloc_new _ _
  have kk := k0.trans kl
  have hAsk := gAsked o ao bo (some ⟨W.heap.size, 0, none⟩) n l K mcap rcap 1 1 154 #[.pointer (some ⟨w.heap.size, 0, none⟩), .pointer (some ⟨w.heap.size + 1, 0, none⟩), .pointer (some ⟨w.heap.size + 1 + 1, 0, none⟩)]
    (fun _ => xo) (fun _ => N1) (fun _ => xc) (fun _ => xs) ms rs 9 (List.replicate 2 (1, (n : Int), 0)) true (fun zs c => zs = digs 18446744073709551616 (subM 0 (val 18446744073709551616 xs) (val 18446744073709551616 ms)) n ∧ c = 0) Wl
    (ht.grew kk) (hm.grew kk) (hr.grew kk) hmd hrd hK (by omega) (by omega)
    (fun i hi => hN1)
    (fun W' m o' d => one_slot ((d.kept.block _ (lt_of_block hl0) (cells_apart hl0 (ht.grew kk).1 (by decide) (by decide))).trans hl0))
    (fun i hi => hx.grew kk)
    (fun i hi => hdx)
    he
    (fun hn hall W' m o' d hroom => by
      have hti := (ht.grew kk).1
      have e1 : N1 = n := hall 0 (by omega)
      subst e1
      refine (gNeg1 o' ao bo xo N1 l K mcap rcap xc w.heap.size (w.heap.size + 1) (w.heap.size + 1 + 1) ms xs W' (hroom.less (by omega)) ((hm.grew kk).did d) ((hx.grew kk).did d) hmd hdx hn (by rw [d.ptr, hpo]; exact (hT0.grew kl).did d hti (by decide) (by decide)) ((d.kept.block _ (lt_of_block ((kl.block _ (lt_of_block hM0) (fun f => f)).trans hM0)) (cells_apart ((kl.block _ (lt_of_block hM0) (fun f => f)).trans hM0) hti (by decide) (by decide))).trans ((kl.block _ (lt_of_block hM0) (fun f => f)).trans hM0)) ((hA0.grew kl).did d hti (by decide) (by decide))).mono ?_
      rintro e w' ⟨v', rfl, Y, o2, h1, h2, h3⟩
      refine ⟨v', 0, rfl, _, _, o2, own_row' h1 (digs_length _ _ _), (fun _ => ⟨Fresh.own h1 (Nat.le_refl _), U64s.own h1⟩), h3, fun hok hin => ⟨⟨h2 (hin 0 (by omega)).2, rfl⟩, rfl⟩⟩)
  have hPre : (okMod ms K rs ∧ AllIn 1 n (val 18446744073709551616 ms) (fun _ => N1) (fun _ => xs)) ↔ (okMod ms K rs ∧ (N1 = n ∧ val 18446744073709551616 xs < val 18446744073709551616 ms)) :=
    and_congr_right fun _ => ⟨fun h => h 0 (by omega), fun h i hi => h⟩
  rw [hPre] at hAsk
  have HB : Hid (∀ w' v' c, Asked Wl o true (okMod ms K rs ∧ (N1 = n ∧ val 18446744073709551616 xs < val 18446744073709551616 ms)) (fun zs c => zs = digs 18446744073709551616 (subM 0 (val 18446744073709551616 xs) (val 18446744073709551616 ms)) n ∧ c = 0) (List.replicate 1 (1, (n : Int), 0) ++ List.replicate 2 (1, (n : Int), 0)) w' v' c → Asked w o true (okMod ms K rs ∧ (N1 = n ∧ val 18446744073709551616 xs < val 18446744073709551616 ms)) (fun zs c => zs = digs 18446744073709551616 (subM 0 (val 18446744073709551616 xs) (val 18446744073709551616 ms)) n ∧ c = 0) (List.replicate 1 (1, (n : Int), 0) ++ List.replicate 2 (1, (n : Int), 0)) w' v' c) := fun w' v' c h => h.after kk
  have hsz : W.heap.size = w.heap.size + 1 + 1 + 1 := by rw [hW]; simp
  rw [hsz] at hAsk
  have HW := toHid hW
  have HWl := toHid hWl
  obtain ⟨c3, c4, c5⟩ := cells3 hM0
  have c0 := hT0.cell
  have c1 := hA0.cell
  rw [hpo] at hAsk ⊢
  clear ht hm hr hx hmd hrd hdx hK hnb hpo k0 hT0 hM0 hA0 hW hWl hl0 kk kl he hsz hPre hN1
  generalize (okMod ms K rs ∧ (N1 = n ∧ val 18446744073709551616 xs < val 18446744073709551616 ms)) = PP at *
  generalize (fun zs c => zs = digs 18446744073709551616 (subM 0 (val 18446744073709551616 xs) (val 18446744073709551616 ms)) n ∧ c = 0) = RR at *
  generalize List.replicate 1 (1, (n : Int), 0) ++ List.replicate 2 (1, (n : Int), 0) = EE at *
  go_enter Tryz.func128, Tryz.ntmps128
  go_wp2_with fail
  rw [← HW.out, ← HWl.out]
  refine hAsk.mono ?_
  rintro e w1 ⟨v1, c, rfl, h1⟩
  have H1 := toHid (HB.out _ _ _ h1)
  clear hAsk h1 c0 c1 c3 c4 c5
  go_wp2_with fail
  go_ret2
  exact ⟨_, c, rfl, H1.out⟩

end Go.Proofs.YtiljkgoafknefaaGreat

