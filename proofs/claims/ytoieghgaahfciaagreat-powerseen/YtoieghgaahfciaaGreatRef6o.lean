/- Melted of: Ref6F Ref6G Ref6H. -/
import Derived.Test.YtoieghgaahfciaaGreatRef6E
import Derived.Test.YtoieghgaahfciaaGreatBigM
import Derived.Deep.RegionHeld3

/- The plain side of layer 6: times: products modulo a modulus. -/
namespace Go.Proofs.YtoieghgaahfciaaGreat
open Go.RowKit

/-- A number times n others, modulo V. -/
def tms (X V : Nat) (a : Nat → Nat) : Nat → Nat
  | 0 => X
  | k + 1 => tms X V a k * a k % V

theorem okMod.len {ms rs : List Nat} {K : Nat} (h : okMod ms K rs) : ms.length ≤ 130 ∧ ms.length = wordsN (val 18446744073709551616 ms) ∧ 2 ≤ val 18446744073709551616 ms ∧ val 18446744073709551616 ms % 2 = 1 := by
  obtain ⟨h1, h2, _, _⟩ := h
  obtain ⟨e1, e2, e3⟩ := montE_ok h1
  unfold modM at h2
  rw [if_pos h1] at h2
  have : ms.length = wordsN (val 18446744073709551616 ms) := by
    have := congrArg List.length h2
    rw [digs_length] at this
    exact this.symm
  exact ⟨by omega, this, e2, e3⟩

/-- The value v lies in memory that w has not yet. -/
def NewIn (w : World) (v : Value) : Prop := ∀ b, v.ownBlock = some b → w.heap.size ≤ b

theorem NewIn.nil (w : World) : NewIn w (.slice none 0 0) := fun b hb => by cases hb

theorem NewIn.of {w W : World} {v : Value} (h : v.ownBlock = some W.heap.size) (k : Kept Nought w W) : NewIn w v := fun b hb => by
  rw [h] at hb
  cases hb
  exact k.size

theorem NewIn.after {w W : World} {v : Value} (h : NewIn W v) (k : Kept Nought w W) : NewIn w v := fun b hb => Nat.le_trans k.size (h b hb)

/-- n slices in a row, at ao (the plain side's word for it). -/
def SlotsR (w : World) (ao : Option Addr) (n : Nat) (A : Nat → Option Addr) (L C : Nat → Nat) : Prop :=
  ∀ i, i < n → ∃ b off, ao = some ⟨b, off, none⟩ ∧ w.cell? ⟨b, off + i, none⟩ = some (.slice (A i) (L i) (C i))

theorem SlotsR.grew {w w' : World} {ao : Option Addr} {n : Nat} {A : Nat → Option Addr} {L C : Nat → Nat} (h : SlotsR w ao n A L C) (k : Kept Nought w w') : SlotsR w' ao n A L C := by
  intro i hi
  obtain ⟨b, off, rfl, hc⟩ := h i hi
  exact ⟨b, off, rfl, k.cellN hc⟩

set_option maxRecDepth 40000 in
set_option maxHeartbeats 2000000 in
theorem q6Times (ao bo : Option Addr) (L M cap dap K : Nat) (ms rs : List Nat) (hok : okMod ms K rs) (u : Value) (X : Nat) (lo : Option Addr) (n ncap : Nat) (A : Nat → Option Addr) (N C : Nat → Nat) (xss : Nat → List Nat) (E : Nat) (hE : E = if (∀ i, i < n → N i = L ∧ val 18446744073709551616 (xss i) < val 18446744073709551616 ms) then 0 else 1) (RL : List Nat) (hRL : RL = if E = 0 then digs 18446744073709551616 (tms X (val 18446744073709551616 ms) (fun i => val 18446744073709551616 (xss i)) n % val 18446744073709551616 ms) L else []) (w : World)
    (hu : Row .u64 w (.slice ao L cap) ms) (hv : Row .u64 w (.slice bo M dap) rs) (hd : Digs 18446744073709551616 ms) (hX : IsBig w u X) (dX : dlen X ≤ 1000) (hs : SlotsR w lo n A N C) (hr : ∀ i, i < n → Row .u64 w (.slice (A i) (N i) (C i)) (xss i)) (hdx : ∀ i, i < n → Digs 18446744073709551616 (xss i)) (hn : n ≤ 1000) :
    Calls Tryz.prog 63 #[.agg #[.slice ao L cap, .int .u64 (K : Nat), .slice bo M dap], u, .slice lo n ncap] w fun e w' => ∃ v', e = .returned (.tuple #[v', .int .i64 (E : Nat)]) ∧ Row .u64 w' v' RL ∧ NewIn w v' ∧ Kept Nought w w' := by
  obtain ⟨o1, o2, o3, o4⟩ := hok.len
  have lm : ms.length = L := by obtain ⟨_, _, _, e, h, _⟩ := hu.open; cases e; exact h.out
  rw [lm] at o1 o2
  have k0 : Kept Nought w (w.alloc (.cells #[.slice ao L cap, .int .u64 (K : Nat), .slice bo M dap] 26)) := (Kept.refl Nought w).alloc _
  have hx0 : (w.alloc (.cells #[.slice ao L cap, .int .u64 (K : Nat), .slice bo M dap] 26)).heap[w.heap.size]? = some (.cells #[.slice ao L cap, .int .u64 (K : Nat), .slice bo M dap] 26 (0, 0)) := heap_alloc_new _ _
  have hCk := q6Check ao bo L M cap dap K ms rs true ⟨fun _ => hok, fun _ => rfl⟩ _ (hu.grew k0) (hv.grew k0) hd (by omega)
  have hOm := fun W (k : Kept Nought w W) => rOf _ ms W (hu.grew k) hd (by omega)
  have dV := dlen_val6 hd
  rw [lm] at dV
  obtain ⟨V, hV⟩ : ∃ V, V = val 18446744073709551616 ms := ⟨_, rfl⟩
  obtain ⟨a, ha⟩ : ∃ a : Nat → Nat, a = fun i => val 18446744073709551616 (xss i) := ⟨_, rfl⟩
  have hMem : Hid (∀ W i R, Kept Nought w W → i < n → R = decide (N i = L ∧ a i < V) → Calls Tryz.prog 35 #[.agg #[.slice ao L cap, .int .u64 (K : Nat), .slice bo M dap], .slice (A i) (N i) (C i)] W fun e w' => e = .returned (.bool R) ∧ Kept Nought W w') := fun W i R k hi hR => by
    rw [ha, hV] at hR
    exact q6Member ao (A i) L (N i) cap (C i) _ _ ms (xss i) R hR W (hu.grew k) ((hr i hi).grew k) hd (hdx i hi) (by omega)
  have hOa : Hid (∀ W i, Kept Nought w W → i < n → N i = L → Calls Tryz.prog 17 #[.slice (A i) (N i) (C i)] W fun r w' => ∃ v', r = .returned v' ∧ IsBig w' v' (a i) ∧ (∀ b, v'.ownBlock = some b → W.heap.size ≤ b) ∧ Kept Nought W w') := fun W i k hi hN => by
    rw [ha]
    have ll : (xss i).length = N i := by obtain ⟨_, _, _, e, h, _⟩ := (hr i hi).open; cases e; exact h.out
    exact rOf _ (xss i) W ((hr i hi).grew k) (hdx i hi) (by omega)
  have hda : Hid (∀ i, i < n → N i = L → dlen (a i) ≤ 2 * L) := fun i hi hN => by
    have ll : (xss i).length = N i := by obtain ⟨_, _, _, e, h, _⟩ := (hr i hi).open; cases e; exact h.out
    have := dlen_val6 (hdx i hi)
    rw [ha]
    show dlen (val 18446744073709551616 (xss i)) ≤ 2 * L
    omega
  have hE' : Hid (E = if (∀ i, i < n → N i = L ∧ a i < V) then 0 else 1) := by unfold Hid; rw [ha, hV]; exact hE
  rw [← hV] at hOm dV o3 hRL
  rw [← ha] at hRL
  have HRL := toHid hRL
  have HS := toHid hs
  have HX := toHid hX
  clear hu hv hd hr hdx hE hok hs hX lm o2 o4 ha hV hRL
  go_enter Tryz.func63, Tryz.ntmps63
  go_wp2_with fail
  refine hCk.mono ?_
  rintro e w1 ⟨rfl, k1⟩
  have hx1 := (k1.block _ (lt_of_block hx0) (fun f => f)).trans hx0
  obtain ⟨p0, p1, p2⟩ := box3 hx1
  have k1' := k0.trans k1
  clear hCk k0 k1 hx0
  go_wp2_with fail
  refine (hOm w1 k1').mono ?_
  rintro e w2 ⟨vb, rfl, hb2, _, k2⟩
  have hx2 := (k2.block _ (lt_of_block hx1) (fun f => f)).trans hx1
  have HX2 := toHid hx2
  have HB2 := toHid hb2
  have HK2 := toHid (k1'.trans k2)
  clear hOm hx1 k1' k2 p0 p1 p2 hx2 hb2
  go_wp2_with fail
  go_loopw [1, 19] (fun x ii wr => ∃ (k : Nat), k ≤ n ∧ ii = .int .i64 (k : Int) ∧ Hid (IsBig wr x (tms X V a k)) ∧ Hid (dlen (tms X V a k) ≤ 1000) ∧ Hid (∀ j, j < k → N j = L ∧ a j < V) ∧ Kept Nought w2 wr) (fun _ ii _ => n - (intOf ii).toNat)
  case atStart => exact ⟨0, Nat.zero_le _, rfl, HX.out.grew HK2.out, dX, fun j hj => by omega, Kept.refl _ _⟩
  case round =>
    obtain ⟨k, hk, rfl, hbx, hdl, hall, hkp⟩ := hrel
    have hxr := (hkp.block _ (lt_of_block HX2.out) (fun f => f)).trans HX2.out
    obtain ⟨p0, p1, p2⟩ := box3 hxr
    have KW := toHid (HK2.out.trans hkp)
    by_cases hkn : k < n
    · have g1 : (k : Int) < (n : Int) := by omega
      obtain ⟨b, off, rfl, hc⟩ := (HS.out.grew KW.out) k hkn
      by_cases hmb : N k = L ∧ a k < V
      · have hM := hMem.out wr k true KW.out hkn (decide_eq_true hmb).symm
        have hO := fun W (kk : Kept Nought w W) => hOa.out W k kk hkn hmb.1
        have hdk := hda.out k hkn hmb.1
        have hdl' := hdl.out
        have hMM := fun W u v m (h1 : IsBig W u (tms X V a k)) (h2 : IsBig W v (a k)) (h3 : IsBig W m V) => rMulMod u v m _ _ V W h1 h2 h3 (by omega) (by omega) (by omega) (by have := dlen_mul (tms X V a k) (a k); omega)
        have HD : Hid (dlen (tms X V a (k + 1)) ≤ 1000) := by
          unfold Hid
          have h1 : tms X V a (k + 1) ≤ V := Nat.le_of_lt (Nat.mod_lt _ (by omega))
          have := dlen_mono h1
          omega
        have HALL : Hid (∀ j, j < k + 1 → N j = L ∧ a j < V) := fun j hj => by
          by_cases e : j = k
          · subst e; exact hmb
          · exact hall.out j (by omega)
        clear hdl' hdk hMem hOa hda hmb
        generalize A k = a0 at *
        generalize N k = n0 at *
        generalize C k = c0 at *
        go_wp2_with fail
        refine hM.mono ?_
        rintro e w3 ⟨rfl, k3⟩
        go_wp2_with fail
        refine (hO w3 (KW.out.trans k3)).mono ?_
        rintro e w4 ⟨v4, rfl, hb4, _, k4⟩
        have hmm := hMM w4 u1 v4 vb ((hbx.out.grew k3).grew k4) hb4 (((HB2.out.grew hkp).grew k3).grew k4)
        clear hM hO hMM p0 p1 p2 hc
        go_wp2_with fail
        refine hmm.mono ?_
        rintro e w5 ⟨v5, rfl, hb5, _, k5⟩
        go_wp2_with fail
        go_roundw
        case rel => exact ⟨k + 1, by omega, by go_num, hb5, HD, HALL, ((hkp.trans k3).trans k4).trans k5⟩
        case measure => simp [intOf]; omega
      · have hM := hMem.out wr k false KW.out hkn (decide_eq_false hmb).symm
        have HE1 : Hid (E = 1) := by
          unfold Hid
          rw [hE'.out, if_neg (fun h => hmb (h k hkn))]
        clear hMem hOa hda hmb
        generalize A k = a0 at *
        generalize N k = n0 at *
        generalize C k = c0 at *
        go_wp2_with fail
        refine hM.mono ?_
        rintro e w3 ⟨rfl, k3⟩
        go_wp2_with fail
        go_ret2
        rw [HE1.out, HRL.out, if_neg (by rw [HE1.out]; omega)]
        exact ⟨_, rfl, Row.nil _ _, NewIn.nil _, KW.out.trans k3⟩
    · have g1 : ¬ (k : Int) < (n : Int) := by omega
      have e : k = n := by omega
      subst e
      have HE0 : Hid (E = 0) := by
        unfold Hid
        rw [hE'.out, if_pos hall.out]
      have hdl' := hdl.out
      have hMo := fun W u v (h1 : IsBig W u (tms X V a k)) (h2 : IsBig W v V) => rMod u v _ V W h1 h2 (by omega) (by omega)
      have hNa := fun W v (h : IsBig W v (tms X V a k % V)) => rNat v _ L W h (by omega)
      clear hdl' hMem hOa hda
      go_wp2_with fail
      go_region_with (first
        | (go_at_call 45; refine (hMo _ _ _ ?_ ?_).mono ?_; (exact hbx.out.grew (Kept.refl Nought wr).drew); (exact (HB2.out.grew hkp).grew (Kept.refl Nought wr).drew); rintro e w4 ⟨v4, rfl, hb4, _, k4⟩; have hc4 := k4.cellN (show (World.drew wr).cell? _ = _ from p0))
        | (go_at_call 28; refine (hNa _ _ ?_).mono ?_; (exact hb4); rintro e w5 ⟨v5, rfl, hr5, n5, k5⟩))
      all_goals
        go_wp2
        go_ret2
        rw [HE0.out, HRL.out, if_pos HE0.out]
        exact ⟨_, rfl, hr5, NewIn.of n5 (KW.out.drew.trans k4), (KW.out.drew.trans k4).trans k5⟩

end Go.Proofs.YtoieghgaahfciaaGreat

/- The plain side of layer 6: Enter, Leave, Mul, One. -/
namespace Go.Proofs.YtoieghgaahfciaaGreat
open Go.RowKit

/-- What is 1 times 2^(64 n) undone. -/
theorem red_uniq {V P T Y z : Nat} (hT : P * T % V = 1) (hY : Y < V) (h : P * Y % V = z % V) : Y = T * z % V := by
  have e1 : T * z % V = T * (P * Y % V) % V := by rw [h, Nat.mul_mod_mod]
  rw [e1, Nat.mul_mod_mod, ← Nat.mul_assoc, Nat.mul_comm T P, ← Nat.mod_mul_mod, hT, Nat.one_mul, Nat.mod_eq_of_lt hY]

theorem slot1_new (W : World) (v : Value) (co : Option Addr) (N eap : Nat) (hv : v = .slice co N eap) : SlotsR (W.alloc (.cells #[v] 23)) (some ⟨W.heap.size, 0, none⟩) 1 (fun _ => co) (fun _ => N) (fun _ => eap) := by
  intro i hi
  obtain rfl : i = 0 := by omega
  subst hv
  exact ⟨_, _, rfl, (cell_of_row _ _ 0 _ _ _ (heap_alloc_new W _)).trans rfl⟩

theorem box_alloc {W : World} {a : Addr} {v : Value} (h : W.cell? a = some v) : ∀ o, (W.alloc o).cell? a = some v := fun o => ((Kept.refl Nought W).alloc o).cellN h

theorem tms1 (X V x : Nat) (a : Nat → Nat) (h : a 0 = x) : tms X V a 1 % V = X * x % V := by
  show X * a 0 % V % V = _
  rw [h, Nat.mod_mod]

theorem kself (w : World) : Kept Nought w w := Kept.refl Nought w

theorem kdrew {a w : World} (h : Kept Nought a w) : Kept Nought a w.drew := h.drew

theorem kalloc {a w : World} (o : Obj) (h : Kept Nought a w) : Kept Nought a (w.alloc o) := h.alloc o

theorem balloc {w : World} {v : Value} {V : Nat} (o : Obj) (h : IsBig w v V) : IsBig (w.alloc o) v V := h.grew ((Kept.refl _ _).alloc o)

set_option maxRecDepth 40000 in
set_option maxHeartbeats 2000000 in
theorem q6Enter (ao bo co : Option Addr) (L M N cap dap eap K : Nat) (ms rs xs : List Nat) (hok : okMod ms K rs) (E : Nat) (hE : E = if (N = L ∧ val 18446744073709551616 xs < val 18446744073709551616 ms) then 0 else 1) (RL : List Nat) (hRL : RL = if E = 0 then digs 18446744073709551616 (2 ^ (64 * L) * val 18446744073709551616 xs % val 18446744073709551616 ms) L else []) (w : World)
    (hu : Row .u64 w (.slice ao L cap) ms) (hv : Row .u64 w (.slice bo M dap) rs) (hx : Row .u64 w (.slice co N eap) xs) (hd : Digs 18446744073709551616 ms) (hdx : Digs 18446744073709551616 xs) :
    Calls Tryz.prog 33 #[.agg #[.slice ao L cap, .int .u64 (K : Nat), .slice bo M dap], .slice co N eap] w fun e w' => ∃ v', e = .returned (.tuple #[v', .int .i64 (E : Nat)]) ∧ Row .u64 w' v' RL ∧ NewIn w v' ∧ Kept Nought w w' := by
  obtain ⟨o1, o2, o3, o4⟩ := hok.len
  have lm : ms.length = L := by obtain ⟨_, _, _, e, h, _⟩ := hu.open; cases e; exact h.out
  rw [lm] at o1 o2
  have k0 : Kept Nought w (w.alloc (.cells #[.slice ao L cap, .int .u64 (K : Nat), .slice bo M dap] 26)) := (Kept.refl Nought w).alloc _
  have hx0 : (w.alloc (.cells #[.slice ao L cap, .int .u64 (K : Nat), .slice bo M dap] 26)).heap[w.heap.size]? = some (.cells #[.slice ao L cap, .int .u64 (K : Nat), .slice bo M dap] 26 (0, 0)) := heap_alloc_new _ _
  have hCk := q6Check ao bo L M cap dap K ms rs true ⟨fun _ => hok, fun _ => rfl⟩ _ (hu.grew k0) (hv.grew k0) hd (by omega)
  have hSh0 := fun W (k : Kept Nought w W) => q6ShiftUp ao L cap (.int .u64 (K : Nat)) (.slice bo M dap) ms W (hu.grew k) hd (by omega) (by omega)
  have hTm0 := fun W u lo (k : Kept Nought w W) (hX : IsBig W u (2 ^ (64 * L) % val 18446744073709551616 ms)) (hs : SlotsR W lo 1 (fun _ => co) (fun _ => N) (fun _ => eap)) => q6Times ao bo L M cap dap K ms rs hok u _ lo 1 1 (fun _ => co) (fun _ => N) (fun _ => eap) (fun _ => xs) E (by
      rw [hE]
      by_cases h : N = L ∧ val 18446744073709551616 xs < val 18446744073709551616 ms
      · rw [if_pos h, if_pos (fun _ _ => h)]
      · rw [if_neg h, if_neg (fun q => h (q 0 (by omega)))]) RL (by
      rw [hRL, tms1 _ _ (val 18446744073709551616 xs) _ rfl, Nat.mod_mul_mod]) W (hu.grew k) (hv.grew k) hd hX (by
        have h1 : 2 ^ (64 * L) % val 18446744073709551616 ms ≤ val 18446744073709551616 ms := Nat.le_of_lt (Nat.mod_lt _ (by omega))
        have h2 := dlen_mono h1
        have h3 := dlen_val6 hd
        omega) hs (fun _ _ => hx.grew k) (fun _ _ => hdx) (by omega)
  clear hu hv hx hd hdx hE hRL hok lm o2 o4
  generalize val 18446744073709551616 ms = V at *
  go_enter Tryz.func33, Tryz.ntmps33
  go_wp2_with fail
  refine hCk.mono ?_
  rintro e w1 ⟨rfl, k1⟩
  have hx1 := (k1.block _ (lt_of_block hx0) (fun f => f)).trans hx0
  obtain ⟨p0, p1, p2⟩ := box3 hx1
  have a0 := box_alloc p0
  have a1 := box_alloc p1
  have a2 := box_alloc p2
  have k1' := k0.trans k1
  have hSh : ∀ W, Kept Nought w1 W → Calls Tryz.prog 64 #[.agg #[.slice ao L cap, .int .u64 (K : Nat), .slice bo M dap], .int .i64 1] W fun e w' => ∃ v', e = .returned v' ∧ IsBig w' v' (2 ^ (64 * L) % V) ∧ Kept Nought w1 w' ∧ Kept Nought W w' := fun W k => by
    refine (hSh0 W (k1'.trans k)).mono ?_
    rintro e w' ⟨v', rfl, hb, kk⟩
    exact ⟨v', rfl, hb, k.trans kk, kk⟩
  have hTm : ∀ W u lo, Kept Nought w1 W → IsBig W u (2 ^ (64 * L) % V) → SlotsR W lo 1 (fun _ => co) (fun _ => N) (fun _ => eap) → Calls Tryz.prog 63 #[.agg #[.slice ao L cap, .int .u64 (K : Nat), .slice bo M dap], u, .slice lo 1 1] W fun e w' => ∃ v', e = .returned (.tuple #[v', .int .i64 (E : Nat)]) ∧ Row .u64 w' v' RL ∧ NewIn w v' ∧ Kept Nought w1 w' ∧ Kept Nought w w' := fun W u lo k hX hs => by
    refine (hTm0 W u lo (k1'.trans k) hX hs).mono ?_
    rintro e w' ⟨v', rfl, hr, hn, kk⟩
    exact ⟨v', rfl, hr, hn.after (k1'.trans k), k.trans kk, (k1'.trans k).trans kk⟩
  clear hCk k0 k1 hx0 hx1 hSh0 hTm0 k1'
  go_wp2_with fail
  go_region_held3 (fun w' => w'.cell? ⟨w.heap.size, 0, none⟩ = some (.slice ao L cap) ∧ w'.cell? ⟨w.heap.size, 1, none⟩ = some (.int .u64 (K : Int)) ∧ w'.cell? ⟨w.heap.size, 2, none⟩ = some (.slice bo M dap))
    (((try dsimp only); (repeat' apply And.intro) <;> first | (go_keep; done) | assumption | (apply box_alloc; assumption)))
    (first
    | (go_at_call 64; refine (hSh _ ?_).mono ?_; (first | exact kdrew (kalloc _ (kself _)) | exact kdrew (kself _)); rintro e w2 ⟨v2, rfl, hb2, k2, k2w⟩; have q0 := k2.cellN p0; have q1 := k2.cellN p1; have q2 := k2.cellN p2; have c0 := box_alloc q0; have c1 := box_alloc q1; have c2 := box_alloc q2)
    | (go_at_call_of 63 (Value.slice (some { block := w2.heap.size, off := 0, spot := none }) 1 1); refine (hTm _ _ _ ?_ ?_ ?_).mono ?_; (exact k2.alloc _); (exact balloc _ hb2); (exact slot1_new w2 _ co N eap rfl); rintro e w3 ⟨v3, rfl, hr3, n3, k31, k3⟩; have z0 := k31.cellN p0; have z1 := k31.cellN p1; have z2 := k31.cellN p2)
    | (go_at_call_of 63 (Value.slice (some { block := w1.heap.size, off := 0, spot := none }) 1 1); refine (hTm _ _ _ ?_ ?_ ?_).mono ?_; (exact k2); (exact hb2); (exact (slot1_new w1 _ co N eap rfl).grew ((Kept.refl _ _).drew.trans k2w)); rintro e w3 ⟨v3, rfl, hr3, n3, k31, k3⟩; have z0 := k31.cellN p0; have z1 := k31.cellN p1; have z2 := k31.cellN p2))
  all_goals
    go_wp2
    go_ret2
    exact ⟨_, rfl, hr3, n3, k3⟩

end Go.Proofs.YtoieghgaahfciaaGreat

/- The plain side of layer 6: Leave, Mul, One, and what a bad modulus does. -/
namespace Go.Proofs.YtoieghgaahfciaaGreat
open Go.RowKit

theorem talloc {w : World} {v : Value} {V P : Nat} (o : Obj) (h : ∃ T, T < V ∧ P * T % V = 1 ∧ IsBig w v T) : ∃ T, T < V ∧ P * T % V = 1 ∧ IsBig (w.alloc o) v T := by
  obtain ⟨T, h1, h2, h3⟩ := h
  exact ⟨T, h1, h2, balloc o h3⟩

theorem slot2_new (W : World) (co fo : Option Addr) (N1 N2 e1 e2 : Nat) : SlotsR (W.alloc (.cells #[.slice co N1 e1, .slice fo N2 e2] 23)) (some ⟨W.heap.size, 0, none⟩) 2 (fun i => if i = 0 then co else fo) (fun i => if i = 0 then N1 else N2) (fun i => if i = 0 then e1 else e2) := by
  have hn := new2 W (.slice co N1 e1) (.slice fo N2 e2) 23
  intro i hi
  refine ⟨_, _, rfl, ?_⟩
  rw [Nat.zero_add, World.ownsRow.cellAt hn i (by omega)]
  have : i = 0 ∨ i = 1 := by omega
  rcases this with rfl | rfl <;> rfl

theorem tms2 (X V x y : Nat) (a : Nat → Nat) (h : a 0 = x) (h' : a 1 = y) : tms X V a 2 % V = X * (x * y) % V := by
  show X * a 0 % V * a 1 % V % V = _
  rw [h, h', Nat.mod_mod, Nat.mod_mul_mod, Nat.mul_assoc]

end Go.Proofs.YtoieghgaahfciaaGreat
