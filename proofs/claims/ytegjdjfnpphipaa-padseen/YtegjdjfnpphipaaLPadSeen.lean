/- The law PadSeen, walked. -/
import Derived.Test.YtegjdjfnpphipaaPad5
import Derived.Test.YtegjdjfnpphipaaDuo0
import Derived.Test.YtegjdjfnpphipaaOpenRow
namespace Go.Proofs.Ytegjdjfnpphipaa
open Go.RowKit

/-- A call that writes the first trace, of up to b events; what lies in W0 lies apart from it. -/
theorem Duo.callA {W0 W : World} {p q f : Nat} {es et m : List Ev} {args : Value → Array Value} (b : Nat) (h : Duo W0 W p q es et) (hlen : es.length + b < 1000000000000) (hm : m.length ≤ b)
    (hc : ∀ o, TrRoom W o b → (∀ x, x < W0.heap.size → ¬ trFoot o x) → Calls Try.prog f (args (trPtr o)) W fun e w' => ∃ x, e = .returned x ∧ ∃ o', Did W o m w' o') :
    Calls Try.prog f (args (.pointer (some ⟨p, 0, none⟩))) W fun e w' => ∃ x, e = .returned x ∧ Duo W0 w' p q (es ++ m) et := by
  obtain ⟨k, o, r, ⟨h1, h0, h2, h3, h4⟩, ⟨g1, g0, g2, g3, g4⟩, ha⟩ := h
  rw [← h2]
  have hroom : TrRoom W o b := ⟨h1, by rw [h3]; exact hlen⟩
  refine (hc o hroom (fun x hx f => by have := h4 x f; omega)).mono ?_
  rintro e w' ⟨x, rfl, o', d⟩
  refine ⟨x, rfl, ?_, o', r, ⟨(d.room (k := 0) (hroom.less (by omega))).1, ?_, by rw [d.ptr, h2], by rw [d.evs h0, h3], fun b f => ?_⟩, ⟨g1.apart2 d (fun b f g => ha b g f), g0, g2, g3, g4⟩, fun b f g => ?_⟩
  · exact k.next d.kept (fun x hx f => absurd (h4 x f) (by omega))
  · intro e
    have := d.ptr
    rw [e, h2] at this
    exact absurd this (by simp [trPtr])
  · by_cases hb : b < W.heap.size
    · exact h4 b (d.foot hb f)
    · have := k.size
      omega
  · have hb := g1.foot b g
    exact ha b (d.foot hb f) g

theorem decEv_len (M : Nat) : (decEv M).length ≤ 2 := by
  unfold decEv
  split <;> simp

theorem Duo.dec {W0 W : World} {p q : Nat} {es et : List Ev} (h : Duo W0 W p q es et) (hlen : es.length ≤ 1000000) (mo : Option Addr) (M mc : Nat) (em : List Nat) (hr : Row .u8 W0 (.slice mo M mc) em) (hd : Digs 256 em) :
    Calls Try.prog 15 #[.pointer (some ⟨p, 0, none⟩), .slice mo M mc] W fun e w' => ∃ x, e = .returned x ∧ Duo W0 w' p q (es ++ decEv M) et := by
  refine h.callA 2 (args := fun t => #[t, .slice mo M mc]) (by omega) (decEv_len M) (fun o ht ha => ?_)
  refine (kDec o mo M mc em W ht ⟨hr.grew h.1, fun hn b hb f => ha b (hr.lt hn b hb) f⟩ hd).mono ?_
  rintro e w' ⟨u, rfl, _, o', d⟩
  exact ⟨_, rfl, o', d⟩

theorem Duo.fnd {W0 W : World} {p q : Nat} {es et : List Ev} (h : Duo W0 W p q es et) (hlen : es.length ≤ 1000000) (mo : Option Addr) (M mc : Nat) (em : List Nat) (c : Nat) (fr : Int) (hr : Row .u8 W0 (.slice mo M mc) em) (hd : Digs 256 em) (hc : c < 256) (hM : M ≤ 10000) (h0 : -9223372036854775808 ≤ fr) (h1 : fr ≤ 9223372036854775807) :
    Calls Try.prog 17 #[.pointer (some ⟨p, 0, none⟩), .slice mo M mc, .int .u8 ((c : Nat) : Int), .int .i64 fr] W fun e w' => ∃ x, e = .returned x ∧ Duo W0 w' p q (es ++ [(1, (M : Int), 0)]) et := by
  refine h.callA 2 (args := fun t => #[t, .slice mo M mc, .int .u8 ((c : Nat) : Int), .int .i64 fr]) (by omega) (by simp) (fun o ht ha => ?_)
  refine (kFind o mo M mc em c fr W ht.1 ⟨hr.grew h.1, fun hn b hb f => ha b (hr.lt hn b hb) f⟩ hd hc hM h0 h1).mono ?_
  rintro e w' ⟨a, s, rfl, _, o', d⟩
  exact ⟨_, rfl, o', d⟩

theorem Duo.equ {W0 W : World} {p q : Nat} {es et : List Ev} (h : Duo W0 W p q es et) (hlen : es.length ≤ 1000000) (ao bo : Option Addr) (M cap dap : Nat) (xs bs : List Nat) (hx : Row .u8 W0 (.slice ao M cap) xs) (hb : Row .u8 W0 (.slice bo M dap) bs) (dx : Digs 256 xs) (db : Digs 256 bs) (hM : M ≤ 10000) :
    Calls Try.prog 18 #[.pointer (some ⟨p, 0, none⟩), .slice ao M cap, .slice bo M dap] W fun e w' => ∃ x, e = .returned x ∧ Duo W0 w' p q (es ++ [(1, (M : Int), 0)]) et := by
  refine h.callA 2 (args := fun t => #[t, .slice ao M cap, .slice bo M dap]) (by omega) (by simp) (fun o ht ha => ?_)
  refine (kEqual o ao bo M cap M dap xs bs _ W rfl ht.1 ⟨hx.grew h.1, fun hn b hb f => ha b (hx.lt hn b hb) f⟩ ⟨hb.grew h.1, fun hn b hb' f => ha b (hb.lt hn b hb') f⟩ dx db hM hM).mono ?_
  rintro e w' ⟨rfl, o', d⟩
  rw [Nat.max_self] at d
  exact ⟨_, rfl, o', d⟩

set_option maxRecDepth 40000 in
set_option maxHeartbeats 4000000 in
theorem walkPadSeen (x : Value) (xs : List Nat) (u : Value) (bs : List Nat) (c d fr more : Int) (w : World) (hx : Row .u8 w x xs) (hu : Row .u8 w u bs) (dx : Digs 256 xs) (db : Digs 256 bs) (hc : (Lit.int .u8 c).wf = true) (hd : (Lit.int .u8 d).wf = true) (hfr : (Lit.int .i64 fr).wf = true) (hmo : (Lit.int .i64 more).wf = true) :
    Calls Try.prog 7 #[x, u, .int .u8 c, .int .u8 d, .int .i64 fr, .int .i64 more] w fun e w' => e = .returned (.bool true) ∧ Below w.heap.size w w' := by
  obtain ⟨hf0, hf1⟩ := bounds_i64 hfr
  obtain ⟨hm0, hm1⟩ := bounds_i64 hmo
  obtain ⟨hc0, hc1⟩ := wf_u8 c hc
  obtain ⟨hd0, hd1⟩ := wf_u8 d hd
  obtain ⟨c, rfl⟩ := Int.eq_ofNat_of_zero_le hc0
  obtain ⟨d, rfl⟩ := Int.eq_ofNat_of_zero_le hd0
  obtain ⟨mo, M, mc, rfl, hM, _⟩ := hx.open
  obtain ⟨uo, un, uc, rfl, hul, _⟩ := hu.open
  have J0 := f23Awake kDecD w
  by_cases hf : M ≤ 1200 ∧ un ≤ 1200
  · have HFEW := toHid fun W => few23b mo uo M un mc uc W true (iff_of_true rfl hf)
    obtain ⟨hl, hm⟩ := hf
    by_cases he : M = un
    · subst he
      have JDa := toHid fun W0 W p q es et (k : Kept Nought w W0) (h : Duo W0 W p q es et) (hl2 : es.length ≤ 1000000) => h.dec hl2 mo M mc xs (hx.grew k) dx
      have JDb := toHid fun W0 W p q es et (k : Kept Nought w W0) (h : Duo W0 W p q es et) (hl2 : es.length ≤ 1000000) => h.dec hl2 uo M uc bs (hu.grew k) db
      have JFa := toHid fun W0 W p q es et (k : Kept Nought w W0) (h : Duo W0 W p q es et) (hl2 : es.length ≤ 1000000) => h.fnd hl2 mo M mc xs c fr (hx.grew k) dx (by omega) (by omega) hf0 hf1
      have JFb := toHid fun W0 W p q es et (k : Kept Nought w W0) (h : Duo W0 W p q es et) (hl2 : es.length ≤ 1000000) => h.fnd hl2 uo M uc bs d more (hu.grew k) db (by omega) (by omega) hm0 hm1
      have JEa := toHid fun W0 W p q es et (k : Kept Nought w W0) (h : Duo W0 W p q es et) (hl2 : es.length ≤ 1000000) => h.equ hl2 mo uo M mc uc xs bs (hx.grew k) (hu.grew k) dx db (by omega)
      have JEb := toHid fun W0 W p q es et (k : Kept Nought w W0) (h : Duo W0 W p q es et) (hl2 : es.length ≤ 1000000) => h.equ hl2 uo uo M uc uc bs bs (hu.grew k) (hu.grew k) db db (by omega)
      have HDL := toHid (decEv_len M)
      clear hx hu dx db hfr hmo hc hd hM hul
      go_enter Try.func7, Try.ntmps7
      go_wp2_with fail
      refine J0.mono ?_
      rintro e w1 ⟨rfl, k1⟩
      have HK2 := toHid (k1.alloc (.cells #[.slice mo M mc, .slice uo M uc] 22))
      have J1 := HFEW.out w1
      clear J0 k1
      go_wp2_with fail
      refine J1.mono ?_
      rintro e w2 ⟨rfl, rfl⟩
      generalize w1.alloc (.cells #[.slice mo M mc, .slice uo M uc] 22) = w2 at *
      have hT1 := tNew w2
      have hT2 := tNew (w2.alloc newTr)
      rw [show (w2.alloc newTr).heap.size = w2.heap.size + 1 by simp] at hT2
      have DU := toHid (Duo.new w2)
      clear J1
      go_wp2_with fail
      refine hT1.mono ?_
      rintro e w6 ⟨rfl, rfl⟩
      go_wp2_with fail
      refine hT2.mono ?_
      rintro e w7 ⟨rfl, rfl⟩
      have E1 := JDa.out w2 _ w2.heap.size (w2.heap.size + 1) [] [] HK2.out DU.out (by simp)
      clear hT1 hT2
      go_wp2_with fail
      refine E1.mono ?_
      rintro e w8 ⟨x8, rfl, D8⟩
      have E2 := JFa.out w2 _ _ _ _ _ HK2.out D8 (by have := HDL.out; simp; omega)
      clear E1 D8
      go_wp2_with fail
      refine E2.mono ?_
      rintro e w9 ⟨x9, rfl, D9⟩
      have E3 := JEa.out w2 _ _ _ _ _ HK2.out D9 (by have := HDL.out; simp; omega)
      clear E2 D9
      go_wp2_with fail
      refine E3.mono ?_
      rintro e w10 ⟨x10, rfl, D10⟩
      have E4 := JDb.out w2 _ _ _ _ _ HK2.out D10.swap (by simp)
      clear E3 D10
      go_wp2_with fail
      refine E4.mono ?_
      rintro e w11 ⟨x11, rfl, D11⟩
      have E5 := JFb.out w2 _ _ _ _ _ HK2.out D11 (by have := HDL.out; simp; omega)
      clear E4 D11
      go_wp2_with fail
      refine E5.mono ?_
      rintro e w12 ⟨x12, rfl, D12⟩
      have E6 := JEb.out w2 _ _ _ _ _ HK2.out D12 (by have := HDL.out; simp; omega)
      clear E5 D12
      go_wp2_with fail
      refine E6.mono ?_
      rintro e w13 ⟨x13, rfl, D13⟩
      have hSa := Duo.same D13.swap
      clear E6 D13
      go_wp2_with fail
      refine hSa.mono ?_
      rintro e w14 ⟨rfl, D14⟩
      have HD := toHid D14.1
      clear hSa D14
      go_wp2_with fail
      go_ret
      exact ⟨rfl, below_kept (HK2.out.trans HD.out) (Nat.le_refl _)⟩
    · have g1 : ¬ (M : Int) = (un : Int) := by omega
      have g2 : ((M : Int) == (un : Int)) = false := by simp; omega
      clear hx hu dx db hfr hmo hc hd hM hul he
      go_enter Try.func7, Try.ntmps7
      go_wp2_with fail
      refine J0.mono ?_
      rintro e w1 ⟨rfl, k1⟩
      have HK2 := toHid (k1.alloc (.cells #[.slice mo M mc, .slice uo un uc] 22))
      have J1 := HFEW.out w1
      clear J0 k1
      go_wp2_with fail
      refine J1.mono ?_
      rintro e w2 ⟨rfl, rfl⟩
      clear J1
      go_wp2_with fail
      go_ret
      exact ⟨rfl, below_kept HK2.out (Nat.le_refl _)⟩
  · have HFEW := toHid fun W => few23b mo uo M un mc uc W false (iff_of_false (by decide) hf)
    clear hx hu dx db hfr hmo hc hd hM hul
    go_enter Try.func7, Try.ntmps7
    go_wp2_with fail
    refine J0.mono ?_
    rintro e w1 ⟨rfl, k1⟩
    have HK2 := toHid (k1.alloc (.cells #[.slice mo M mc, .slice uo un uc] 22))
    have J1 := HFEW.out w1
    clear J0 k1 hf
    go_wp2_with fail
    refine J1.mono ?_
    rintro e w2 ⟨rfl, rfl⟩
    clear J1
    go_wp2_with fail
    go_ret
    exact ⟨rfl, below_kept HK2.out (Nat.le_refl _)⟩

end Go.Proofs.Ytegjdjfnpphipaa
