/- Put together of: WOaeSeen LOaepSeen. -/
import Derived.Test.YtnhkfdbeacmepaaDoorPk1
import Derived.Test.YtnhkfdbeacmepaaDoorPk28
import Derived.Test.YtnhkfdbeacmepaaDoorPk34
import Derived.Test.YtnhkfdbeacmepaaDoorPk35

/- The walk of the statement on what Decode writes down, of the landed contracts. -/
namespace Go.Proofs.YtnhkfdbeacmepaaDoor
open Go.RowKit

/-- Decode, landed, of any trace: what it writes down hangs on the hash and the length. -/
def ODecT (T : World → Prop) (ev : Int → Nat → List Ev) : Prop := (∀ h n, (ev h n).length ≤ 100000) ∧ ∀ (o : Tr) (h : Int) (lo : Option Addr) (ll lc : Nat) (lb : List Nat) (eo : Option Addr) (L ec : Nat) (em : List Nat) (w W0 : World), T W0 → (∀ x, x < W0.heap.size → ¬ trFoot o x) → T w → TrRoom w o 100000 → -9223372036854775808 ≤ h → h ≤ 9223372036854775807 → RowB w o (.slice lo ll lc) lb → Digs 256 lb → ll ≤ 10000 → RowB w o (.slice eo L ec) em → Digs 256 em → L ≤ 10000 →
  Calls Tryd.prog 15 #[trPtr o, .int .i64 h, .slice lo ll lc, .slice eo L ec] w fun e w' => ∃ x, e = .returned x ∧ ∃ o', Did w o (ev h L) w' o'

theorem Duo.odec {W0 W : World} {p q : Nat} {es et : List Ev} {T : World → Prop} {ev : Int → Nat → List Ev} (hV : ODecT T ev) (h : Duo W0 W p q es et) (hlen : es.length ≤ 1000000) (hi : Int) (lo : Option Addr) (ll lc : Nat) (lb : List Nat) (eo : Option Addr) (L ec : Nat) (em : List Nat) (ht0 : T W0) (ht : T W) (h0 : -9223372036854775808 ≤ hi) (h1 : hi ≤ 9223372036854775807) (hl : Row .u8 W0 (.slice lo ll lc) lb) (dl : Digs 256 lb) (hll : ll ≤ 10000) (he : Row .u8 W0 (.slice eo L ec) em) (de : Digs 256 em) (hL : L ≤ 10000) :
    Calls Tryd.prog 15 #[.pointer (some ⟨p, 0, none⟩), .int .i64 hi, .slice lo ll lc, .slice eo L ec] W fun e w' => ∃ x, e = .returned x ∧ Duo W0 w' p q (es ++ ev hi L) et := by
  refine h.callA 100000 (args := fun t => #[t, .int .i64 hi, .slice lo ll lc, .slice eo L ec]) (by omega) (hV.1 hi L) (fun o ht' ha => ?_)
  exact hV.2 o hi lo ll lc lb eo L ec em W W0 ht0 ha ht ht' h0 h1 ⟨hl.grew h.1, fun hn b hb f => ha b (hl.lt hn b hb) f⟩ dl hll ⟨he.grew h.1, fun hn b hb f => ha b (he.lt hn b hb) f⟩ de hL

set_option maxRecDepth 100000 in
set_option maxHeartbeats 4000000 in
theorem wOaepSeen {T : World → Prop} {ev : Int → Nat → List Ev} (hT : Stands T) (hE : OEnc T) (hD : ODec T) (hR : ORoo) (hV : ODecT T ev) (h : Int) (u : Value) (lb : List Nat) (v : Value) (ob : List Nat) (x : Value) (xs : List Nat) (y : Value) (bs : List Nat) (w : World) (hu : Row .u8 w u lb) (hv : Row .u8 w v ob) (hx : Row .u8 w x xs) (hy : Row .u8 w y bs) (dl : Digs 256 lb) (do_ : Digs 256 ob) (dx : Digs 256 xs) (db : Digs 256 bs) (hh : (Lit.int .i64 h).wf = true) (ht : T w) :
    Calls Tryd.prog 7 #[.int .i64 h, u, v, x, y] w fun e w' => e = .returned (.bool true) ∧ Below w.heap.size w w' := by
  obtain ⟨hh0, hh1⟩ := bounds_i64 hh
  obtain ⟨lo, ll, lc, rfl, -, _⟩ := hu.open
  obtain ⟨oo, ol, oc, rfl, -, _⟩ := hv.open
  obtain ⟨xo, xl, xc, rfl, -, _⟩ := hx.open
  obtain ⟨yo, yl, yc, rfl, -, _⟩ := hy.open
  have J0 := f24Awake hT hE hD hR w ht
  have JF := toHid fun W R hR => few24_4 lo ll lc oo ol oc xo xl xc yo yl yc W R hR
  by_cases hf : ll ≤ 400 ∧ ol ≤ 400 ∧ xl ≤ 400 ∧ yl ≤ 400
  · have HF := toHid fun W => JF.out W true (iff_of_true rfl hf)
    obtain ⟨f1, f2, f3, f4⟩ := hf
    by_cases he : xl = yl
    · subst he
      have JDa := toHid fun W0 W p q es et (k : Kept Nought w W0) (d : Duo W0 W p q es et) (hl2 : es.length ≤ 1000000) => Duo.odec hV d hl2 h lo ll lc lb xo xl xc xs (hT _ _ ht k) (hT _ _ ht (k.trans d.1)) hh0 hh1 (hu.grew k) dl (by omega) (hx.grew k) dx (by omega)
      have JDb := toHid fun W0 W p q es et (k : Kept Nought w W0) (d : Duo W0 W p q es et) (hl2 : es.length ≤ 1000000) => Duo.odec hV d hl2 h oo ol oc ob yo xl yc bs (hT _ _ ht k) (hT _ _ ht (k.trans d.1)) hh0 hh1 (hv.grew k) do_ (by omega) (hy.grew k) db (by omega)
      clear hu hv hx hy dl do_ dx db hh hh0 hh1 hT hE hD hR hV ht JF
      go_enter Tryd.func7, Tryd.ntmps7
      go_wp2_with fail
      refine J0.mono ?_
      rintro r w1 ⟨rfl, k1⟩
      have HK2 := toHid (k1.alloc (.cells #[.slice lo ll lc, .slice oo ol oc, .slice xo xl xc, .slice yo xl yc] 22))
      have JA := HF.out w1
      clear J0 k1
      go_wp2_with fail
      refine JA.mono ?_
      rintro r w2 ⟨rfl, rfl⟩
      generalize w1.alloc (.cells #[.slice lo ll lc, .slice oo ol oc, .slice xo xl xc, .slice yo xl yc] 22) = w2 at *
      have hT1 := tNew w2
      have hT2 := tNew (w2.alloc newTr)
      rw [show (w2.alloc newTr).heap.size = w2.heap.size + 1 by simp] at hT2
      have DU := toHid (Duo.new w2)
      clear JA
      go_wp2_with fail
      refine hT1.mono ?_
      rintro e w6 ⟨rfl, rfl⟩
      go_wp2_with fail
      refine hT2.mono ?_
      rintro e w7 ⟨rfl, rfl⟩
      have E1 := JDa.out w2 _ w2.heap.size (w2.heap.size + 1) [] [] HK2.out DU.out (by simp)
      clear hT1 hT2
      go_wp2_with fail
      refine E1.mono ?_
      rintro e w8 ⟨x8, rfl, D8⟩
      have E2 := JDb.out w2 _ _ _ _ _ HK2.out D8.swap (by simp)
      clear E1 D8
      go_wp2_with fail
      refine E2.mono ?_
      rintro e w9 ⟨x9, rfl, D9⟩
      have hSa := Duo.same D9.swap
      clear E2 D9
      go_wp2_with fail
      refine hSa.mono ?_
      rintro e w14 ⟨rfl, D14⟩
      have HD := toHid D14.1
      clear hSa D14
      go_wp2_with fail
      go_ret
      exact ⟨rfl, below_kept (HK2.out.trans HD.out) (Nat.le_refl _)⟩
    · have g1 : ¬ (xl : Int) = (yl : Int) := by omega
      have g2 : ((xl : Int) == (yl : Int)) = false := by simp; omega
      clear hu hv hx hy dl do_ dx db hh hh0 hh1 hT hE hD hR hV ht JF he
      go_enter Tryd.func7, Tryd.ntmps7
      go_wp2_with fail
      refine J0.mono ?_
      rintro r w1 ⟨rfl, k1⟩
      have HK2 := toHid (k1.alloc (.cells #[.slice lo ll lc, .slice oo ol oc, .slice xo xl xc, .slice yo yl yc] 22))
      have JA := HF.out w1
      clear J0 k1
      go_wp2_with fail
      refine JA.mono ?_
      rintro r w2 ⟨rfl, rfl⟩
      clear JA
      go_wp2_with fail
      go_ret
      exact ⟨rfl, below_kept HK2.out (Nat.le_refl _)⟩
  · have HF := toHid fun W => JF.out W false (iff_of_false (by decide) hf)
    clear hu hv hx hy dl do_ dx db hh hh0 hh1 hT hE hD hR hV ht JF hf
    go_enter Tryd.func7, Tryd.ntmps7
    go_wp2_with fail
    refine J0.mono ?_
    rintro r w1 ⟨rfl, k1⟩
    have HK2 := toHid (k1.alloc (.cells #[.slice lo ll lc, .slice oo ol oc, .slice xo xl xc, .slice yo yl yc] 22))
    have JA := HF.out w1
    clear J0 k1
    go_wp2_with fail
    refine JA.mono ?_
    rintro r w2 ⟨rfl, rfl⟩
    clear JA
    go_wp2_with fail
    go_ret
    exact ⟨rfl, below_kept HK2.out (Nat.le_refl _)⟩

end Go.Proofs.YtnhkfdbeacmepaaDoor


/- The law OaepSeen, walked. -/
namespace Go.Proofs.YtnhkfdbeacmepaaDoor
open Go.RowKit

theorem oDecT : ODecT TabH oaeEv := ⟨fun h n => Nat.le_trans (oaeEv_len h n) (by omega), fun o h lo ll lc lb eo L ec em w W0 hT0 ha hT ht _ _ hl dl hll he de _ => by
  refine (zDec o h lo ll lc lb eo L ec em w hT (fun x hx => ha x (hT0.lt hx)) (ht.less (by omega)) hl.1 dl hll he de).mono ?_
  rintro e w' ⟨u, rfl, _, o', d⟩
  exact ⟨_, rfl, o', d⟩⟩

theorem walkOaepSeen (h : Int) (u : Value) (lb : List Nat) (v : Value) (ob : List Nat) (x : Value) (xs : List Nat) (y : Value) (bs : List Nat) (w : World) (hu : Row .u8 w u lb) (hv : Row .u8 w v ob) (hx : Row .u8 w x xs) (hy : Row .u8 w y bs) (dl : Digs 256 lb) (do_ : Digs 256 ob) (dx : Digs 256 xs) (db : Digs 256 bs) (hh : (Lit.int .i64 h).wf = true) (ht : TabH w) :
    Calls Tryd.prog 7 #[.int .i64 h, u, v, x, y] w fun e w' => e = .returned (.bool true) ∧ Below w.heap.size w w' :=
  wOaepSeen oStands zEnc oDec oRoo oDecT h u lb v ob x xs y bs w hu hv hx hy dl do_ dx db hh ht

end Go.Proofs.YtnhkfdbeacmepaaDoor

