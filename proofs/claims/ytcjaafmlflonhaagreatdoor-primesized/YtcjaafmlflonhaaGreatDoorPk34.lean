/- Put together of: Lsc4. -/
import Derived.Test.YtcjaafmlflonhaaGreatDoorPk28
import Derived.Test.YtcjaafmlflonhaaGreatDoorPk31
import Derived.Test.YtcjaafmlflonhaaGreatDoorPk32
import Derived.Test.YtcjaafmlflonhaaGreatDoorPk33
import Derived.BigRegion
import Derived.Laws.OwnMore

/- Package script: the draws of a number, as a range over a function hands them out (draws). -/
namespace Go.Proofs.YtcjaafmlflonhaaGreatDoor
open Go.RowKit Go.Shelf

attribute [local go_sem] Oper.semAt_some

/-- The first byte's highest bits are made 0. -/
theorem bev_mask {x : Nat} {r : List Nat} (hr : Digs 256 r) {t s : Nat} (hs : s < 8) (ht : t + s = 8 * (r.length + 1)) : bev (x % 2 ^ (8 - s) :: r) = bev (x :: r) % 2 ^ t := by
  have e : ∀ y, bev (y :: r) = y * 256 ^ r.length + bev r := fun y => by
    have := bev_appendB [y] r
    simpa [bev] using this
  have hp : 2 ^ t = 256 ^ r.length * 2 ^ (8 - s) := by
    rw [show (256 : Nat) = 2 ^ 8 from rfl, ← Nat.pow_mul, ← Nat.pow_add]
    congr 1
    omega
  have hl := bev_ltB hr
  have hpos : 0 < 256 ^ r.length := Nat.pow_pos (by omega)
  rw [e, e, hp, Nat.mod_mul, Nat.mul_comm x, Nat.mul_add_mod, Nat.mod_eq_of_lt hl, Nat.mul_add_div hpos, Nat.div_eq_of_lt hl, Nat.add_zero, Nat.mul_comm (x % _)]
  omega

theorem and_lowB {x s : Nat} (hs : s < 8) : x &&& (255 / 2 ^ s) = x % 2 ^ (8 - s) := by
  have e : 255 / 2 ^ s = 2 ^ (8 - s) - 1 := by
    obtain rfl | rfl | rfl | rfl | rfl | rfl | rfl | rfl : s = 0 ∨ s = 1 ∨ s = 2 ∨ s = 3 ∨ s = 4 ∨ s = 5 ∨ s = 6 ∨ s = 7 := by omega
    all_goals rfl
  rw [e, Nat.and_two_pow_sub_one_eq_mod]

/-- A draw: the bytes from place k z on, in t bits. -/
def drwN (t z : Nat) (bs : List Nat) (k : Nat) : Nat := bev ((bs.drop (k * z)).take z) % 2 ^ t

/-- What is handed out, and what is left of the script then. -/
def DrwX (p : Option Addr) (B t z L : Nat) (bs : List Nat) (N : Nat) (pre : List (Nat × Value)) (x : Nat × Value) (A : World) : Prop :=
  x.1 = pre.length + 1 ∧ (pre.length + 1) * z ≤ bs.length ∧ (Row .u64 A x.2 (digs 18446744073709551616 (drwN t z bs pre.length) L) ∧ ∀ b, x.2.ownBlock = some b → N ≤ b) ∧ Lsc A p B (bs.drop ((pre.length + 1) * z))

/-- How it ends by itself. -/
def DrwS (p : Option Addr) (B z : Nat) (bs : List Nat) (s : List (Nat × Value)) (A : World) : Prop := s.length * z ≤ bs.length ∧ bs.length < (s.length + 1) * z ∧ Lsc A p B []

theorem DrwX.put {p : Option Addr} {B t z L l N : Nat} {bs : List Nat} {pre : List (Nat × Value)} {x : Nat × Value} {A : World} {o : Obj} (o' : Obj) (h : DrwX p B t z L bs N pre x A) (hl : A.heap[l]? = some o) (ho : o.isCells = false) : DrwX p B t z L bs N pre x (A.putObj l o') :=
  ⟨h.1, h.2.1, ⟨row_put o' h.2.2.1.1 hl ho, h.2.2.1.2⟩, h.2.2.2.put o' hl ho⟩

theorem Lsc.low {A C : World} {p : Option Addr} {B D : Nat} {bs : List Nat} (h : Lsc A p B bs) (k : Below D A C) (hB : B ≤ D) : Lsc C p B bs :=
  h.kept (S := fun x => D ≤ x) ⟨k.os, k.tape, k.output, k.size, fun i _ hs => k.block i (Nat.lt_of_not_le hs)⟩ (fun x hx e => by
    have e' : D ≤ x := e
    omega)

set_option maxRecDepth 20000 in
set_option maxHeartbeats 1000000 in
/-- draws: three parameters and the number of bytes are boxed; the function value holds the boxes. -/
theorem xDraws (p : Option Addr) (t n : Nat) (w : World) (ht : t ≤ 1000000) :
    Calls Tryz.prog 142 #[.pointer p, .int .i64 (t : Int), .int .i64 (n : Int)] w fun e w' => e = .returned (.func (.func 164) #[] #[.pointer (some ⟨w.heap.size, 0, none⟩), .pointer (some ⟨w.heap.size + 3, 0, none⟩), .pointer (some ⟨w.heap.size + 1, 0, none⟩), .pointer (some ⟨w.heap.size + 2, 0, none⟩)]) ∧
      Boxed w' w.heap.size 25 (.pointer p) ∧ Boxed w' (w.heap.size + 1) 3 (.int .i64 (t : Int)) ∧ Boxed w' (w.heap.size + 2) 3 (.int .i64 (n : Int)) ∧ Boxed w' (w.heap.size + 3) 3 (.int .i64 ((t + 7) / 8 : Nat)) ∧ Kept Nought w w' ∧ w'.heap.size = w.heap.size + 4 := by
  obtain ⟨z, hz⟩ : ∃ z, z = (t + 7) / 8 := ⟨_, rfl⟩
  rw [← hz]
  have g1 : ((t : Int) + 8 - 1) / 8 = (z : Int) := by omega
  have g2 : ((t : Int) + 8 - 1).tdiv 8 = (z : Int) := by rw [Int.tdiv_eq_ediv_of_nonneg (by omega)]; exact g1
  have b0 := (((Boxed.new w 25 (.pointer p)).alloc (.cells #[.int .i64 (t : Int)] 3)).alloc (.cells #[.int .i64 (n : Int)] 3)).alloc (.cells #[.int .i64 (z : Int)] 3)
  have b1 := ((Boxed.new (w.alloc (.cells #[.pointer p] 25)) 3 (.int .i64 (t : Int))).alloc (.cells #[.int .i64 (n : Int)] 3)).alloc (.cells #[.int .i64 (z : Int)] 3)
  have b2 := (Boxed.new ((w.alloc (.cells #[.pointer p] 25)).alloc (.cells #[.int .i64 (t : Int)] 3)) 3 (.int .i64 (n : Int))).alloc (.cells #[.int .i64 (z : Int)] 3)
  have b3 := Boxed.new (((w.alloc (.cells #[.pointer p] 25)).alloc (.cells #[.int .i64 (t : Int)] 3)).alloc (.cells #[.int .i64 (n : Int)] 3)) 3 (.int .i64 (z : Int))
  simp only [World.size_alloc] at b1 b2 b3
  have c1 : ((w.alloc (.cells #[.pointer p] 25)).alloc (.cells #[.int .i64 (t : Int)] 3)).cell? ⟨w.heap.size + 1, 0, none⟩ = some (.int .i64 (t : Int)) := by
    have := (Boxed.new (w.alloc (.cells #[.pointer p] 25)) 3 (.int .i64 (t : Int))).cell
    rwa [World.size_alloc] at this
  have c1' := (((Boxed.new (w.alloc (.cells #[.pointer p] 25)) 3 (.int .i64 (t : Int))).alloc (.cells #[.int .i64 (n : Int)] 3)).cell)
  rw [World.size_alloc] at c1'
  have HB0 := toHid b0
  have HB1 := toHid b1
  have HB2 := toHid b2
  have HB3 := toHid b3
  have c3 := b3.cell
  have f3 := b3.frozen
  clear hz b0 b1 b2 b3
  go_enter Tryz.func142, Tryz.ntmps142
  go_wp2_with fail
  go_ret
  exact ⟨rfl, HB0.out, HB1.out, HB2.out, HB3.out, ((((Kept.refl Nought w).alloc _).alloc _).alloc _).alloc _, by simp⟩

/-- What stands between two draws: the script, the four boxes. -/
structure BtwD (W wr : World) (p : Option Addr) (B z k bp bz bt bn t L : Nat) (bs : List Nat) : Prop where
  few : k * z ≤ bs.length
  scr : Lsc wr p B (bs.drop (k * z))
  pb : Boxed wr bp 25 (.pointer p)
  zb : Boxed wr bz 3 (.int .i64 (z : Nat))
  tb : Boxed wr bt 3 (.int .i64 (t : Nat))
  nb : Boxed wr bn 3 (.int .i64 (L : Nat))
  size : W.heap.size ≤ wr.heap.size

theorem BtwD.kept {S : Nat → Prop} {W wr w' : World} {p : Option Addr} {B z k bp bz bt bn t L : Nat} {bs : List Nat} (b : BtwD W wr p B z k bp bz bt bn t L bs) (kk : Kept S wr w') (hB : ∀ x, x < B → ¬ S x) (h1 : ¬ S bp) (h2 : ¬ S bz) (h3 : ¬ S bt) (h4 : ¬ S bn) : BtwD W w' p B z k bp bz bt bn t L bs :=
  ⟨b.few, b.scr.kept kk hB, boxed_but b.pb kk h1, boxed_but b.zb kk h2, boxed_but b.tb kk h3, boxed_but b.nb kk h4, Nat.le_trans b.size kk.size⟩

/-- One draw further. -/
theorem BtwD.next {S : Nat → Prop} {W wr w' : World} {p : Option Addr} {B z k bp bz bt bn t L : Nat} {bs : List Nat} (b : BtwD W wr p B z k bp bz bt bn t L bs) (kk : Kept S wr w') (hf : (k + 1) * z ≤ bs.length) (hs : Lsc w' p B (bs.drop ((k + 1) * z))) (h1 : ¬ S bp) (h2 : ¬ S bz) (h3 : ¬ S bt) (h4 : ¬ S bn) : BtwD W w' p B z (k + 1) bp bz bt bn t L bs :=
  ⟨hf, hs, boxed_but b.pb kk h1, boxed_but b.zb kk h2, boxed_but b.tb kk h3, boxed_but b.nb kk h4, Nat.le_trans b.size kk.size⟩

set_option maxRecDepth 100000 in
set_option maxHeartbeats 2000000 in
/-- draws' value, as a range over it wants it. -/
theorem xDraws1 (n : Nat) (hn : 1 ≤ n) (p : Option Addr) (B t z s L bp bz bt bn : Nat) (bs : List Nat) (w : World) (Sb : Nat → Prop) (hz : 1 ≤ z) (hts : t + s = 8 * z) (hs8 : s < 8) (hL : L ≤ 300) (htL : t ≤ 64 * L)
    (hsc : Lsc w p B bs) (hd : Digs 256 bs) (hp : Boxed w bp 25 (.pointer p)) (hzb : Boxed w bz 3 (.int .i64 (z : Nat))) (htb : Boxed w bt 3 (.int .i64 (t : Nat))) (hnb : Boxed w bn 3 (.int .i64 (L : Nat)))
    (hB : B ≤ w.heap.size) (lp : B ≤ bp) (lz : B ≤ bz) (lt : B ≤ bt) (ln : B ≤ bn) (hSb : ∀ b, Sb b → B ≤ b ∧ b < w.heap.size) (sp : ¬ Sb bp) (sz : ¬ Sb bz) (st : ¬ Sb bt) (sn : ¬ Sb bn) :
    SeqT n Tryz.prog 164 #[.pointer (some ⟨bp, 0, none⟩), .pointer (some ⟨bz, 0, none⟩), .pointer (some ⟨bt, 0, none⟩), .pointer (some ⟨bn, 0, none⟩)] (fun x : Nat × Value => #[.int .i64 (x.1 : Nat), x.2]) (DrwX p B t z L bs w.heap.size) Sb (ofP p) (DrwS p B z bs) w := by
  rintro l J Jx W hkW hlW hsW hJ hY h0
  have ltp := hp.lt
  have ltz := hzb.lt
  have ltt := htb.lt
  have ltn := hnb.lt
  have H0 : Hid (BtwD W W p B z 0 bp bz bt bn t L bs) := ⟨by omega, by rw [Nat.zero_mul]; exact hsc.grew hkW, boxed_grew hp hkW, boxed_grew hzb hkW, boxed_grew htb hkW, boxed_grew hnb hkW, Nat.le_refl _⟩
  have hbl := hsc.len
  have HD := toHid hd
  have HH0 := toHid h0
  have HOP : Hid (∀ x, ofP p x → x < B) := fun x hx => (hsc.inP hx).1
  have HLE : Hid (B ≤ w.heap.size ∧ B ≤ bp ∧ B ≤ bz ∧ B ≤ bt ∧ B ≤ bn ∧ bp < w.heap.size ∧ bz < w.heap.size ∧ bt < w.heap.size ∧ bn < w.heap.size ∧ l = w.heap.size + 1 ∧ W.heap.size = w.heap.size + 2) := ⟨hB, lp, lz, lt, ln, ltp, ltz, ltt, ltn, hlW, hsW⟩
  have HNUM : Hid (t + s = 8 * z ∧ t ≤ 64 * L ∧ 1 ≤ z) := ⟨hts, htL, hz⟩
  have gs : (8 : Int) * (z : Int) - (t : Int) = (s : Int) := by omega
  obtain ⟨y, hy⟩ : ∃ y, y = 255 / 2 ^ s := ⟨_, rfl⟩
  have gy : (255 : Int) / 2 ^ s = (y : Int) := by rw [hy]; simp
  have hy8 : y < 256 := by rw [hy]; exact Nat.lt_of_le_of_lt (Nat.div_le_self _ _) (by omega)
  have HY := toHid hy
  have gs0 : (0 : Int) ≤ (s : Int) := by omega
  have hzb : z ≤ 2401 := by omega
  clear hsc hd hp htb hnb hkW h0 hB lp lz lt ln ltp ltz ltt ltn hlW hsW hy
  refine callsIn_of_wp Tryz.func164 rfl trivial ?_ rfl
  simp only [Tryz.ntmps164, List.size_toArray, List.length_cons, List.length_nil, Nat.reduceAdd, Nat.reduceSub, Array.replicate_succ, Array.replicate_zero, List.push_toArray, List.append_toArray, List.nil_append, List.cons_append]
  refine wpIn_wide.2 ?_
  go_wp2_with fail
  refine (wpIn_wide (n := n)).1 ?_
  gi_loopw [6] (fun iv wr => ∃ (k : Nat) (pre : List (Nat × Value)), iv = .int .i64 ((k + 1 : Nat) : Int) ∧ Hid (pre.length = k) ∧ Hid (J pre wr) ∧ Hid (BtwD W wr p B z k bp bz bt bn t L bs)) (fun iv _ => 1000002 - (intOf iv).toNat)
  case atStart => exact ⟨0, [], rfl, rfl, HH0.out, H0.out⟩
  case round =>
    clear HH0 H0
    obtain ⟨k, pre, rfl, HP, HJ, HB⟩ := hrel
    obtain ⟨j, hj⟩ : ∃ j, j = k + 1 := ⟨_, rfl⟩
    rw [← hj]
    have HJJ := toHid hj
    have hk1 : k ≤ 1000000 := by
      have h1 := HB.out.few
      have h2 : k * 1 ≤ k * z := Nat.mul_le_mul_left _ HNUM.out.2.2
      omega
    have hjb : j ≤ 1000001 := by omega
    have gj : IntKind.i64.wrap ((j : Int) + 1) = (j : Int) + 1 := by rw [IntKind.wrap_i64]; omega
    clear hj
    have J1 := xRead p B (bs.drop (k * z)) z wr HB.out.scr
    have cp := HB.out.pb.cell
    have cz := HB.out.zb.cell
    by_cases hlen : (bs.drop (k * z)).length < z
    · have t1 : readE (bs.drop (k * z)) (z : Int) = 150 := by unfold readE; rw [if_neg (by omega), if_pos (by omega)]
      have t2 : readR (bs.drop (k * z)) (z : Int) = [] := by unfold readR; rw [if_neg (by omega)]; exact List.drop_of_length_le (by show _ ≤ ((z : Int)).toNat; omega)
      rw [t1, t2] at J1
      have HLN : Hid (bs.length < (k + 1) * z) := by unfold Hid; rw [List.length_drop] at hlen; rw [Nat.succ_mul]; have := HB.out.few; omega
      clear t1 t2 hlen
      gi_wp2_with fail
      refine ⟨trivial, ?_⟩
      refine (callsIn_wide.2 J1).mono ?_
      rintro e w3 ⟨u, rfl, hO, h3, k3⟩
      have HJ3 := toHid (hJ _ _ _ HJ.out (k3.mono fun _ _ e => .inl e))
      obtain ⟨xo, xc, rfl⟩ := own_slice hO
      have HS3 := toHid h3
      clear J1 hO h3 k3
      gi_wp2_with fail
      refine bodyPost_ret (results_none rfl _ _ _) rfl ?_
      exact ⟨⟨_, rfl⟩, .inl ⟨pre, ⟨by rw [HP.out]; exact HB.out.few, by rw [HP.out]; exact HLN.out, HS3.out⟩, HJ3.out⟩⟩
    · have t1 : readE (bs.drop (k * z)) (z : Int) = 0 := by unfold readE; rw [if_neg (by omega), if_neg (by omega)]
      have hfew : (k + 1) * z ≤ bs.length := by rw [List.length_drop] at hlen; rw [Nat.succ_mul]; have := HB.out.few; omega
      have t2 : readR (bs.drop (k * z)) (z : Int) = bs.drop ((k + 1) * z) := by unfold readR; rw [if_neg (by omega), List.drop_drop, Nat.succ_mul]; rfl
      have t3 : readL (bs.drop (k * z)) (z : Int) = (bs.drop (k * z)).take z := by unfold readL; rw [t1]; rfl
      rw [t1, t2, t3] at J1
      obtain ⟨x0, tl, hxt⟩ : ∃ x0 tl, (bs.drop (k * z)).take z = x0 :: tl := by
        cases hc : (bs.drop (k * z)).take z with
        | nil =>
          have e1 := congrArg List.length hc
          rw [List.length_take] at e1
          have e2 : ([] : List Nat).length = 0 := rfl
          omega
        | cons a b => exact ⟨a, b, rfl⟩
      have hdt : Digs 256 (x0 :: tl) := by rw [← hxt]; exact (HD.out.drop _).take _
      have htl : tl.length + 1 = z := by
        have e1 := congrArg List.length hxt
        rw [List.length_take, List.length_cons] at e1
        omega
      rw [hxt] at J1
      have hx0 : x0 < 256 := hdt.head
      have e6 := u8_and_nat x0 y hx0 hy8
      obtain ⟨q, hq⟩ : ∃ q, q = x0 &&& y := ⟨_, rfl⟩
      rw [← hq] at e6
      have hq2 : q = x0 % 2 ^ (8 - s) := by rw [hq, HY.out]; exact and_lowB hs8
      have hq8 : q < 256 := by rw [hq2]; exact Nat.lt_of_le_of_lt (Nat.mod_le _ _) hx0
      have HV : Hid (bev (q :: tl) = drwN t z bs k) := by unfold Hid drwN; rw [hxt, hq2]; exact bev_mask hdt.tail hs8 (by rw [htl]; exact hts)
      have HDQ : Hid (Digs 256 (q :: tl)) := fun d hd => by
        rcases List.mem_cons.1 hd with rfl | hd
        · exact hq8
        · exact hdt.tail d hd
      have HLQ : Hid ((q :: tl).length = z) := by unfold Hid; rw [List.length_cons]; exact htl
      have HFEW := toHid hfew
      clear t1 t2 t3 hlen hq hq2 hxt hdt hfew
      gi_wp2_with fail
      refine ⟨trivial, ?_⟩
      refine (callsIn_wide.2 J1).mono ?_
      rintro e w3 ⟨u, rfl, hO, h3, k3⟩
      have HJ3 := toHid (hJ _ _ _ HJ.out (k3.mono fun _ _ e => .inl e))
      have B3 := toHid (HB.out.next k3 HFEW.out h3 (fun e => by have := HOP.out _ e; have := HLE.out; omega) (fun e => by have := HOP.out _ e; have := HLE.out; omega) (fun e => by have := HOP.out _ e; have := HLE.out; omega) (fun e => by have := HOP.out _ e; have := HLE.out; omega))
      have hO' : w3.ownsRow wr.heap.size 5 1 u z ((x0 :: tl).map fun a : Nat => Value.int .u8 (a : Int)) := by
        have := hO
        unfold OwnB OwnN at this
        rw [List.length_cons, htl] at this
        exact this
      obtain ⟨g, cap, rfl⟩ : ∃ g cap, u = .slice (some ⟨g, 0, none⟩) z cap := by
        rcases hO'.2 with ⟨_, e⟩ | ⟨g, cap, _, e, _⟩
        · omega
        · exact ⟨g, cap, e⟩
      have hcg : w3.cell? ⟨g, 0, none⟩ = some (.int .u8 (x0 : Nat)) := by
        obtain ⟨_, _, _, e, _, _, _, _, hnum⟩ := hO.row.open
        cases e
        obtain ⟨b', off', e, hc⟩ := hnum 0 (by omega)
        cases e
        exact hc
      have hfg := hO'.frozenAt 0
      obtain ⟨hO4, hg4⟩ := hO'.stored 0 (.int .u8 (q : Int))
      have hgl := hO'.lt g rfl
      have k4 : Kept (fun x => wr.heap.size ≤ x) w3 (w3.setCell ⟨g, 0, none⟩ (.int .u8 (q : Int))) := (Kept.refl _ _).setCell _ (fun _ => hgl.1) _
      have HR4 : Hid (Row .u8 (w3.setCell ⟨g, 0, none⟩ (.int .u8 (q : Int))) (.slice (some ⟨g, 0, none⟩) z cap) (q :: tl)) := (OwnB.of (n := z) (zs := q :: tl) hO4).row
      have cz3 := B3.out.zb.cell
      have ct3 := B3.out.tb.cell
      have hgz : g ≠ bz := by have := HLE.out; have := HB.out.size; omega
      have hgt : g ≠ bt := by have := HLE.out; have := HB.out.size; omega
      have gz0 : (0 : Int) < (z : Int) := by omega
      have HK4 := toHid k4
      clear J1 hO hO' hO4 hg4 h3 k3 k4 cp cz
      gi_wp2_with fail
      gi_region
      have k4 : Kept (fun x => wr.heap.size ≤ x) w3 (w3.setCell ⟨g, 0, none⟩ (.int .u8 (q : Int))).drew := HK4.out.drew
      have r4 : Row .u8 (w3.setCell ⟨g, 0, none⟩ (.int .u8 (q : Int))).drew (.slice (some ⟨g, 0, none⟩) z cap) (q :: tl) := HR4.out.grew ((Kept.refl _ _).drew)
      generalize (w3.setCell ⟨g, 0, none⟩ (.int .u8 (q : Int))).drew = w4 at *
      have hlow : ∀ x, x < w.heap.size → ¬ wr.heap.size ≤ x := fun x hx => by have := HLE.out; have := HB.out.size; omega
      have B4 := toHid (B3.out.kept k4 (fun x hx => hlow x (by have := HLE.out; omega)) (hlow _ (by have := HLE.out; omega)) (hlow _ (by have := HLE.out; omega)) (hlow _ (by have := HLE.out; omega)) (hlow _ (by have := HLE.out; omega)))
      have HJ4 := toHid (hJ _ _ _ HJ3.out (k4.mono fun x _ (e : wr.heap.size ≤ x) => .inr (by have := HB.out.size; omega)))
      have hVw : wordsN (drwN t z bs k) ≤ L := by
        rw [wordsN_le]
        refine Nat.lt_of_lt_of_le (Nat.mod_lt _ (Nat.pow_pos (by omega))) ?_
        rw [show (18446744073709551616 : Nat) = 2 ^ 64 from rfl, ← Nat.pow_mul]
        exact Nat.pow_le_pow_right (by omega) HNUM.out.2.1
      have hOf := nOfF (.slice (some ⟨g, 0, none⟩) z cap) (q :: tl) (L : Int) w4 r4 HDQ.out
      rw [HV.out, (res_ok hL hVw).1, (res_ok hL hVw).2] at hOf
      have cn4 := B4.out.nb.cell
      clear k4 r4 HK4 HR4 hVw hcg hfg cz3 ct3 HJ3 B3 hlow e6
      gi_wp2_with fail
      refine ⟨trivial, ?_⟩
      refine (callsIn_wide.2 hOf).mono ?_
      rintro e w5 ⟨v5, rfl, r5, f5, k5⟩
      have hf5 : ∀ b, v5.ownBlock = some b → w.heap.size ≤ b := fun b hb => by have h1 := f5 b hb; have h2 := B4.out.size; have h3 := HLE.out; omega
      have B5 := toHid (B4.out.kept k5 (fun _ _ f => f) (fun f => f) (fun f => f) (fun f => f) (fun f => f))
      have HJ5 := toHid (hJ _ _ _ HJ4.out k5.any)
      have hx5 : DrwX p B t z L bs w.heap.size pre (j, v5) w5 := ⟨by rw [HP.out]; exact HJJ.out, by rw [HP.out]; exact HFEW.out, ⟨by rw [HP.out]; exact r5, hf5⟩, by rw [HP.out]; exact B5.out.scr⟩
      obtain ⟨fn, tmps, assign, body, hy, hR⟩ := hY pre (j, v5) w5 HJ5.out hx5
      obtain ⟨xo, xn, xc, rfl, _⟩ := r5.open
      clear hOf r5 f5 hf5 k5 cn4 hx5 B4 HJ4
      gi_wp2_with fail
      refine hR.mono ?_
      rintro e w6 (⟨rfl, hJ6, k6⟩ | ⟨rfl, hJx6⟩)
      · have hno : ∀ x, x < w.heap.size → ¬ Sb x → ¬ (Sb x ∨ x = l ∨ x + 1 = l) := fun x hx hs => by
          have := HLE.out
          rintro (e | e | e)
          · exact hs e
          · omega
          · omega
        have B6 := toHid (B5.out.kept k6 (fun x hx => hno x (by have := HLE.out; omega) (fun e => by have := (hSb x e).1; omega)) (hno _ (by have := HLE.out; omega) sp) (hno _ (by have := HLE.out; omega) sz) (hno _ (by have := HLE.out; omega) st) (hno _ (by have := HLE.out; omega) sn))
        have HJ6 := toHid hJ6
        clear hR hy hJ6 k6 B5 HJ5 hno
        gi_wp2_with fail
        go_roundw
        case rel => exact ⟨k + 1, pre ++ [(j, Value.slice xo xn xc)], by rw [← HJJ.out]; first | rfl | (rw [gj]; rfl), by unfold Hid; rw [List.length_append, HP.out]; rfl, HJ6, B6⟩
        case measure => simp [intOf]; omega
      · gi_wp2_with fail
        refine bodyPost_ret (results_none rfl _ _ _) rfl ?_
        exact ⟨⟨_, rfl⟩, .inr ⟨_, hJx6⟩⟩

end Go.Proofs.YtcjaafmlflonhaaGreatDoor

