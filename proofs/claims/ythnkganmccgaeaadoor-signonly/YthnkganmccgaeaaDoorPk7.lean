/- Put together of: Shc5. -/
import Derived.Test.YthnkganmccgaeaaDoorPk6

/- Package sha512: Block. -/
namespace Go.Proofs.YthnkganmccgaeaaDoor
open Go.RowKit

theorem zfactsM {w : World} {b : Nat} (h : Arr .u64 50 w b [0, 0, 0, 0, 0, 0, 0, 0]) : (w.cell? ⟨b, 0, none⟩ = some (.int .u64 0) ∧ w.cell? ⟨b, 1, none⟩ = some (.int .u64 0) ∧ w.cell? ⟨b, 2, none⟩ = some (.int .u64 0) ∧ w.cell? ⟨b, 3, none⟩ = some (.int .u64 0) ∧ w.cell? ⟨b, 4, none⟩ = some (.int .u64 0) ∧ w.cell? ⟨b, 5, none⟩ = some (.int .u64 0) ∧ w.cell? ⟨b, 6, none⟩ = some (.int .u64 0) ∧ w.cell? ⟨b, 7, none⟩ = some (.int .u64 0)) ∧ w.frozen? ⟨b, 0, none⟩ = false ∧ w.frozen? ⟨b, 1, none⟩ = false ∧ w.frozen? ⟨b, 2, none⟩ = false ∧ w.frozen? ⟨b, 3, none⟩ = false ∧ w.frozen? ⟨b, 4, none⟩ = false ∧ w.frozen? ⟨b, 5, none⟩ = false ∧ w.frozen? ⟨b, 6, none⟩ = false ∧ w.frozen? ⟨b, 7, none⟩ = false := ⟨⟨h.cell 0 (by simp), h.cell 1 (by simp), h.cell 2 (by simp), h.cell 3 (by simp), h.cell 4 (by simp), h.cell 5 (by simp), h.cell 6 (by simp), h.cell 7 (by simp)⟩, h.free 0, h.free 1, h.free 2, h.free 3, h.free 4, h.free 5, h.free 6, h.free 7⟩

set_option maxRecDepth 40000 in
set_option maxHeartbeats 4000000 in
/-- Block of 128 bytes. -/
theorem mBlock (ao : Option Addr) (cap : Nat) (s bs : List Nat) (sv : Array Value) (hsv : sv = (s.map fun z => Value.int .u64 (z : Nat)).toArray) (w : World) (hT : Tab12 w) (hs : s.length = 8) (hsd : Digs 18446744073709551616 s) (hb : Row .u8 w (.slice ao 128 cap) bs) (hbd : Digs 256 bs) :
    Calls Tryd.prog 53 #[.agg sv, .slice ao 128 cap] w fun e w' => e = .returned (.tuple #[.agg ((blkM s bs).map fun z => Value.int .u64 (z : Nat)).toArray, .bool true]) ∧ Kept Nought w w' := by
  obtain ⟨s0, s1, s2, s3, s4, s5, s6, s7, rfl⟩ : ∃ s0 s1 s2 s3 s4 s5 s6 s7, s = [s0, s1, s2, s3, s4, s5, s6, s7] := by
    match s, hs with
    | [a, b, c, d, e, f, g, h], _ => exact ⟨a, b, c, d, e, f, g, h, rfl⟩
  have e0 : sv = #[.int .u64 (s0 : Nat), .int .u64 (s1 : Nat), .int .u64 (s2 : Nat), .int .u64 (s3 : Nat), .int .u64 (s4 : Nat), .int .u64 (s5 : Nat), .int .u64 (s6 : Nat), .int .u64 (s7 : Nat)] := by rw [hsv]; rfl
  subst e0
  clear hsv
  obtain ⟨W, hW⟩ : ∃ W, W = (w.alloc (.cells #[.int .u64 (s0 : Nat), .int .u64 (s1 : Nat), .int .u64 (s2 : Nat), .int .u64 (s3 : Nat), .int .u64 (s4 : Nat), .int .u64 (s5 : Nat), .int .u64 (s6 : Nat), .int .u64 (s7 : Nat)] 50)).alloc (.cells #[.int .u64 0, .int .u64 0, .int .u64 0, .int .u64 0, .int .u64 0, .int .u64 0, .int .u64 0, .int .u64 0] 50) := ⟨_, rfl⟩
  have k0 : Kept Nought w W := by rw [hW]; exact ((Kept.refl Nought w).alloc _).alloc _
  have hS0 : Arr .u64 50 W w.heap.size [s0, s1, s2, s3, s4, s5, s6, s7] := by
    rw [hW]
    exact heapAt_alloc (heap_alloc_new w _)
  have hO0 : Arr .u64 50 W (w.heap.size + 1) [0, 0, 0, 0, 0, 0, 0, 0] := by
    rw [hW]
    have := heap_alloc_new (w.alloc (.cells #[.int .u64 (s0 : Nat), .int .u64 (s1 : Nat), .int .u64 (s2 : Nat), .int .u64 (s3 : Nat), .int .u64 (s4 : Nat), .int .u64 (s5 : Nat), .int .u64 (s6 : Nat), .int .u64 (s7 : Nat)] 50)) (.cells #[.int .u64 0, .int .u64 0, .int .u64 0, .int .u64 0, .int .u64 0, .int .u64 0, .int .u64 0, .int .u64 0] 50)
    rwa [show (w.alloc (.cells #[.int .u64 (s0 : Nat), .int .u64 (s1 : Nat), .int .u64 (s2 : Nat), .int .u64 (s3 : Nat), .int .u64 (s4 : Nat), .int .u64 (s5 : Nat), .int .u64 (s6 : Nat), .int .u64 (s7 : Nat)] 50)).heap.size = w.heap.size + 1 by simp] at this
  have hWs : w.heap.size + 1 < W.heap.size := lt_of_block hO0
  obtain ⟨ws, hws⟩ : ∃ ws, ws = wlM bs 80 := ⟨_, rfl⟩
  have hwl : ws.length = 80 := by rw [hws]; exact wlM_length _ _
  have hwd : Digs 18446744073709551616 ws := by rw [hws]; exact wlM_digs hbd _
  obtain ⟨wv, hwv⟩ : ∃ wv, wv = (ws.map fun z => Value.int .u64 (z : Nat)).toArray := ⟨_, rfl⟩
  obtain ⟨r, hr⟩ : ∃ r, r = rndsM ws [s0, s1, s2, s3, s4, s5, s6, s7] 80 := ⟨_, rfl⟩
  have hrl : r.length = 8 := by rw [hr]; exact rndsM_length _ _ rfl _
  have hrd : Digs 18446744073709551616 r := by rw [hr]; exact rndsM_digs hsd _
  have HFin : Hid (blkM [s0, s1, s2, s3, s4, s5, s6, s7] bs = (List.range 8).map fun i => (r.getD i 0 + [s0, s1, s2, s3, s4, s5, s6, s7].getD i 0) % 18446744073709551616) := by
    unfold Hid blkM
    rw [hr, hws]
  obtain ⟨r0, r1, r2, r3, r4, r5, r6, r7, hrr⟩ : ∃ r0 r1 r2 r3 r4 r5 r6 r7, r = [r0, r1, r2, r3, r4, r5, r6, r7] := by
    match r, hrl with
    | [a, b, c, d, e, f, g, h], _ => exact ⟨a, b, c, d, e, f, g, h, rfl⟩
  have JE : Hid (∀ w', Kept Nought W w' → Calls Tryd.prog 57 #[.slice ao 128 cap] w' fun e w'' => e = .returned (.agg wv) ∧ Kept Nought W w'' ∧ Kept Nought w' w'') := fun w' k => by
    refine (mExpand ao cap bs w' (hb.grew (k0.trans k)) hbd).mono ?_
    rintro e w'' ⟨rfl, k'⟩
    exact ⟨by rw [hwv, hws], k.trans k', k'⟩
  have JM : Hid (∀ w', Kept Nought W w' → Calls Tryd.prog 56 #[.agg #[.int .u64 (s0 : Nat), .int .u64 (s1 : Nat), .int .u64 (s2 : Nat), .int .u64 (s3 : Nat), .int .u64 (s4 : Nat), .int .u64 (s5 : Nat), .int .u64 (s6 : Nat), .int .u64 (s7 : Nat)], .agg wv] w' fun e w'' => e = .returned (.agg #[.int .u64 (r0 : Nat), .int .u64 (r1 : Nat), .int .u64 (r2 : Nat), .int .u64 (r3 : Nat), .int .u64 (r4 : Nat), .int .u64 (r5 : Nat), .int .u64 (r6 : Nat), .int .u64 (r7 : Nat)]) ∧ Kept Nought W w'' ∧ Kept Nought w' w'') := fun w' k => by
    refine (mMix [s0, s1, s2, s3, s4, s5, s6, s7] ws _ wv rfl hwv w' (hT.grew (k0.trans k)) rfl hsd hwl hwd).mono ?_
    rintro e w'' ⟨rfl, k'⟩
    refine ⟨?_, k.trans k', k'⟩
    rw [← hr, hrr]
    rfl
  have JC : Hid (∀ w', Kept Nought W w' → w'.cell? ⟨w.heap.size, 0, none⟩ = some (.int .u64 (s0 : Int)) ∧ w'.cell? ⟨w.heap.size, 1, none⟩ = some (.int .u64 (s1 : Int)) ∧ w'.cell? ⟨w.heap.size, 2, none⟩ = some (.int .u64 (s2 : Int)) ∧ w'.cell? ⟨w.heap.size, 3, none⟩ = some (.int .u64 (s3 : Int)) ∧ w'.cell? ⟨w.heap.size, 4, none⟩ = some (.int .u64 (s4 : Int)) ∧ w'.cell? ⟨w.heap.size, 5, none⟩ = some (.int .u64 (s5 : Int)) ∧ w'.cell? ⟨w.heap.size, 6, none⟩ = some (.int .u64 (s6 : Int)) ∧ w'.cell? ⟨w.heap.size, 7, none⟩ = some (.int .u64 (s7 : Int))) := fun w' k => by
    have h := hS0.grew k
    exact ⟨h.cell 0 (by simp), h.cell 1 (by simp), h.cell 2 (by simp), h.cell 3 (by simp), h.cell 4 (by simp), h.cell 5 (by simp), h.cell 6 (by simp), h.cell 7 (by simp)⟩
  have JA : Hid (∀ w', Kept Nought W w' → Arr .u64 50 w' w.heap.size [s0, s1, s2, s3, s4, s5, s6, s7] ∧ Arr .u64 50 w' (w.heap.size + 1) [0, 0, 0, 0, 0, 0, 0, 0] ∧ Kept Nought w w') := fun w' k => ⟨hS0.grew k, hO0.grew k, k0.trans k⟩
  obtain ⟨p0, p1, p2, p3, p4, p5, p6, p7⟩ := JC.out W (Kept.refl _ _)
  have HW := toHid hW
  have HRR := toHid hrr
  have HRD := toHid hrd
  have HSD := toHid hsd
  clear hW hS0 hO0 k0 hb hbd hws hwl hwd hwv hr hrl hrd hrr hT hs hsd
  go_enter Tryd.func53, Tryd.ntmps53
  go_wp2_with (rw [← HW.out])
  go_region_held3 (fun w' => w'.cell? ⟨w.heap.size, 0, none⟩ = some (.int .u64 (s0 : Int)) ∧ w'.cell? ⟨w.heap.size, 1, none⟩ = some (.int .u64 (s1 : Int)) ∧ w'.cell? ⟨w.heap.size, 2, none⟩ = some (.int .u64 (s2 : Int)) ∧ w'.cell? ⟨w.heap.size, 3, none⟩ = some (.int .u64 (s3 : Int)) ∧ w'.cell? ⟨w.heap.size, 4, none⟩ = some (.int .u64 (s4 : Int)) ∧ w'.cell? ⟨w.heap.size, 5, none⟩ = some (.int .u64 (s5 : Int)) ∧ w'.cell? ⟨w.heap.size, 6, none⟩ = some (.int .u64 (s6 : Int)) ∧ w'.cell? ⟨w.heap.size, 7, none⟩ = some (.int .u64 (s7 : Int)))
    (((try dsimp only); (repeat' apply And.intro) <;> (repeat (first | (with_reducible assumption) | (with_reducible refine keepAl ?_) | (with_reducible refine keepDr ?_) | (with_reducible refine keepS8 ?_ (by dsimp only; omega)))); done))
    (first
    | (go_at_call 56; refine (JM.out _ ?_).mono ?_; (first | exact ks0 | exact ks0.alloc _); rintro e w9 ⟨rfl, ks1, kl1⟩; obtain ⟨m0, m1, m2, m3, m4, m5, m6, m7⟩ := JC.out w9 ks1; have sz9 : w.heap.size + 1 < w9.heap.size := Nat.lt_of_lt_of_le hWs ks1.size;
        first
        | (have hzz := Arr.grew hz0 kl1; have kzz := ks1; obtain ⟨⟨z0, z1, z2, z3, z4, z5, z6, z7⟩, f0, f1, f2, f3, f4, f5, f6, f7⟩ := zfactsM hzz)
        | (have hzz := Arr.grew (show Arr .u64 50 (w8.alloc (.cells #[.int .u64 0, .int .u64 0, .int .u64 0, .int .u64 0, .int .u64 0, .int .u64 0, .int .u64 0, .int .u64 0] 50)) w8.heap.size [0, 0, 0, 0, 0, 0, 0, 0] from heap_alloc_new w8 _) kl1; have kzz := ks1; obtain ⟨⟨z0, z1, z2, z3, z4, z5, z6, z7⟩, f0, f1, f2, f3, f4, f5, f6, f7⟩ := zfactsM hzz)
        | (have hzz : Arr .u64 50 (w9.alloc (.cells #[.int .u64 0, .int .u64 0, .int .u64 0, .int .u64 0, .int .u64 0, .int .u64 0, .int .u64 0, .int .u64 0] 50)) w9.heap.size [0, 0, 0, 0, 0, 0, 0, 0] := heap_alloc_new w9 _; have kzz := ks1.alloc (.cells #[.int .u64 0, .int .u64 0, .int .u64 0, .int .u64 0, .int .u64 0, .int .u64 0, .int .u64 0, .int .u64 0] 50); obtain ⟨⟨z0, z1, z2, z3, z4, z5, z6, z7⟩, f0, f1, f2, f3, f4, f5, f6, f7⟩ := zfactsM hzz))
    | (go_at_call 57; refine (JE.out _ ?_).mono ?_; (first | exact (Kept.refl Nought W).drew | exact ((Kept.refl Nought W).alloc _).drew); rintro e w8 ⟨rfl, ks0, kl0⟩; obtain ⟨l0, l1, l2, l3, l4, l5, l6, l7⟩ := JC.out w8 ks0; have sz8 : w.heap.size + 1 < w8.heap.size := Nat.lt_of_lt_of_le hWs ks0.size;
        first
        | (have hz0 := Arr.grew (show Arr .u64 50 (W.alloc (.cells #[.int .u64 0, .int .u64 0, .int .u64 0, .int .u64 0, .int .u64 0, .int .u64 0, .int .u64 0, .int .u64 0] 50)).drew W.heap.size [0, 0, 0, 0, 0, 0, 0, 0] from heap_alloc_new W _) kl0)
        | skip))
  · have hRR : Arr .u64 50 (w9.alloc (.cells #[.int .u64 (r0 : Nat), .int .u64 (r1 : Nat), .int .u64 (r2 : Nat), .int .u64 (r3 : Nat), .int .u64 (r4 : Nat), .int .u64 (r5 : Nat), .int .u64 (r6 : Nat), .int .u64 (r7 : Nat)] 50)) w9.heap.size [r0, r1, r2, r3, r4, r5, r6, r7] := heap_alloc_new w9 _
    have kAll := ks1.alloc (.cells #[.int .u64 (r0 : Nat), .int .u64 (r1 : Nat), .int .u64 (r2 : Nat), .int .u64 (r3 : Nat), .int .u64 (r4 : Nat), .int .u64 (r5 : Nat), .int .u64 (r6 : Nat), .int .u64 (r7 : Nat)] 50)
    have hRg : w.heap.size + 1 + 1 ≤ w9.heap.size := sz9
    obtain ⟨W3, hW3⟩ : ∃ W3, W3 = w9.alloc (.cells #[.int .u64 (r0 : Nat), .int .u64 (r1 : Nat), .int .u64 (r2 : Nat), .int .u64 (r3 : Nat), .int .u64 (r4 : Nat), .int .u64 (r5 : Nat), .int .u64 (r6 : Nat), .int .u64 (r7 : Nat)] 50) := ⟨_, rfl⟩
    rw [← hW3] at hRR kAll ⊢
    obtain ⟨R, hRe⟩ : ∃ R, R = w9.heap.size := ⟨_, rfl⟩
    rw [← hRe] at hRR hRg ⊢
    clear hRe
    obtain ⟨hS3, hO3, hK3⟩ := JA.out W3 kAll
    have HS3 := toHid hS3
    have HO3 := toHid hO3
    have KW3 := toHid hK3
    rw [← HRR.out] at hRR
    have HR3 := toHid hRR
    have hrl : r.length = 8 := by rw [HRR.out]; rfl
    have hrd := HRD.out
    obtain ⟨sl, hsl⟩ : ∃ sl, sl = [s0, s1, s2, s3, s4, s5, s6, s7] := ⟨_, rfl⟩
    have hsll : sl.length = 8 := by rw [hsl]; rfl
    have hsdl : Digs 18446744073709551616 sl := by rw [hsl]; exact HSD.out
    rw [← hsl] at HS3 HFin
    have HSL := toHid hsl
    clear hW3 hsl hS3 hO3 hK3 hRR kAll JE JM JC JA HSD HRD HW hWs ks0 ks1 kl0 kl1 sz8 sz9 hzz kzz p0 p1 p2 p3 p4 p5 p6 p7 m0 m1 m2 m3 m4 m5 m6 m7 l0 l1 l2 l3 l4 l5 l6 l7 z0 z1 z2 z3 z4 z5 z6 z7 f0 f1 f2 f3 f4 f5 f6 f7
    go_wp2_with fail
    go_loopw [16] (fun iv wr3 => ∃ i : Nat, i ≤ 8 ∧ iv = .int .i64 (i : Int) ∧ Hid (Arr .u64 50 wr3 R (adM r sl i)) ∧ Hid (Kept (fun b => b = R) W3 wr3)) (fun iv _ => 8 - (intOf iv).toNat)
    case atStart => exact ⟨0, by omega, rfl, by unfold Hid; rw [show adM r sl 0 = r from rfl]; exact HR3.out, Kept.refl _ _⟩
    case round =>
      obtain ⟨i, hi, rfl, HR, HK⟩ := hrel
      by_cases hi8 : i < 8
      · have y1 : (i : Int) < 8 := by omega
        have y0 : (0 : Int) ≤ (i : Int) := by omega
        have cR := HR.out.cell i (by rw [adM_length hrl hi]; exact hi8)
        have oR := HR.out.free i
        have hSi := HS3.out.kept HK.out (by have := hRg; omega)
        have cS := hSi.cell i (by rw [hsll]; exact hi8)
        rw [adM_at] at cR
        have lr : r.getD i 0 < 18446744073709551616 := hrd.getD (by omega) _
        have ls : sl.getD i 0 < 18446744073709551616 := hsdl.getD (by omega) _
        obtain ⟨z, hz⟩ : ∃ z, z = (r.getD i 0 + sl.getD i 0) % 18446744073709551616 := ⟨_, rfl⟩
        have HN := toHid (adM_set (s := sl) hrl hi8 hz)
        generalize r.getD i 0 = xr at *
        generalize sl.getD i 0 = xs at *
        have e1 : IntKind.u64.wrap ((xr : Int) + (xs : Int)) = (z : Int) := by rw [IntKind.wrap_u64]; omega
        have e2 : ((xr : Int) + (xs : Int)) % 18446744073709551616 = (z : Int) := by omega
        clear hz hSi
        go_wp2_with fail
        go_region
        all_goals
          go_wp2_with fail
          go_roundw
          case rel => exact ⟨i + 1, by omega, by go_num, by unfold Hid; rw [← HN.out]; exact (HR.out.set i z), HK.out.next ((Kept.refl (fun b => b = R) wr).setCell ⟨R, i, none⟩ (fun _ => rfl) (.int .u64 (z : Nat))).drew (fun x _ h => h)⟩
          case measure => simp [intOf]; omega
      · have y1 : ¬ (i : Int) < 8 := by omega
        have hRR := HR.out
        rw [show i = 8 by omega] at hRR
        have e8 : adM r sl 8 = blkM sl bs := by
          rw [HFin.out]
          unfold adM
          rw [List.drop_of_length_le (by omega), List.append_nil]
        rw [e8] at hRR
        have hL8 : (blkM sl bs).length = 8 := by rw [HFin.out]; simp
        obtain ⟨z0, z1, z2, z3, z4, z5, z6, z7, hzz⟩ : ∃ z0 z1 z2 z3 z4 z5 z6 z7, blkM sl bs = [z0, z1, z2, z3, z4, z5, z6, z7] := by
          match h : blkM sl bs, hL8 with
          | [a, b, c, d, e, f, g, h'], _ => exact ⟨a, b, c, d, e, f, g, h', rfl⟩
        rw [hzz] at hRR
        have HZZ := toHid hzz
        have hOO := HO3.out.kept HK.out (by have := hRg; omega)
        have r0 := hRR.cell 0 (by simp)
        have r1 := hRR.cell 1 (by simp)
        have r2 := hRR.cell 2 (by simp)
        have r3 := hRR.cell 3 (by simp)
        have r4 := hRR.cell 4 (by simp)
        have r5 := hRR.cell 5 (by simp)
        have r6 := hRR.cell 6 (by simp)
        have r7 := hRR.cell 7 (by simp)
        have p0 := hOO.cell 0 (by simp)
        have p1 := hOO.cell 1 (by simp)
        have p2 := hOO.cell 2 (by simp)
        have p3 := hOO.cell 3 (by simp)
        have p4 := hOO.cell 4 (by simp)
        have p5 := hOO.cell 5 (by simp)
        have p6 := hOO.cell 6 (by simp)
        have p7 := hOO.cell 7 (by simp)
        have o0 := hOO.free 0
        have o1 := hOO.free 1
        have o2 := hOO.free 2
        have o3 := hOO.free 3
        have o4 := hOO.free 4
        have o5 := hOO.free 5
        have o6 := hOO.free 6
        have o7 := hOO.free 7
        have hF := hOO.put8 rfl z0 z1 z2 z3 z4 z5 z6 z7
        have x0 := hF.cell 0 (by simp)
        have x1 := hF.cell 1 (by simp)
        have x2 := hF.cell 2 (by simp)
        have x3 := hF.cell 3 (by simp)
        have x4 := hF.cell 4 (by simp)
        have x5 := hF.cell 5 (by simp)
        have x6 := hF.cell 6 (by simp)
        have x7 := hF.cell 7 (by simp)
        have KF := toHid ((KW3.out.next HK.out (fun x hx e => by have e' : x = R := e; have := hRg; omega)).next (kept8 wr (w.heap.size + 1) (.int .u64 (z0 : Nat)) (.int .u64 (z1 : Nat)) (.int .u64 (z2 : Nat)) (.int .u64 (z3 : Nat)) (.int .u64 (z4 : Nat)) (.int .u64 (z5 : Nat)) (.int .u64 (z6 : Nat)) (.int .u64 (z7 : Nat))) (fun x hx e => by have e' : x = w.heap.size + 1 := e; omega))
        clear hRR hOO hF e8 hL8 hzz HR HK HS3 HO3 HR3 KW3 HFin
        go_wp2_with fail
        rw [← HSL.out, HZZ.out]
        exact bodyPost_ret (v := .tuple #[.agg #[.int .u64 (z0 : Nat), .int .u64 (z1 : Nat), .int .u64 (z2 : Nat), .int .u64 (z3 : Nat), .int .u64 (z4 : Nat), .int .u64 (z5 : Nat), .int .u64 (z6 : Nat), .int .u64 (z7 : Nat)], .bool true]) (by simp [results, Tryd.results53, go_sem, x0, x1, x2, x3, x4, x5, x6, x7]) rfl ⟨rfl, KF.out⟩
  · have hRR := hzz.put8 rfl r0 r1 r2 r3 r4 r5 r6 r7
    have hRg : w.heap.size + 1 + 1 ≤ w8.heap.size := sz8
    have kAll := ks1.next (kept8 w9 w8.heap.size (.int .u64 (r0 : Nat)) (.int .u64 (r1 : Nat)) (.int .u64 (r2 : Nat)) (.int .u64 (r3 : Nat)) (.int .u64 (r4 : Nat)) (.int .u64 (r5 : Nat)) (.int .u64 (r6 : Nat)) (.int .u64 (r7 : Nat))) (fun x hx e => by have e' : x = w8.heap.size := e; have := ks0.size; omega)
    obtain ⟨W3, hW3⟩ : ∃ W3, W3 = (((((((w9.setCell ⟨w8.heap.size, 0, none⟩ (.int .u64 (r0 : Nat))).setCell ⟨w8.heap.size, 1, none⟩ (.int .u64 (r1 : Nat))).setCell ⟨w8.heap.size, 2, none⟩ (.int .u64 (r2 : Nat))).setCell ⟨w8.heap.size, 3, none⟩ (.int .u64 (r3 : Nat))).setCell ⟨w8.heap.size, 4, none⟩ (.int .u64 (r4 : Nat))).setCell ⟨w8.heap.size, 5, none⟩ (.int .u64 (r5 : Nat))).setCell ⟨w8.heap.size, 6, none⟩ (.int .u64 (r6 : Nat))).setCell ⟨w8.heap.size, 7, none⟩ (.int .u64 (r7 : Nat)) := ⟨_, rfl⟩
    rw [← hW3] at hRR kAll ⊢
    obtain ⟨R, hRe⟩ : ∃ R, R = w8.heap.size := ⟨_, rfl⟩
    rw [← hRe] at hRR hRg ⊢
    clear hRe
    obtain ⟨hS3, hO3, hK3⟩ := JA.out W3 kAll
    have HS3 := toHid hS3
    have HO3 := toHid hO3
    have KW3 := toHid hK3
    rw [← HRR.out] at hRR
    have HR3 := toHid hRR
    have hrl : r.length = 8 := by rw [HRR.out]; rfl
    have hrd := HRD.out
    obtain ⟨sl, hsl⟩ : ∃ sl, sl = [s0, s1, s2, s3, s4, s5, s6, s7] := ⟨_, rfl⟩
    have hsll : sl.length = 8 := by rw [hsl]; rfl
    have hsdl : Digs 18446744073709551616 sl := by rw [hsl]; exact HSD.out
    rw [← hsl] at HS3 HFin
    have HSL := toHid hsl
    clear hW3 hsl hS3 hO3 hK3 hRR kAll JE JM JC JA HSD HRD HW hWs ks0 ks1 kl0 kl1 sz8 sz9 hzz kzz p0 p1 p2 p3 p4 p5 p6 p7 m0 m1 m2 m3 m4 m5 m6 m7 l0 l1 l2 l3 l4 l5 l6 l7 z0 z1 z2 z3 z4 z5 z6 z7 f0 f1 f2 f3 f4 f5 f6 f7
    go_wp2_with fail
    go_loopw [16] (fun iv wr3 => ∃ i : Nat, i ≤ 8 ∧ iv = .int .i64 (i : Int) ∧ Hid (Arr .u64 50 wr3 R (adM r sl i)) ∧ Hid (Kept (fun b => b = R) W3 wr3)) (fun iv _ => 8 - (intOf iv).toNat)
    case atStart => exact ⟨0, by omega, rfl, by unfold Hid; rw [show adM r sl 0 = r from rfl]; exact HR3.out, Kept.refl _ _⟩
    case round =>
      obtain ⟨i, hi, rfl, HR, HK⟩ := hrel
      by_cases hi8 : i < 8
      · have y1 : (i : Int) < 8 := by omega
        have y0 : (0 : Int) ≤ (i : Int) := by omega
        have cR := HR.out.cell i (by rw [adM_length hrl hi]; exact hi8)
        have oR := HR.out.free i
        have hSi := HS3.out.kept HK.out (by have := hRg; omega)
        have cS := hSi.cell i (by rw [hsll]; exact hi8)
        rw [adM_at] at cR
        have lr : r.getD i 0 < 18446744073709551616 := hrd.getD (by omega) _
        have ls : sl.getD i 0 < 18446744073709551616 := hsdl.getD (by omega) _
        obtain ⟨z, hz⟩ : ∃ z, z = (r.getD i 0 + sl.getD i 0) % 18446744073709551616 := ⟨_, rfl⟩
        have HN := toHid (adM_set (s := sl) hrl hi8 hz)
        generalize r.getD i 0 = xr at *
        generalize sl.getD i 0 = xs at *
        have e1 : IntKind.u64.wrap ((xr : Int) + (xs : Int)) = (z : Int) := by rw [IntKind.wrap_u64]; omega
        have e2 : ((xr : Int) + (xs : Int)) % 18446744073709551616 = (z : Int) := by omega
        clear hz hSi
        go_wp2_with fail
        go_region
        all_goals
          go_wp2_with fail
          go_roundw
          case rel => exact ⟨i + 1, by omega, by go_num, by unfold Hid; rw [← HN.out]; exact (HR.out.set i z), HK.out.next ((Kept.refl (fun b => b = R) wr).setCell ⟨R, i, none⟩ (fun _ => rfl) (.int .u64 (z : Nat))).drew (fun x _ h => h)⟩
          case measure => simp [intOf]; omega
      · have y1 : ¬ (i : Int) < 8 := by omega
        have hRR := HR.out
        rw [show i = 8 by omega] at hRR
        have e8 : adM r sl 8 = blkM sl bs := by
          rw [HFin.out]
          unfold adM
          rw [List.drop_of_length_le (by omega), List.append_nil]
        rw [e8] at hRR
        have hL8 : (blkM sl bs).length = 8 := by rw [HFin.out]; simp
        obtain ⟨z0, z1, z2, z3, z4, z5, z6, z7, hzz⟩ : ∃ z0 z1 z2 z3 z4 z5 z6 z7, blkM sl bs = [z0, z1, z2, z3, z4, z5, z6, z7] := by
          match h : blkM sl bs, hL8 with
          | [a, b, c, d, e, f, g, h'], _ => exact ⟨a, b, c, d, e, f, g, h', rfl⟩
        rw [hzz] at hRR
        have HZZ := toHid hzz
        have hOO := HO3.out.kept HK.out (by have := hRg; omega)
        have r0 := hRR.cell 0 (by simp)
        have r1 := hRR.cell 1 (by simp)
        have r2 := hRR.cell 2 (by simp)
        have r3 := hRR.cell 3 (by simp)
        have r4 := hRR.cell 4 (by simp)
        have r5 := hRR.cell 5 (by simp)
        have r6 := hRR.cell 6 (by simp)
        have r7 := hRR.cell 7 (by simp)
        have p0 := hOO.cell 0 (by simp)
        have p1 := hOO.cell 1 (by simp)
        have p2 := hOO.cell 2 (by simp)
        have p3 := hOO.cell 3 (by simp)
        have p4 := hOO.cell 4 (by simp)
        have p5 := hOO.cell 5 (by simp)
        have p6 := hOO.cell 6 (by simp)
        have p7 := hOO.cell 7 (by simp)
        have o0 := hOO.free 0
        have o1 := hOO.free 1
        have o2 := hOO.free 2
        have o3 := hOO.free 3
        have o4 := hOO.free 4
        have o5 := hOO.free 5
        have o6 := hOO.free 6
        have o7 := hOO.free 7
        have hF := hOO.put8 rfl z0 z1 z2 z3 z4 z5 z6 z7
        have x0 := hF.cell 0 (by simp)
        have x1 := hF.cell 1 (by simp)
        have x2 := hF.cell 2 (by simp)
        have x3 := hF.cell 3 (by simp)
        have x4 := hF.cell 4 (by simp)
        have x5 := hF.cell 5 (by simp)
        have x6 := hF.cell 6 (by simp)
        have x7 := hF.cell 7 (by simp)
        have KF := toHid ((KW3.out.next HK.out (fun x hx e => by have e' : x = R := e; have := hRg; omega)).next (kept8 wr (w.heap.size + 1) (.int .u64 (z0 : Nat)) (.int .u64 (z1 : Nat)) (.int .u64 (z2 : Nat)) (.int .u64 (z3 : Nat)) (.int .u64 (z4 : Nat)) (.int .u64 (z5 : Nat)) (.int .u64 (z6 : Nat)) (.int .u64 (z7 : Nat))) (fun x hx e => by have e' : x = w.heap.size + 1 := e; omega))
        clear hRR hOO hF e8 hL8 hzz HR HK HS3 HO3 HR3 KW3 HFin
        go_wp2_with fail
        rw [← HSL.out, HZZ.out]
        exact bodyPost_ret (v := .tuple #[.agg #[.int .u64 (z0 : Nat), .int .u64 (z1 : Nat), .int .u64 (z2 : Nat), .int .u64 (z3 : Nat), .int .u64 (z4 : Nat), .int .u64 (z5 : Nat), .int .u64 (z6 : Nat), .int .u64 (z7 : Nat)], .bool true]) (by simp [results, Tryd.results53, go_sem, x0, x1, x2, x3, x4, x5, x6, x7]) rfl ⟨rfl, KF.out⟩
  · have hRR := hzz.put8 rfl r0 r1 r2 r3 r4 r5 r6 r7
    have hRg : w.heap.size + 1 + 1 ≤ W.heap.size := hWs
    have kAll := ks1.next (kept8 w9 W.heap.size (.int .u64 (r0 : Nat)) (.int .u64 (r1 : Nat)) (.int .u64 (r2 : Nat)) (.int .u64 (r3 : Nat)) (.int .u64 (r4 : Nat)) (.int .u64 (r5 : Nat)) (.int .u64 (r6 : Nat)) (.int .u64 (r7 : Nat))) (fun x hx e => by have e' : x = W.heap.size := e; omega)
    obtain ⟨W3, hW3⟩ : ∃ W3, W3 = (((((((w9.setCell ⟨W.heap.size, 0, none⟩ (.int .u64 (r0 : Nat))).setCell ⟨W.heap.size, 1, none⟩ (.int .u64 (r1 : Nat))).setCell ⟨W.heap.size, 2, none⟩ (.int .u64 (r2 : Nat))).setCell ⟨W.heap.size, 3, none⟩ (.int .u64 (r3 : Nat))).setCell ⟨W.heap.size, 4, none⟩ (.int .u64 (r4 : Nat))).setCell ⟨W.heap.size, 5, none⟩ (.int .u64 (r5 : Nat))).setCell ⟨W.heap.size, 6, none⟩ (.int .u64 (r6 : Nat))).setCell ⟨W.heap.size, 7, none⟩ (.int .u64 (r7 : Nat)) := ⟨_, rfl⟩
    rw [← hW3] at hRR kAll ⊢
    obtain ⟨R, hRe⟩ : ∃ R, R = W.heap.size := ⟨_, rfl⟩
    rw [← hRe] at hRR hRg ⊢
    clear hRe hz0
    obtain ⟨hS3, hO3, hK3⟩ := JA.out W3 kAll
    have HS3 := toHid hS3
    have HO3 := toHid hO3
    have KW3 := toHid hK3
    rw [← HRR.out] at hRR
    have HR3 := toHid hRR
    have hrl : r.length = 8 := by rw [HRR.out]; rfl
    have hrd := HRD.out
    obtain ⟨sl, hsl⟩ : ∃ sl, sl = [s0, s1, s2, s3, s4, s5, s6, s7] := ⟨_, rfl⟩
    have hsll : sl.length = 8 := by rw [hsl]; rfl
    have hsdl : Digs 18446744073709551616 sl := by rw [hsl]; exact HSD.out
    rw [← hsl] at HS3 HFin
    have HSL := toHid hsl
    clear hW3 hsl hS3 hO3 hK3 hRR kAll JE JM JC JA HSD HRD HW hWs ks0 ks1 kl0 kl1 sz8 sz9 hzz kzz p0 p1 p2 p3 p4 p5 p6 p7 m0 m1 m2 m3 m4 m5 m6 m7 l0 l1 l2 l3 l4 l5 l6 l7 z0 z1 z2 z3 z4 z5 z6 z7 f0 f1 f2 f3 f4 f5 f6 f7
    go_wp2_with fail
    go_loopw [16] (fun iv wr3 => ∃ i : Nat, i ≤ 8 ∧ iv = .int .i64 (i : Int) ∧ Hid (Arr .u64 50 wr3 R (adM r sl i)) ∧ Hid (Kept (fun b => b = R) W3 wr3)) (fun iv _ => 8 - (intOf iv).toNat)
    case atStart => exact ⟨0, by omega, rfl, by unfold Hid; rw [show adM r sl 0 = r from rfl]; exact HR3.out, Kept.refl _ _⟩
    case round =>
      obtain ⟨i, hi, rfl, HR, HK⟩ := hrel
      by_cases hi8 : i < 8
      · have y1 : (i : Int) < 8 := by omega
        have y0 : (0 : Int) ≤ (i : Int) := by omega
        have cR := HR.out.cell i (by rw [adM_length hrl hi]; exact hi8)
        have oR := HR.out.free i
        have hSi := HS3.out.kept HK.out (by have := hRg; omega)
        have cS := hSi.cell i (by rw [hsll]; exact hi8)
        rw [adM_at] at cR
        have lr : r.getD i 0 < 18446744073709551616 := hrd.getD (by omega) _
        have ls : sl.getD i 0 < 18446744073709551616 := hsdl.getD (by omega) _
        obtain ⟨z, hz⟩ : ∃ z, z = (r.getD i 0 + sl.getD i 0) % 18446744073709551616 := ⟨_, rfl⟩
        have HN := toHid (adM_set (s := sl) hrl hi8 hz)
        generalize r.getD i 0 = xr at *
        generalize sl.getD i 0 = xs at *
        have e1 : IntKind.u64.wrap ((xr : Int) + (xs : Int)) = (z : Int) := by rw [IntKind.wrap_u64]; omega
        have e2 : ((xr : Int) + (xs : Int)) % 18446744073709551616 = (z : Int) := by omega
        clear hz hSi
        go_wp2_with fail
        go_region
        all_goals
          go_wp2_with fail
          go_roundw
          case rel => exact ⟨i + 1, by omega, by go_num, by unfold Hid; rw [← HN.out]; exact (HR.out.set i z), HK.out.next ((Kept.refl (fun b => b = R) wr).setCell ⟨R, i, none⟩ (fun _ => rfl) (.int .u64 (z : Nat))).drew (fun x _ h => h)⟩
          case measure => simp [intOf]; omega
      · have y1 : ¬ (i : Int) < 8 := by omega
        have hRR := HR.out
        rw [show i = 8 by omega] at hRR
        have e8 : adM r sl 8 = blkM sl bs := by
          rw [HFin.out]
          unfold adM
          rw [List.drop_of_length_le (by omega), List.append_nil]
        rw [e8] at hRR
        have hL8 : (blkM sl bs).length = 8 := by rw [HFin.out]; simp
        obtain ⟨z0, z1, z2, z3, z4, z5, z6, z7, hzz⟩ : ∃ z0 z1 z2 z3 z4 z5 z6 z7, blkM sl bs = [z0, z1, z2, z3, z4, z5, z6, z7] := by
          match h : blkM sl bs, hL8 with
          | [a, b, c, d, e, f, g, h'], _ => exact ⟨a, b, c, d, e, f, g, h', rfl⟩
        rw [hzz] at hRR
        have HZZ := toHid hzz
        have hOO := HO3.out.kept HK.out (by have := hRg; omega)
        have r0 := hRR.cell 0 (by simp)
        have r1 := hRR.cell 1 (by simp)
        have r2 := hRR.cell 2 (by simp)
        have r3 := hRR.cell 3 (by simp)
        have r4 := hRR.cell 4 (by simp)
        have r5 := hRR.cell 5 (by simp)
        have r6 := hRR.cell 6 (by simp)
        have r7 := hRR.cell 7 (by simp)
        have p0 := hOO.cell 0 (by simp)
        have p1 := hOO.cell 1 (by simp)
        have p2 := hOO.cell 2 (by simp)
        have p3 := hOO.cell 3 (by simp)
        have p4 := hOO.cell 4 (by simp)
        have p5 := hOO.cell 5 (by simp)
        have p6 := hOO.cell 6 (by simp)
        have p7 := hOO.cell 7 (by simp)
        have o0 := hOO.free 0
        have o1 := hOO.free 1
        have o2 := hOO.free 2
        have o3 := hOO.free 3
        have o4 := hOO.free 4
        have o5 := hOO.free 5
        have o6 := hOO.free 6
        have o7 := hOO.free 7
        have hF := hOO.put8 rfl z0 z1 z2 z3 z4 z5 z6 z7
        have x0 := hF.cell 0 (by simp)
        have x1 := hF.cell 1 (by simp)
        have x2 := hF.cell 2 (by simp)
        have x3 := hF.cell 3 (by simp)
        have x4 := hF.cell 4 (by simp)
        have x5 := hF.cell 5 (by simp)
        have x6 := hF.cell 6 (by simp)
        have x7 := hF.cell 7 (by simp)
        have KF := toHid ((KW3.out.next HK.out (fun x hx e => by have e' : x = R := e; have := hRg; omega)).next (kept8 wr (w.heap.size + 1) (.int .u64 (z0 : Nat)) (.int .u64 (z1 : Nat)) (.int .u64 (z2 : Nat)) (.int .u64 (z3 : Nat)) (.int .u64 (z4 : Nat)) (.int .u64 (z5 : Nat)) (.int .u64 (z6 : Nat)) (.int .u64 (z7 : Nat))) (fun x hx e => by have e' : x = w.heap.size + 1 := e; omega))
        clear hRR hOO hF e8 hL8 hzz HR HK HS3 HO3 HR3 KW3 HFin
        go_wp2_with fail
        rw [← HSL.out, HZZ.out]
        exact bodyPost_ret (v := .tuple #[.agg #[.int .u64 (z0 : Nat), .int .u64 (z1 : Nat), .int .u64 (z2 : Nat), .int .u64 (z3 : Nat), .int .u64 (z4 : Nat), .int .u64 (z5 : Nat), .int .u64 (z6 : Nat), .int .u64 (z7 : Nat)], .bool true]) (by simp [results, Tryd.results53, go_sem, x0, x1, x2, x3, x4, x5, x6, x7]) rfl ⟨rfl, KF.out⟩

end Go.Proofs.YthnkganmccgaeaaDoor

