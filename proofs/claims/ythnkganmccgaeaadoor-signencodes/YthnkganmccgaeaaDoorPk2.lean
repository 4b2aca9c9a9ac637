/- Put together of: Sha2 Shb1 Shb2. -/
import Derived.Test.YthnkganmccgaeaaDoorPk1

/- SHA-256's numbers: plain mathematics; arrays of words in memory. -/
namespace Go.Proofs.YthnkganmccgaeaaDoor
open Go.RowKit

theorem K256_lt : Digs 4294967296 K256 := by unfold Digs K256; decide

/-- The schedule's two functions. -/
def s0N (x : Nat) : Nat := rot32 x 7 ^^^ rot32 x 18 ^^^ x / 8
def s1N (x : Nat) : Nat := rot32 x 17 ^^^ rot32 x 19 ^^^ x / 1024
/-- The rounds' functions. -/
def S0N (x : Nat) : Nat := rot32 x 2 ^^^ rot32 x 13 ^^^ rot32 x 22
def S1N (x : Nat) : Nat := rot32 x 6 ^^^ rot32 x 11 ^^^ rot32 x 25
def chN (e f g : Nat) : Nat := (e &&& f) ^^^ ((4294967295 ^^^ e) &&& g)
def majN (a b c : Nat) : Nat := (a &&& b) ^^^ (a &&& c) ^^^ (b &&& c)

theorem xor32 {a b : Nat} (ha : a < 4294967296) (hb : b < 4294967296) : a ^^^ b < 4294967296 := Nat.xor_lt_two_pow (n := 32) ha hb

theorem and32 {a b : Nat} (hb : b < 4294967296) : a &&& b < 4294967296 := Nat.lt_of_le_of_lt Nat.and_le_right hb

theorem or32 {a b : Nat} (ha : a < 4294967296) (hb : b < 4294967296) : a ||| b < 4294967296 := Nat.or_lt_two_pow (n := 32) ha hb

theorem s0N_lt {x : Nat} (h : x < 4294967296) : s0N x < 4294967296 := xor32 (xor32 (rot32_lt _ _ h) (rot32_lt _ _ h)) (Nat.lt_of_le_of_lt (Nat.div_le_self _ _) h)
theorem s1N_lt {x : Nat} (h : x < 4294967296) : s1N x < 4294967296 := xor32 (xor32 (rot32_lt _ _ h) (rot32_lt _ _ h)) (Nat.lt_of_le_of_lt (Nat.div_le_self _ _) h)
theorem S0N_lt {x : Nat} (h : x < 4294967296) : S0N x < 4294967296 := xor32 (xor32 (rot32_lt _ _ h) (rot32_lt _ _ h)) (rot32_lt _ _ h)
theorem S1N_lt {x : Nat} (h : x < 4294967296) : S1N x < 4294967296 := xor32 (xor32 (rot32_lt _ _ h) (rot32_lt _ _ h)) (rot32_lt _ _ h)
theorem chN_lt {e f g : Nat} (hf : f < 4294967296) (hg : g < 4294967296) : chN e f g < 4294967296 := xor32 (and32 hf) (and32 hg)
theorem majN_lt {a b c : Nat} (hb : b < 4294967296) (hc : c < 4294967296) : majN a b c < 4294967296 := xor32 (xor32 (and32 hb) (and32 hc)) (and32 hc)

/-- A word of four bytes, the highest ahead. -/
def w4N (a b c d : Nat) : Nat := a * 16777216 ||| b * 65536 ||| c * 256 ||| d

theorem w4N_lt {a b c d : Nat} (ha : a < 256) (hb : b < 256) (hc : c < 256) (hd : d < 256) : w4N a b c d < 4294967296 := or32 (or32 (or32 (by omega) (by omega)) (by omega)) (by omega)

/-- The schedule: its first t words. -/
def wlN (bs : List Nat) : Nat → List Nat
  | 0 => []
  | t + 1 => wlN bs t ++ [if t < 16 then w4N (bs.getD (4 * t) 0) (bs.getD (4 * t + 1) 0) (bs.getD (4 * t + 2) 0) (bs.getD (4 * t + 3) 0) else
      ((wlN bs t).getD (t - 16) 0 + s0N ((wlN bs t).getD (t - 15) 0) + (wlN bs t).getD (t - 7) 0 + s1N ((wlN bs t).getD (t - 2) 0)) % 4294967296]

theorem wlN_length (bs : List Nat) : ∀ t, (wlN bs t).length = t
  | 0 => rfl
  | t + 1 => by unfold wlN; rw [List.length_append, wlN_length bs t]; rfl

theorem wlN_digs {bs : List Nat} (hd : Digs 256 bs) : ∀ t, Digs 4294967296 (wlN bs t)
  | 0 => Digs.nil _
  | t + 1 => by
    unfold wlN
    refine (wlN_digs hd t).append (Digs.one ?_)
    split
    · exact w4N_lt (hd.getD (by omega) _) (hd.getD (by omega) _) (hd.getD (by omega) _) (hd.getD (by omega) _)
    · exact Nat.mod_lt _ (by omega)

/-- One round. -/
def rndN (r : List Nat) (k w : Nat) : List Nat :=
  [(r.getD 7 0 + S1N (r.getD 4 0) + chN (r.getD 4 0) (r.getD 5 0) (r.getD 6 0) + k + w + (S0N (r.getD 0 0) + majN (r.getD 0 0) (r.getD 1 0) (r.getD 2 0))) % 4294967296, r.getD 0 0, r.getD 1 0, r.getD 2 0,
    (r.getD 3 0 + (r.getD 7 0 + S1N (r.getD 4 0) + chN (r.getD 4 0) (r.getD 5 0) (r.getD 6 0) + k + w)) % 4294967296, r.getD 4 0, r.getD 5 0, r.getD 6 0]

/-- So many rounds. -/
def rndsN (ws s : List Nat) : Nat → List Nat
  | 0 => s
  | t + 1 => rndN (rndsN ws s t) (K256.getD t 0) (ws.getD t 0)

theorem rndsN_length (ws s : List Nat) (hs : s.length = 8) : ∀ t, (rndsN ws s t).length = 8
  | 0 => hs
  | _ + 1 => rfl

theorem rndsN_digs {ws s : List Nat} (hs : Digs 4294967296 s) : ∀ t, Digs 4294967296 (rndsN ws s t)
  | 0 => hs
  | t + 1 => by
    have ih := rndsN_digs (ws := ws) hs t
    unfold rndsN rndN
    intro d hd
    simp only [List.mem_cons, List.not_mem_nil, or_false] at hd
    have h : ∀ i, (rndsN ws s t).getD i 0 < 4294967296 := fun i => ih.getD (by omega) i
    rcases hd with rfl | rfl | rfl | rfl | rfl | rfl | rfl | rfl
    · exact Nat.mod_lt _ (by omega)
    · exact h _
    · exact h _
    · exact h _
    · exact Nat.mod_lt _ (by omega)
    · exact h _
    · exact h _
    · exact h _

/-- What a block makes of a state. -/
def blkN (s bs : List Nat) : List Nat := (List.range 8).map fun i => ((rndsN (wlN bs 64) s 64).getD i 0 + s.getD i 0) % 4294967296

theorem xor3 {a b c : Nat} (ha : a < 4294967296) (hb : b < 4294967296) (hc : c < 4294967296) : bits .xor .u32 (bits .xor .u32 (a : Int) (b : Int)) (c : Int) = ((a ^^^ b ^^^ c : Nat) : Int) := by
  rw [u32_xor_nat a b ha hb, u32_xor_nat _ c (xor32 ha hb) hc]

theorem ch_bits {e f g : Nat} (he : e < 4294967296) (hf : f < 4294967296) (hg : g < 4294967296) : bits .xor .u32 (bits .and .u32 (e : Int) (f : Int)) (bits .and .u32 (bits .xor .u32 IntKind.u32.max (e : Int)) (g : Int)) = ((chN e f g : Nat) : Int) := by
  have h := u32_xor_nat 4294967295 e (by omega) he
  rw [show IntKind.u32.max = ((4294967295 : Nat) : Int) from rfl, h, u32_and_nat e f he hf, u32_and_nat _ g (xor32 (by omega) he) hg, u32_xor_nat _ _ (and32 hf) (and32 hg)]
  rfl

theorem maj_bits {a b c : Nat} (ha : a < 4294967296) (hb : b < 4294967296) (hc : c < 4294967296) : bits .xor .u32 (bits .xor .u32 (bits .and .u32 (a : Int) (b : Int)) (bits .and .u32 (a : Int) (c : Int))) (bits .and .u32 (b : Int) (c : Int)) = ((majN a b c : Nat) : Int) := by
  rw [u32_and_nat a b ha hb, u32_and_nat a c ha hc, u32_and_nat b c hb hc]
  exact xor3 (and32 hb) (and32 hc) (and32 hc)

/-- A state that was written whole. -/
theorem Arr.put8 {k : IntKind} {t : TypeId} {w : World} {b : Nat} {zs : List Nat} (h : Arr k t w b zs) (hl : zs.length = 8) (x0 x1 x2 x3 x4 x5 x6 x7 : Nat) :
    Arr k t ((((((((w.setCell ⟨b, 0, none⟩ (.int k (x0 : Nat))).setCell ⟨b, 1, none⟩ (.int k (x1 : Nat))).setCell ⟨b, 2, none⟩ (.int k (x2 : Nat))).setCell ⟨b, 3, none⟩ (.int k (x3 : Nat))).setCell ⟨b, 4, none⟩ (.int k (x4 : Nat))).setCell ⟨b, 5, none⟩ (.int k (x5 : Nat))).setCell ⟨b, 6, none⟩ (.int k (x6 : Nat))).setCell ⟨b, 7, none⟩ (.int k (x7 : Nat))) b [x0, x1, x2, x3, x4, x5, x6, x7] := by
  match zs, hl with
  | [_, _, _, _, _, _, _, _], _ => exact (((((((h.set 0 x0).set 1 x1).set 2 x2).set 3 x3).set 4 x4).set 5 x5).set 6 x6).set 7 x7

theorem kept8 (w : World) (b : Nat) (x0 x1 x2 x3 x4 x5 x6 x7 : Value) : Kept (fun x => x = b) w ((((((((w.setCell ⟨b, 0, none⟩ x0).setCell ⟨b, 1, none⟩ x1).setCell ⟨b, 2, none⟩ x2).setCell ⟨b, 3, none⟩ x3).setCell ⟨b, 4, none⟩ x4).setCell ⟨b, 5, none⟩ x5).setCell ⟨b, 6, none⟩ x6).setCell ⟨b, 7, none⟩ x7) :=
  ((((((((Kept.refl (fun x => x = b) w).setCell ⟨b, 0, none⟩ (fun _ => rfl) x0).setCell ⟨b, 1, none⟩ (fun _ => rfl) x1).setCell ⟨b, 2, none⟩ (fun _ => rfl) x2).setCell ⟨b, 3, none⟩ (fun _ => rfl) x3).setCell ⟨b, 4, none⟩ (fun _ => rfl) x4).setCell ⟨b, 5, none⟩ (fun _ => rfl) x5).setCell ⟨b, 6, none⟩ (fun _ => rfl) x6).setCell ⟨b, 7, none⟩ (fun _ => rfl) x7

/-- The state while s is being added. -/
def adN (r s : List Nat) (i : Nat) : List Nat := ((List.range i).map fun j => (r.getD j 0 + s.getD j 0) % 4294967296) ++ r.drop i

theorem adN_length {r s : List Nat} {i : Nat} (hr : r.length = 8) (hi : i ≤ 8) : (adN r s i).length = 8 := by
  unfold adN
  rw [List.length_append, List.length_map, List.length_range, List.length_drop]
  omega

theorem adN_at {r s : List Nat} {i : Nat} : (adN r s i).getD i 0 = r.getD i 0 := by
  unfold adN
  rw [List.getD_eq_getElem?_getD, List.getElem?_append_right (by simp), List.length_map, List.length_range, Nat.sub_self, List.getElem?_drop, Nat.add_zero, ← List.getD_eq_getElem?_getD]

theorem adN_set {r s : List Nat} {i z : Nat} (hr : r.length = 8) (hi : i < 8) (hz : z = (r.getD i 0 + s.getD i 0) % 4294967296) : (adN r s i).set i z = adN r s (i + 1) := by
  unfold adN
  rw [List.set_append_right _ _ (by simp), List.length_map, List.length_range, Nat.sub_self, List.drop_eq_getElem_cons (by omega), List.set_cons_zero, List.range_succ, List.map_append, List.append_assoc, hz]
  rfl

end Go.Proofs.YthnkganmccgaeaaDoor


/- The plain side of layer 12 (package sconceref12, SHA-512): its numbers; turn, k, Start. -/
namespace Go.Proofs.YthnkganmccgaeaaDoor
open Go.RowKit

/-- A word turned right. -/
def rot64 (x n : Nat) : Nat := (x / 2 ^ n) ||| (x * 2 ^ (64 - n) % 18446744073709551616)

def K512 : List Nat := [4794697086780616226, 8158064640168781261, 13096744586834688815, 16840607885511220156, 4131703408338449720, 6480981068601479193, 10538285296894168987, 12329834152419229976, 15566598209576043074, 1334009975649890238, 2608012711638119052, 6128411473006802146, 8268148722764581231, 9286055187155687089, 11230858885718282805, 13951009754708518548, 16472876342353939154, 17275323862435702243, 1135362057144423861, 2597628984639134821, 3308224258029322869, 5365058923640841347, 6679025012923562964, 8573033837759648693, 10970295158949994411, 12119686244451234320, 12683024718118986047, 13788192230050041572, 14330467153632333762, 15395433587784984357, 489312712824947311, 1452737877330783856, 2861767655752347644, 3322285676063803686, 5560940570517711597, 5996557281743188959, 7280758554555802590, 8532644243296465576, 9350256976987008742, 10552545826968843579, 11727347734174303076, 12113106623233404929, 14000437183269869457, 14369950271660146224, 15101387698204529176, 15463397548674623760, 17586052441742319658, 1182934255886127544, 1847814050463011016, 2177327727835720531, 2830643537854262169, 3796741975233480872, 4115178125766777443, 5681478168544905931, 6601373596472566643, 7507060721942968483, 8399075790359081724, 8693463985226723168, 9568029438360202098, 10144078919501101548, 10430055236837252648, 11840083180663258601, 13761210420658862357, 14299343276471374635, 14566680578165727644, 15097957966210449927, 16922976911328602910, 17689382322260857208, 500013540394364858, 748580250866718886, 1242879168328830382, 1977374033974150939, 2944078676154940804, 3659926193048069267, 4368137639120453308, 4836135668995329356, 5532061633213252278, 6448918945643986474, 6902733635092675308, 7801388544844847127]

def H384 : List Nat := [14680500436340154072, 7105036623409894663, 10473403895298186519, 1526699215303891257, 7436329637833083697, 10282925794625328401, 15784041429090275239, 5167115440072839076]

def H512 : List Nat := [7640891576956012808, 13503953896175478587, 4354685564936845355, 11912009170470909681, 5840696475078001361, 11170449401992604703, 2270897969802886507, 6620516959819538809]

/-- The start of either. -/
def H5 (short : Bool) : List Nat := if short = true then H384 else H512

theorem rot64_lt (x n : Nat) (hx : x < 18446744073709551616) : rot64 x n < 18446744073709551616 := by
  unfold rot64
  have h1 : x / 2 ^ n < 2 ^ 64 := Nat.lt_of_le_of_lt (Nat.div_le_self _ _) hx
  have h2 : x * 2 ^ (64 - n) % 18446744073709551616 < 2 ^ 64 := Nat.mod_lt _ (by omega)
  exact Nat.or_lt_two_pow h1 h2

set_option maxHeartbeats 400000 in
/-- turn. -/
theorem r12Turn (x n : Nat) (hx : x < 18446744073709551616) (hn : n < 64) (w : World) :
    Calls Tryd.prog 49 #[.int .u64 (x : Nat), .int .i64 (n : Nat)] w fun e w' => e = .returned (.int .u64 (rot64 x n : Nat)) ∧ w' = w := by
  have h1 : x / 2 ^ n < 18446744073709551616 := Nat.lt_of_le_of_lt (Nat.div_le_self _ _) hx
  have h2 : x * 2 ^ (64 - n) % 18446744073709551616 < 18446744073709551616 := Nat.mod_lt _ (by omega)
  have hor := u64_or_nat _ _ h1 h2
  have g1 : (64 : Int) - (n : Int) = ((64 - n : Nat) : Int) := by omega
  have c1 : ((x / 2 ^ n : Nat) : Int) = (x : Int) / 2 ^ n := by simp
  have c2 : ((x * 2 ^ (64 - n) % 18446744073709551616 : Nat) : Int) = IntKind.u64.wrap ((x : Int) * 2 ^ (64 - n)) := by rw [IntKind.wrap_u64]; simp
  rw [c1, c2] at hor
  clear c1 c2
  go_enter Tryd.func49, Tryd.ntmps49
  go_wp2_with fail
  go_ret
  exact ⟨rfl, rfl⟩

set_option maxRecDepth 20000 in
set_option maxHeartbeats 1000000 in
/-- k. -/
theorem r12K (i : Nat) (hi : i < 80) (w : World) :
    Calls Tryd.prog 50 #[.int .i64 (i : Nat)] w fun e w' => e = .returned (.int .u64 (K512.getD i 0 : Nat)) ∧ Kept Nought w w' := by
  have g0 : (0 : Int) ≤ (i : Int) := by omega
  have g1 : (i : Int) < 80 := by omega
  go_enter Tryd.func50, Tryd.ntmps50
  go_wp2_with fail
  rw [list_at (ks := K512) (k := .u64) ?h]
  case h => rfl
  go_ret
  exact ⟨rfl, (Kept.refl _ _).alloc _⟩

set_option maxRecDepth 20000 in
set_option maxHeartbeats 1000000 in
/-- Start. -/
theorem r12Start (short : Bool) (w : World) :
    Calls Tryd.prog 40 #[.bool short] w fun e w' => e = .returned (.agg ((H5 short).map fun z => Value.int .u64 (z : Nat)).toArray) ∧ Kept Nought w w' := by
  cases short
  · go_enter Tryd.func40, Tryd.ntmps40
    go_wp2_with fail
    exact bodyPost_ret (v := .agg (H512.map fun z => Value.int .u64 (z : Nat)).toArray) (by simp [results, Tryd.results40, go_sem, H512]) rfl ⟨rfl, (Kept.refl _ _).alloc _⟩
  · go_enter Tryd.func40, Tryd.ntmps40
    go_wp2_with fail
    exact bodyPost_ret (v := .agg (H384.map fun z => Value.int .u64 (z : Nat)).toArray) (by simp [results, Tryd.results40, go_sem, H384]) rfl ⟨rfl, (Kept.refl _ _).alloc _⟩

end Go.Proofs.YthnkganmccgaeaaDoor


/- SHA-512's numbers: plain mathematics. -/
namespace Go.Proofs.YthnkganmccgaeaaDoor
open Go.RowKit

theorem K512_lt : Digs 18446744073709551616 K512 := by unfold Digs K512; decide

/-- The schedule's two functions. -/
def s0M (x : Nat) : Nat := rot64 x 1 ^^^ rot64 x 8 ^^^ x / 128
def s1M (x : Nat) : Nat := rot64 x 19 ^^^ rot64 x 61 ^^^ x / 64
/-- The rounds' functions. -/
def S0M (x : Nat) : Nat := rot64 x 28 ^^^ rot64 x 34 ^^^ rot64 x 39
def S1M (x : Nat) : Nat := rot64 x 14 ^^^ rot64 x 18 ^^^ rot64 x 41
def chM (e f g : Nat) : Nat := (e &&& f) ^^^ ((18446744073709551615 ^^^ e) &&& g)
def majM (a b c : Nat) : Nat := (a &&& b) ^^^ (a &&& c) ^^^ (b &&& c)

theorem xor64 {a b : Nat} (ha : a < 18446744073709551616) (hb : b < 18446744073709551616) : a ^^^ b < 18446744073709551616 := Nat.xor_lt_two_pow (n := 64) ha hb

theorem and64 {a b : Nat} (hb : b < 18446744073709551616) : a &&& b < 18446744073709551616 := Nat.lt_of_le_of_lt Nat.and_le_right hb

theorem or64 {a b : Nat} (ha : a < 18446744073709551616) (hb : b < 18446744073709551616) : a ||| b < 18446744073709551616 := Nat.or_lt_two_pow (n := 64) ha hb

theorem s0M_lt {x : Nat} (h : x < 18446744073709551616) : s0M x < 18446744073709551616 := xor64 (xor64 (rot64_lt _ _ h) (rot64_lt _ _ h)) (Nat.lt_of_le_of_lt (Nat.div_le_self _ _) h)
theorem s1M_lt {x : Nat} (h : x < 18446744073709551616) : s1M x < 18446744073709551616 := xor64 (xor64 (rot64_lt _ _ h) (rot64_lt _ _ h)) (Nat.lt_of_le_of_lt (Nat.div_le_self _ _) h)
theorem S0M_lt {x : Nat} (h : x < 18446744073709551616) : S0M x < 18446744073709551616 := xor64 (xor64 (rot64_lt _ _ h) (rot64_lt _ _ h)) (rot64_lt _ _ h)
theorem S1M_lt {x : Nat} (h : x < 18446744073709551616) : S1M x < 18446744073709551616 := xor64 (xor64 (rot64_lt _ _ h) (rot64_lt _ _ h)) (rot64_lt _ _ h)
theorem chM_lt {e f g : Nat} (hf : f < 18446744073709551616) (hg : g < 18446744073709551616) : chM e f g < 18446744073709551616 := xor64 (and64 hf) (and64 hg)
theorem majM_lt {a b c : Nat} (hb : b < 18446744073709551616) (hc : c < 18446744073709551616) : majM a b c < 18446744073709551616 := xor64 (xor64 (and64 hb) (and64 hc)) (and64 hc)

/-- The word of the first i bytes at t, the highest ahead. -/
def w8M (bs : List Nat) (t : Nat) : Nat → Nat
  | 0 => 0
  | i + 1 => w8M bs t i * 256 ||| bs.getD (8 * t + i) 0

theorem w8M_lt {bs : List Nat} (hd : Digs 256 bs) (t : Nat) : ∀ i, i ≤ 8 → w8M bs t i < 256 ^ i
  | 0, _ => by simp [w8M]
  | i + 1, h => by
    have ih := w8M_lt hd t i (by omega)
    have hb : bs.getD (8 * t + i) 0 < 256 := hd.getD (by omega) _
    unfold w8M
    have e : (256 : Nat) ^ (i + 1) = 2 ^ (8 * (i + 1)) := by rw [show (256 : Nat) = 2 ^ 8 from rfl, ← Nat.pow_mul]
    rw [e]
    apply Nat.or_lt_two_pow
    · rw [← e, Nat.pow_succ]
      omega
    · have : (2 : Nat) ^ 8 ≤ 2 ^ (8 * (i + 1)) := Nat.pow_le_pow_right (by omega) (by omega)
      omega

/-- The schedule: its first t words. -/
def wlM (bs : List Nat) : Nat → List Nat
  | 0 => []
  | t + 1 => wlM bs t ++ [if t < 16 then w8M bs t 8 else
      ((wlM bs t).getD (t - 16) 0 + s0M ((wlM bs t).getD (t - 15) 0) + (wlM bs t).getD (t - 7) 0 + s1M ((wlM bs t).getD (t - 2) 0)) % 18446744073709551616]

theorem wlM_length (bs : List Nat) : ∀ t, (wlM bs t).length = t
  | 0 => rfl
  | t + 1 => by unfold wlM; rw [List.length_append, wlM_length bs t]; rfl

theorem wlM_digs {bs : List Nat} (hd : Digs 256 bs) : ∀ t, Digs 18446744073709551616 (wlM bs t)
  | 0 => Digs.nil _
  | t + 1 => by
    unfold wlM
    refine (wlM_digs hd t).append (Digs.one ?_)
    split
    · exact w8M_lt hd t 8 (Nat.le_refl _)
    · exact Nat.mod_lt _ (by omega)

/-- One round. -/
def rndM (r : List Nat) (k w : Nat) : List Nat :=
  [(r.getD 7 0 + S1M (r.getD 4 0) + chM (r.getD 4 0) (r.getD 5 0) (r.getD 6 0) + k + w + (S0M (r.getD 0 0) + majM (r.getD 0 0) (r.getD 1 0) (r.getD 2 0))) % 18446744073709551616, r.getD 0 0, r.getD 1 0, r.getD 2 0,
    (r.getD 3 0 + (r.getD 7 0 + S1M (r.getD 4 0) + chM (r.getD 4 0) (r.getD 5 0) (r.getD 6 0) + k + w)) % 18446744073709551616, r.getD 4 0, r.getD 5 0, r.getD 6 0]

/-- So many rounds. -/
def rndsM (ws s : List Nat) : Nat → List Nat
  | 0 => s
  | t + 1 => rndM (rndsM ws s t) (K512.getD t 0) (ws.getD t 0)

theorem rndsM_length (ws s : List Nat) (hs : s.length = 8) : ∀ t, (rndsM ws s t).length = 8
  | 0 => hs
  | _ + 1 => rfl

theorem rndsM_digs {ws s : List Nat} (hs : Digs 18446744073709551616 s) : ∀ t, Digs 18446744073709551616 (rndsM ws s t)
  | 0 => hs
  | t + 1 => by
    have ih := rndsM_digs (ws := ws) hs t
    unfold rndsM rndM
    intro d hd
    simp only [List.mem_cons, List.not_mem_nil, or_false] at hd
    have h : ∀ i, (rndsM ws s t).getD i 0 < 18446744073709551616 := fun i => ih.getD (by omega) i
    rcases hd with rfl | rfl | rfl | rfl | rfl | rfl | rfl | rfl
    · exact Nat.mod_lt _ (by omega)
    · exact h _
    · exact h _
    · exact h _
    · exact Nat.mod_lt _ (by omega)
    · exact h _
    · exact h _
    · exact h _

/-- What a block makes of a state. -/
def blkM (s bs : List Nat) : List Nat := (List.range 8).map fun i => ((rndsM (wlM bs 80) s 80).getD i 0 + s.getD i 0) % 18446744073709551616

theorem xor3M {a b c : Nat} (ha : a < 18446744073709551616) (hb : b < 18446744073709551616) (hc : c < 18446744073709551616) : bits .xor .u64 (bits .xor .u64 (a : Int) (b : Int)) (c : Int) = ((a ^^^ b ^^^ c : Nat) : Int) := by
  rw [u64_xor_nat a b ha hb, u64_xor_nat _ c (xor64 ha hb) hc]

theorem ch_bitsM {e f g : Nat} (he : e < 18446744073709551616) (hf : f < 18446744073709551616) (hg : g < 18446744073709551616) : bits .xor .u64 (bits .and .u64 (e : Int) (f : Int)) (bits .and .u64 (bits .xor .u64 IntKind.u64.max (e : Int)) (g : Int)) = ((chM e f g : Nat) : Int) := by
  have h := u64_xor_nat 18446744073709551615 e (by omega) he
  rw [show IntKind.u64.max = ((18446744073709551615 : Nat) : Int) from rfl, h, u64_and_nat e f he hf, u64_and_nat _ g (xor64 (by omega) he) hg, u64_xor_nat _ _ (and64 hf) (and64 hg)]
  rfl

theorem maj_bitsM {a b c : Nat} (ha : a < 18446744073709551616) (hb : b < 18446744073709551616) (hc : c < 18446744073709551616) : bits .xor .u64 (bits .xor .u64 (bits .and .u64 (a : Int) (b : Int)) (bits .and .u64 (a : Int) (c : Int))) (bits .and .u64 (b : Int) (c : Int)) = ((majM a b c : Nat) : Int) := by
  rw [u64_and_nat a b ha hb, u64_and_nat a c ha hc, u64_and_nat b c hb hc]
  exact xor3M (and64 hb) (and64 hc) (and64 hc)

/-- The state while s is being added. -/
def adM (r s : List Nat) (i : Nat) : List Nat := ((List.range i).map fun j => (r.getD j 0 + s.getD j 0) % 18446744073709551616) ++ r.drop i

theorem adM_length {r s : List Nat} {i : Nat} (hr : r.length = 8) (hi : i ≤ 8) : (adM r s i).length = 8 := by
  unfold adM
  rw [List.length_append, List.length_map, List.length_range, List.length_drop]
  omega

theorem adM_at {r s : List Nat} {i : Nat} : (adM r s i).getD i 0 = r.getD i 0 := by
  unfold adM
  rw [List.getD_eq_getElem?_getD, List.getElem?_append_right (by simp), List.length_map, List.length_range, Nat.sub_self, List.getElem?_drop, Nat.add_zero, ← List.getD_eq_getElem?_getD]

theorem adM_set {r s : List Nat} {i z : Nat} (hr : r.length = 8) (hi : i < 8) (hz : z = (r.getD i 0 + s.getD i 0) % 18446744073709551616) : (adM r s i).set i z = adM r s (i + 1) := by
  unfold adM
  rw [List.set_append_right _ _ (by simp), List.length_map, List.length_range, Nat.sub_self, List.drop_eq_getElem_cons (by omega), List.set_cons_zero, List.range_succ, List.map_append, List.append_assoc, hz]
  rfl

end Go.Proofs.YthnkganmccgaeaaDoor

