/- The plain side of layer 12 (package sconceref12, SHA-512): its numbers; turn, k, Start. -/
import Derived.Test.YthnkganmccgaeaaDoorSha2
namespace Go.Proofs.YthnkganmccgaeaaDoor
open Go.RowKit

/-- A word turned right. -/
def rot64 (x n : Nat) : Nat := (x / 2 ^ n) ||| (x * 2 ^ (64 - n) % 18446744073709551616)

def K512 : List Nat := [4794697086780616226, 8158064640168781261, 13096744586834688815, 16840607885511220156, 4131703408338449720, 6480981068601479193, 10538285296894168987, 12329834152419229976, 15566598209576043074, 1334009975649890238, 2608012711638119052, 6128411473006802146, 8268148722764581231, 9286055187155687089, 11230858885718282805, 13951009754708518548, 16472876342353939154, 17275323862435702243, 1135362057144423861, 2597628984639134821, 3308224258029322869, 5365058923640841347, 6679025012923562964, 8573033837759648693, 10970295158949994411, 12119686244451234320, 12683024718118986047, 13788192230050041572, 14330467153632333762, 15395433587784984357, 489312712824947311, 1452737877330783856, 2861767655752347644, 3322285676063803686, 5560940570517711597, 5996557281743188959, 7280758554555802590, 8532644243296465576, 9350256976987008742, 10552545826968843579, 11727347734174303076, 12113106623233404929, 14000437183269869457, 14369950271660146224, 15101387698204529176, 15463397548674623760, 17586052441742319658, 1182934255886127544, 1847814050463011016, 2177327727835720531, 2830643537854262169, 3796741975233480872, 4115178125766777443, 5681478168544905931, 6601373596472566643, 7507060721942968483, 8399075790359081724, 8693463985226723168, 9568029438360202098, 10144078919501101548, 10430055236837252648, 11840083180663258601, 13761210420658862357, 14299343276471374635, 14566680578165727644, 15097957966210449927, 16922976911328602910, 17689382322260857208, 500013540394364858, 748580250866718886, 1242879168328830382, 1977374033974150939, 2944078676154940804, 3659926193048069267, 4368137639120453308, 4836135668995329356, 5532061633213252278, 6448918945643986474, 6902733635092675308, 7801388544844847127]

def H384 : List Nat := [14680500436340154072, 7105036623409894663, 10473403895298186519, 1526699215303891257, 7436329637833083697, 10282925794625328401, 15784041429090275239, 5167115440072839076]

def H512 : List Nat := [7640891576956012808, 13503953896175478587, 4354685564936845355, 11912009170470909681, 5840696475078001361, 11170449401992604703, 2270897969802886507, 6620516959819538809]

/-- The start of either. -/
def H5 (short : Bool) : List Nat := if short = true then H384 else H512

theorem rot64_lt (x n : Nat) (hx : x < 18446744073709551616) : rot64 x n < 18446744073709551616 := by
  unfold rot64
  have h1 : x / 2 ^ n < 2 ^ 64 := Nat.lt_of_le_of_lt (Nat.div_le_self _ _) hx
  have h2 : x * 2 ^ (64 - n) % 18446744073709551616 < 2 ^ 64 := Nat.mod_lt _ (by omega)
  exact Nat.or_lt_two_pow h1 h2

set_option maxHeartbeats 400000 in
/-- turn. -/
theorem r12Turn (x n : Nat) (hx : x < 18446744073709551616) (hn : n < 64) (w : World) :
    Calls Tryd.prog 49 #[.int .u64 (x : Nat), .int .i64 (n : Nat)] w fun e w' => e = .returned (.int .u64 (rot64 x n : Nat)) ∧ w' = w := by
  have h1 : x / 2 ^ n < 18446744073709551616 := Nat.lt_of_le_of_lt (Nat.div_le_self _ _) hx
  have h2 : x * 2 ^ (64 - n) % 18446744073709551616 < 18446744073709551616 := Nat.mod_lt _ (by omega)
  have hor := u64_or_nat _ _ h1 h2
  have g1 : (64 : Int) - (n : Int) = ((64 - n : Nat) : Int) := by omega
  have c1 : ((x / 2 ^ n : Nat) : Int) = (x : Int) / 2 ^ n := by simp
  have c2 : ((x * 2 ^ (64 - n) % 18446744073709551616 : Nat) : Int) = IntKind.u64.wrap ((x : Int) * 2 ^ (64 - n)) := by rw [IntKind.wrap_u64]; simp
  rw [c1, c2] at hor
  clear c1 c2
  go_enter Tryd.func49, Tryd.ntmps49
  go_wp2_with fail
  go_ret
  exact ⟨rfl, rfl⟩

set_option maxRecDepth 20000 in
set_option maxHeartbeats 1000000 in
/-- k. -/
theorem r12K (i : Nat) (hi : i < 80) (w : World) :
    Calls Tryd.prog 50 #[.int .i64 (i : Nat)] w fun e w' => e = .returned (.int .u64 (K512.getD i 0 : Nat)) ∧ Kept Nought w w' := by
  have g0 : (0 : Int) ≤ (i : Int) := by omega
  have g1 : (i : Int) < 80 := by omega
  go_enter Tryd.func50, Tryd.ntmps50
  go_wp2_with fail
  rw [list_at (ks := K512) (k := .u64) ?h]
  case h => rfl
  go_ret
  exact ⟨rfl, (Kept.refl _ _).alloc _⟩

set_option maxRecDepth 20000 in
set_option maxHeartbeats 1000000 in
/-- Start. -/
theorem r12Start (short : Bool) (w : World) :
    Calls Tryd.prog 40 #[.bool short] w fun e w' => e = .returned (.agg ((H5 short).map fun z => Value.int .u64 (z : Nat)).toArray) ∧ Kept Nought w w' := by
  cases short
  · go_enter Tryd.func40, Tryd.ntmps40
    go_wp2_with fail
    exact bodyPost_ret (v := .agg (H512.map fun z => Value.int .u64 (z : Nat)).toArray) (by simp [results, Tryd.results40, go_sem, H512]) rfl ⟨rfl, (Kept.refl _ _).alloc _⟩
  · go_enter Tryd.func40, Tryd.ntmps40
    go_wp2_with fail
    exact bodyPost_ret (v := .agg (H384.map fun z => Value.int .u64 (z : Nat)).toArray) (by simp [results, Tryd.results40, go_sem, H384]) rfl ⟨rfl, (Kept.refl _ _).alloc _⟩

end Go.Proofs.YthnkganmccgaeaaDoor
