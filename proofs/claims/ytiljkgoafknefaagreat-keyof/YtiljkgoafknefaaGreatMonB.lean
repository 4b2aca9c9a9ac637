/- Package mont: addRows: so many rows of a modulus are added. -/
import Derived.Test.YtiljkgoafknefaaGreatMonA
import Derived.Test.YtiljkgoafknefaaGreatPro2
import Derived.Deep.RegionHeld3
namespace Go.Proofs.YtiljkgoafknefaaGreat
open Go.RowKit

/-- What addRows leaves. -/
def Rowed (a : World) (o0 : Tr) (m0 : List Ev) (g base N cap n many K X V c : Nat) (w' : World) : Prop :=
  c ≤ 1 ∧ ∃ (zs' : List Nat) (Q : Nat) (o' : Tr), OwnN .u64 24 w' base (.slice (some ⟨g, 0, none⟩) N cap) N zs' ∧ zs'.length = N ∧ Digs 18446744073709551616 zs' ∧
    val 18446744073709551616 zs' + 18446744073709551616 ^ N * c = X + V * Q ∧ Q < 18446744073709551616 ^ many ∧ ((V * K + 1) % 18446744073709551616 = 0 → 0 < n → val 18446744073709551616 zs' % 18446744073709551616 ^ many = 0) ∧ Did a o0 (m0 ++ List.replicate many (1, (n : Int), 0)) w' o'

set_option maxRecDepth 20000 in
set_option maxHeartbeats 2000000 in
/-- addRows. -/
theorem mAddRows (a : World) (o0 o : Tr) (m0 : List Ev) (g base N cap n many K mcap rl rcap : Nat) (ao bo : Option Addr) (zs ms : List Nat) (w : World) (hD : Did a o0 m0 w o) (ht : TrRoom a o0 (m0.length + many)) (hg : a.heap.size ≤ g)
    (ho : OwnN .u64 24 w base (.slice (some ⟨g, 0, none⟩) N cap) N zs) (hzl : zs.length = N) (hzd : Digs 18446744073709551616 zs) (hN : N = n + many) (hNb : N ≤ 100000) (hm : RowT a o0 (.slice ao n mcap) ms) (hmd : Digs 18446744073709551616 ms) (b0 : Nat) (ob : Array Value) (tb : TypeId) (hb0 : w.heap[b0]? = some (.cells ob tb (0, 0))) (ht1 : tb ≠ 153) (ht2 : tb ≠ 130) (hbg : b0 ≠ g) :
    Calls Tryz.prog 157 #[trPtr o, .agg #[.slice ao n mcap, .int .u64 (K : Nat), .slice bo rl rcap], .slice (some ⟨g, 0, none⟩) N cap, .int .i64 (many : Nat)] w fun e w' =>
      ∃ c : Nat, e = .returned (.int .u64 (c : Nat)) ∧ Rowed a o0 m0 g base N cap n many K (val 18446744073709551616 zs) (val 18446744073709551616 ms) c w' ∧ w'.heap[b0]? = some (.cells ob tb (0, 0)) := by
  have hX := toHid (rfl : val 18446744073709551616 zs = val 18446744073709551616 zs)
  obtain ⟨_, _, _, e1, hLx, _, _, _, _⟩ := hm.1.open
  cases e1
  have HL := toHid hLx.out
  have HM := toHid hm
  have HMD := toHid hmd
  have HT := toHid ht
  have HD := toHid hD
  have HN := toHid hN
  have HG := toHid hg
  have HV : Hid (∀ V, V = val 18446744073709551616 ms → val 18446744073709551616 zs + 18446744073709551616 ^ (0 + n) * 0 = val 18446744073709551616 zs + V * 0) := fun V _ => by simp
  have hgw : g < w.heap.size := owns_lt ho
  obtain ⟨_, _, _, e1, _, hNc, _, _, _⟩ := (Row.of_own (base := base) (e := 24) (by rw [hzl]; exact ho) : Row .u64 w (.slice (some ⟨g, 0, none⟩) N cap) zs).open
  cases e1
  obtain ⟨tp, htp⟩ : ∃ tp, tp = trPtr o := ⟨_, rfl⟩
  rw [← htp]
  have HTP := toHid (htp.trans hD.ptr)
  obtain ⟨X, hXX⟩ : ∃ X, X = val 18446744073709551616 zs := ⟨_, rfl⟩
  obtain ⟨V, hVV⟩ : ∃ V, V = val 18446744073709551616 ms := ⟨_, rfl⟩
  rw [← hXX, ← hVV]
  have HVV := toHid hVV
  have k0 : Kept Nought w (w.alloc (.cells #[.slice ao n mcap, .int .u64 (K : Nat), .slice bo rl rcap] 90)) := (Kept.refl Nought w).alloc _
  have hx0 : (w.alloc (.cells #[.slice ao n mcap, .int .u64 (K : Nat), .slice bo rl rcap] 90)).heap[w.heap.size]? = some (.cells #[.slice ao n mcap, .int .u64 (K : Nat), .slice bo rl rcap] 90 (0, 0)) := heap_alloc_new _ _
  have HK0 := toHid (hD.grew k0)
  have HO := toHid (k0.own ho (fun _ _ f => f))
  have HX0 := toHid hx0
  have HB0 := toHid (heapAt_alloc hb0 : (w.alloc (.cells #[.slice ao n mcap, .int .u64 (K : Nat), .slice bo rl rcap] 90)).heap[b0]? = some (.cells ob tb (0, 0)))
  have HZ := toHid (show zs.length = N ∧ Digs 18446744073709551616 zs ∧ X = val 18446744073709551616 zs from ⟨hzl, hzd, hXX⟩)
  clear hm hmd ht hD hN hLx htp hVV hXX hx0 ho hzl hzd hX HV hg k0 hb0
  go_enter Tryz.func157, Tryz.ntmps157
  obtain ⟨p0, p1, p2⟩ := cells3 HX0.out
  go_wp2_with fail
  go_loopw [10, 17] (fun ov i wr => ∃ (k c Q : Nat) (os : List Nat) (o1 : Tr), k ≤ many ∧ c ≤ 1 ∧ i = .int .i64 (k : Int) ∧ ov = .int .u64 (c : Int) ∧ Hid (os.length = N) ∧ Hid (Digs 18446744073709551616 os) ∧ OwnN .u64 24 wr base (.slice (some ⟨g, 0, none⟩) N cap) N os ∧ Hid (val 18446744073709551616 os + 18446744073709551616 ^ (k + n) * c = X + V * Q) ∧ Hid (Q < 18446744073709551616 ^ k) ∧ Hid ((V * K + 1) % 18446744073709551616 = 0 → 0 < n → val 18446744073709551616 os % 18446744073709551616 ^ k = 0) ∧
      wr.heap[w.heap.size]? = some (.cells #[.slice ao n mcap, .int .u64 (K : Nat), .slice bo rl rcap] 90 (0, 0)) ∧ Hid (wr.heap[b0]? = some (.cells ob tb (0, 0))) ∧ Hid (Did a o0 (m0 ++ List.replicate k (1, (n : Int), 0)) wr o1)) (fun _ i _ => many - (intOf i).toNat)
  case atStart =>
    obtain ⟨z1, z2, z3⟩ := HZ.out
    exact ⟨0, 0, 0, zs, o, Nat.zero_le _, by omega, rfl, rfl, z1, z2, HO.out, by unfold Hid; rw [← z3]; simp, by unfold Hid; simp, fun _ _ => by simp [Nat.mod_one], HX0.out, HB0.out, by unfold Hid; rw [List.replicate_zero, List.append_nil]; exact HK0.out⟩
  case round =>
    obtain ⟨k, c, Q, os, o1, hk, hc, rfl, rfl, HL2, HD2, ho, HV2, HQ, HLow, hx, HBW, HDD⟩ := hrel
    clear p0 p1 p2 HX0 HO HK0 HZ HB0
    by_cases hkn : k < many
    · have hk0 : (0 : Int) ≤ (k : Int) := Int.natCast_nonneg _
      have hk1 : (k : Int) < (many : Int) := by omega
      have hroom : TrRoom wr o1 (many - k) := HDD.out.room (by rw [List.length_append, List.length_replicate, show m0.length + k + (many - k) = m0.length + many by omega]; exact HT.out)
      have hS := tSpanDid o1 (n : Int) wr hroom.1
      rw [HDD.out.ptr, ← HTP.out] at hS
      go_wp2_with fail
      refine hS.mono ?_
      rintro e w2 ⟨rfl, o2, d2⟩
      have ho2 := d2.kept.own ho (own_apart ho hroom.1)
      have hx2 := (d2.kept.block _ (lt_of_block hx) (cells_apart hx hroom.1 (by decide) (by decide))).trans hx
      have HB2 := toHid ((d2.kept.block _ (lt_of_block HBW.out) (cells_apart HBW.out hroom.1 ht1 ht2)).trans HBW.out)
      have HDD2 := toHid (HDD.out.trans d2)
      have hm2 := HM.out.did HDD2.out
      have hti2 := d2.room (k := 0) (hroom.less (by simp; omega))
      have hF2 : ¬ trFoot o2 g := own_apart ho2 hti2.1 _ rfl
      clear hS ho d2 hroom HDD hx HBW
      obtain ⟨p0, p1, p2⟩ := cells3 hx2
      obtain ⟨q, hq⟩ : ∃ q, q = os.getD k 0 * K % 18446744073709551616 := ⟨_, rfl⟩
      obtain ⟨S, hS⟩ : ∃ S, S = val 18446744073709551616 ((os.drop k).take n) + V * q := ⟨_, rfl⟩
      obtain ⟨R, hR⟩ : ∃ R, R = S / 18446744073709551616 ^ n := ⟨_, rfl⟩
      have hqb : q < 18446744073709551616 := by rw [hq]; exact Nat.mod_lt _ (by omega)
      have hkN : k + n < N := by have := HN.out; omega
      have hkC : k < cap := by omega
      have hkE : ¬ cap = k := by omega
      have hxk : os.getD k 0 < 18446744073709551616 := HD2.out.getD (by omega) _
      have hxn : os.getD (k + n) 0 < 18446744073709551616 := HD2.out.getD (by omega) _
      have hRb : R < 18446744073709551616 := by
        rw [hR, Nat.div_lt_iff_lt_mul (Nat.pow_pos (by omega)), hS]
        have h1 := part_lt (j := k) (n := n) HD2.out
        have h2 : V < 18446744073709551616 ^ n := by rw [HVV.out, ← HL.out]; exact val_lt (by omega) HMD.out
        have h3 : V * q ≤ 18446744073709551616 ^ n * q := Nat.mul_le_mul_right _ (Nat.le_of_lt h2)
        have h4 : 18446744073709551616 ^ n * (q + 1) ≤ 18446744073709551616 ^ n * 18446744073709551616 := Nat.mul_le_mul_left _ hqb
        rw [Nat.mul_add, Nat.mul_one] at h4
        rw [Nat.mul_comm 18446744073709551616]
        omega
      have hck : w2.cell? ⟨g, k, none⟩ = some (.int .u64 (os.getD k 0 : Nat)) := by
        have hlk : k < os.length := by rw [HL2.out]; omega
        rw [World.ownsRow.cellAt ho2 k (by omega), List.getElem?_map, List.getD_eq_getElem?_getD, List.getElem?_eq_getElem hlk]
        rfl
      have hqI : ((os.getD k 0 : Nat) : Int) * (K : Int) % 18446744073709551616 = (q : Int) := by rw [hq]; omega
      have hap := own_apart_row (w' := w2) (g := g) HM.out.1 HG.out HDD2.out.size
      have HA := fun W' (kk : Kept Nought w2 W') => mAddRow g base N cap k n (cap - k) q os ms (.slice ao n mcap) W' (kk.own ho2 (fun _ _ f => f)) HL2.out HD2.out (by omega) (hm2.1.grew kk) HL.out HMD.out hap hqb R S (by rw [← HVV.out]; exact hS) hR
      have HST : Hid (∀ z c2, z + 18446744073709551616 * c2 = os.getD (k + n) 0 + R + c → z < 18446744073709551616 → val 18446744073709551616 (os.take k ++ ((digs 18446744073709551616 S n ++ [z]) ++ os.drop (k + (n + 1)))) + 18446744073709551616 ^ (k + 1 + n) * c2 = X + V * (Q + 18446744073709551616 ^ k * q) ∧ Q + 18446744073709551616 ^ k * q < 18446744073709551616 ^ (k + 1) ∧ ((V * K + 1) % 18446744073709551616 = 0 → 0 < n → val 18446744073709551616 (os.take k ++ ((digs 18446744073709551616 S n ++ [z]) ++ os.drop (k + (n + 1)))) % 18446744073709551616 ^ (k + 1) = 0) ∧ Digs 18446744073709551616 (os.take k ++ ((digs 18446744073709551616 S n ++ [z]) ++ os.drop (k + (n + 1)))) ∧ (os.take k ++ ((digs 18446744073709551616 S n ++ [z]) ++ os.drop (k + (n + 1)))).length = N) := fun z c2 hz hzb => red_step HD2.out HL2.out hkN HV2.out HQ.out hq hS hR hz hzb HLow.out
      have hSto : Hid (∀ W' z, OwnN .u64 24 W' base (.slice (some ⟨g, 0, none⟩) N cap) N (os.take k ++ (digs 18446744073709551616 S n ++ os.drop (k + n))) → OwnN .u64 24 (W'.setCell ⟨g, k + n, none⟩ (.int .u64 ((z : Nat) : Int))) base (.slice (some ⟨g, 0, none⟩) N cap) N (os.take k ++ ((digs 18446744073709551616 S n ++ [z]) ++ os.drop (k + (n + 1))))) := fun W' z h => by
        have := (World.ownsRow.stored h (k + n) (.int .u64 (z : Int))).1
        unfold OwnN
        rw [← part_set os _ k n z (digs_length _ _ _) (by have := HL2.out; omega), List.map_set]
        exact this
      have hCell : ∀ W', OwnN .u64 24 W' base (.slice (some ⟨g, 0, none⟩) N cap) N (os.take k ++ (digs 18446744073709551616 S n ++ os.drop (k + n))) → W'.cell? ⟨g, k + n, none⟩ = some (.int .u64 (os.getD (k + n) 0 : Nat)) := fun W' h => part_cell h HL2.out (digs_length _ _ _) hkN
      have hFr : ∀ W', OwnN .u64 24 W' base (.slice (some ⟨g, 0, none⟩) N cap) N (os.take k ++ (digs 18446744073709551616 S n ++ os.drop (k + n))) → W'.frozen? ⟨g, k + n, none⟩ = false := fun W' h => World.ownsRow.frozenAt h (k + n)
      have hgb : w.heap.size ≠ g := by omega
      have HX2 := toHid hx2
      have hK3 : ∀ W', Kept (fun b => b = g) w2.drew W' → W'.cell? ⟨w.heap.size, 0, none⟩ = some (.slice ao n mcap) ∧ W'.cell? ⟨w.heap.size, 1, none⟩ = some (.int .u64 (K : Int)) := fun W' k => by
        obtain ⟨a0, a1, _⟩ := cells3 ((k.block _ (lt_of_block HX2.out) hgb).trans HX2.out)
        exact ⟨a0, a1⟩
      clear hq hS hR HV2 HQ HLow hm2 ho2 hap hx2 hti2
      generalize os.getD k 0 = x at *
      generalize os.getD (k + n) 0 = y at *
      generalize os.take k ++ (digs 18446744073709551616 S n ++ os.drop (k + n)) = os' at *
      have gkM : (k : Int) + (n : Int) < (N : Int) := by omega
      have gkN : (k : Int) < (N : Int) := by omega
      have gkC : (k : Int) + (n : Int) ≤ (cap : Int) := by omega
      have gkD : (k : Int) ≤ (k : Int) + (n : Int) := by omega
      have gkM0 : (0 : Int) ≤ (k : Int) + (n : Int) := by omega
      have gkM1 : ((k : Int) + (n : Int)).toNat = k + n := by omega
      have gkw : IntKind.i64.wrap ((k : Int) + (n : Int)) = (k : Int) + (n : Int) := by rw [IntKind.wrap_i64]; omega
      have gqw : IntKind.u64.wrap ((x : Int) * (K : Int)) = (q : Int) := by rw [IntKind.wrap_u64]; exact hqI
      go_wp2_with fail
      have JA := toHid HA
      have JC := toHid hCell
      have JF := toHid hFr
      have JK := toHid hK3
      clear HA hCell hFr hK3
      go_region_with (go_at_call 169; refine (JA.out _ ((Kept.refl _ _).drew)).mono ?_; rintro e w3 ⟨rfl, ho3, k3⟩; have hc3 := JC.out _ ho3; have hf3 := JF.out _ ho3)
      all_goals
        go_wp2_with fail
        refine (wAddN y R c hxn hRb hc _).mono ?_
        rintro e w7 ⟨z, c2, rfl, hzb, hc2, hzz, rfl⟩
        obtain ⟨s1, s2, s3, s4, s5⟩ := HST.out z c2 hzz hzb
        go_wp2_with fail
        go_roundw
        case rel =>
          have k4 : Kept (fun b => b = g) w2 (w7.setCell ⟨g, k + n, none⟩ (.int .u64 (z : Int))) := (((Kept.refl _ _).drew).trans k3).setCell _ (fun _ => rfl) _
          exact ⟨k + 1, c2, _, _, o2, by omega, hc2, by go_num, rfl, s5, s4, hSto.out _ z ho3, s1, s2, s3, (k4.block _ (lt_of_block HX2.out) hgb).trans HX2.out, (k4.block _ (lt_of_block HB2.out) hbg).trans HB2.out, by unfold Hid; rw [List.replicate_succ', ← List.append_assoc]; exact HDD2.out.wroteNew k4 HG.out hF2⟩
        case measure => simp [intOf]; omega
    · have hk1 : ¬ (k : Int) < (many : Int) := by omega
      obtain rfl : k = many := by omega
      have e := HV2.out
      rw [show k + n = N by rw [HN.out, Nat.add_comm]] at e
      have HE := toHid e
      clear e HV2
      go_wp2_with fail
      go_ret
      exact ⟨c, rfl, ⟨hc, os, Q, o1, ho, HL2.out, HD2.out, HE.out, HQ.out, HLow.out, HDD.out⟩, HBW.out⟩

end Go.Proofs.YtiljkgoafknefaaGreat
