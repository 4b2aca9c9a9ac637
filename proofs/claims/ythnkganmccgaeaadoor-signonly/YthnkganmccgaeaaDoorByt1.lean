/- Rows of bytes: owned ones, parts of them, append, texts; the plain Same of bytes. -/
import Derived.Test.YthnkganmccgaeaaDoorBase1
import Derived.Laws.AppendOwn
import Derived.Laws.AppendOwnNone
import Derived.Laws.BytesArg
import Derived.Lib.Strings
namespace Go.Proofs.YthnkganmccgaeaaDoor
open Go.RowKit

theorem Tryd.info8s : (Tryd.prog.info? 5).map (fun i => (i.zero, i.size, i.bytes)) = some (some (.int .u8 0), 1, 1) := by kernel_rfl

/-- Bytes that only this slice holds, from block base on. -/
def OwnB (w : World) (base : Nat) (v : Value) (zs : List Nat) : Prop := OwnN .u8 5 w base v zs.length zs

theorem OwnB.row {w : World} {base : Nat} {v : Value} {zs : List Nat} (h : OwnB w base v zs) : Row .u8 w v zs := Row.of_own (base := base) (e := 5) h

theorem OwnB.of {w : World} {base n : Nat} {v : Value} {zs : List Nat} (h : OwnN .u8 5 w base v n zs) : OwnB w base v zs := by
  have hn : zs.length = n := by
    have := h.1
    rw [List.length_map] at this
    omega
  unfold OwnB
  rw [hn]
  exact h

theorem OwnB.kept {S : Nat → Prop} {w w' : World} {base : Nat} {v : Value} {zs : List Nat} (h : OwnB w base v zs) (hk : Kept S w w') (hs : ∀ b, base ≤ b → ¬ S b) : OwnB w' base v zs := hk.own h fun b hb => hs b (h.lt b hb).1

theorem OwnB.grew {w w' : World} {base : Nat} {v : Value} {zs : List Nat} (h : OwnB w base v zs) (hk : Kept Nought w w') : OwnB w' base v zs := h.kept hk fun _ _ f => f

theorem OwnB.base {w : World} {base base' : Nat} {v : Value} {zs : List Nat} (h : OwnB w base v zs) (hb : base' ≤ base) : OwnB w base' v zs := own_base h fun k hk => Nat.le_trans hb (h.lt k hk).1

theorem OwnB.nil (w : World) (base : Nat) : OwnB w base (.slice none 0 0) [] := World.ownsRow_nil _ _ _ _

def sliceLen : Value → Nat
  | .slice _ n _ => n
  | _ => 0

theorem new1c (w : World) (x : Value) (e : TypeId) : ∀ j u, [x][j]? = some u → (w.alloc (.cells #[x] e)).cell? ((⟨w.heap.size, 0, none⟩ : Addr).add j) = some u :=
  World.news_of_block (cs := #[x]) (t := e) (fr := (0, 0)) (Go.heap_alloc_new w _)

theorem row_part {k : IntKind} {w : World} {b off n cap s m : Nat} {zs : List Nat} (h : Row k w (.slice (some ⟨b, off, none⟩) n cap) zs) (h2 : s + m ≤ n) : Row k w (.slice (some ⟨b, off + s, none⟩) m (cap - s)) ((zs.drop s).take m) := by
  obtain ⟨ao, cap', e', c1, c2, _, h4⟩ := h
  cases e'
  have hl : ((zs.drop s).take m).length = m := by rw [List.length_take, List.length_drop]; omega
  refine ⟨_, _, by rw [hl], by omega, by omega, (fun e => by cases e), fun i hi => ?_⟩
  rw [hl] at hi
  obtain ⟨b', off', e', hcell⟩ := h4 (s + i) (by omega)
  cases e'
  refine ⟨b, off + s, rfl, ?_⟩
  rw [Nat.add_assoc, hcell, List.getD_eq_getElem?_getD, List.getD_eq_getElem?_getD, List.getElem?_take, if_pos hi, List.getElem?_drop]

theorem news_row {k : IntKind} {w W : World} {ad : Addr} {n cap : Nat} {zs : List Nat} (h : Row k w (.slice (some ad) n cap) zs) (kk : Kept Nought w W) : ∀ j u, (zs.map fun z : Nat => Value.int k (z : Int))[j]? = some u → W.cell? (ad.add j) = some u := fun j u hj => by
  obtain ⟨hlt, hv⟩ := List.getElem?_eq_some_iff.1 hj
  rw [List.length_map] at hlt
  obtain ⟨ao, cap', e', c1, c2, _, h4⟩ := h
  cases e'
  obtain ⟨b, off, e', hcell⟩ := h4 j hlt
  cases e'
  have hadd : (⟨b, off, none⟩ : Addr).add j = ⟨b, off + j, none⟩ := by unfold Addr.add; split <;> simp_all
  rw [hadd, kk.cellN hcell, ← hv, List.getElem_map, List.getD_eq_getElem?_getD, List.getElem?_eq_getElem hlt]
  rfl

theorem ones8 (k : IntKind) (zs : List Nat) : ∀ u ∈ (zs.map fun z : Nat => Value.int k (z : Int)), u.oneCell' = true := fun u hu => by
  obtain ⟨x, _, rfl⟩ := List.mem_map.1 hu
  rfl

theorem Digs.app {B : Nat} {xs ys : List Nat} (hx : Digs B xs) (hy : Digs B ys) : Digs B (xs ++ ys) := fun d hd => by
  rcases List.mem_append.1 hd with h | h
  · exact hx d h
  · exact hy d h

/-- The text of a row of bytes. -/
def bstr (bs : List Nat) : ByteArray := if bs = [] then ByteArray.empty else strOfNums (bs.map fun b : Nat => (b : Int))

/-- string(b) of a row of bytes. -/
theorem row_bstr {w : World} {ao : Option Addr} {n cap : Nat} {bs : List Nat} (h : Row .u8 w (.slice ao n cap) bs) :
    ∀ dst, Tryd.prog.underlying dst = some .string → (convert 22 dst (.slice ao n cap)).run Tryd.prog w = .ok (.string (bstr bs)) w := by
  obtain ⟨ao', cap', e, c1, c2, c3, h4⟩ := h
  cases e
  cases bs with
  | nil =>
    intro dst hd
    rw [run_convert_bytes_string w 22 dst 5 _ _ cap Tryd.underlying22 Tryd.underlying5 hd]
    cases ao <;> simp [Conv.bytesToString, loadCells, bstr]
    all_goals rfl
  | cons x t =>
    obtain ⟨b, off, rfl, _⟩ := h4 0 (by simp)
    have := run_convert_bytes_arg (P := Tryd.prog) w 22 5 Tryd.underlying22 Tryd.underlying5 b off (x :: t).length cap ((x :: t).map fun b : Nat => (b : Int)) (by simp) (fun i hi => by
      obtain ⟨b', off', e, hc⟩ := h4 i hi
      cases e
      rw [hc, List.getD_eq_getElem?_getD, List.getD_eq_getElem?_getD, List.getElem?_map, List.getElem?_eq_getElem hi]
      rfl)
    intro dst hd
    rw [this dst hd]
    simp [bstr]

theorem bstr_data (bs : List Nat) : (bstr bs).data.toList = bs.map fun b => UInt8.ofNat b := by
  unfold bstr
  split
  · next h => rw [h]; rfl
  · rw [strOfNums_data, List.map_map]
    rfl

theorem bytes_inj : ∀ {xs bs : List Nat}, Digs 256 xs → Digs 256 bs → (xs.map fun b => UInt8.ofNat b) = (bs.map fun b => UInt8.ofNat b) → xs = bs
  | [], [], _, _, _ => rfl
  | [], _ :: _, _, _, h => by simp at h
  | _ :: _, [], _, _, h => by simp at h
  | a :: xs, b :: bs, ha, hb, h => by
    rw [List.map_cons, List.map_cons, List.cons.injEq] at h
    have e1 : a = b := by
      have := congrArg UInt8.toNat h.1
      rw [UInt8.toNat_ofNat', UInt8.toNat_ofNat'] at this
      have h1 := ha a (by simp)
      have h2 := hb b (by simp)
      omega
    rw [e1, bytes_inj (fun d hd => ha d (by simp [hd])) (fun d hd => hb d (by simp [hd])) h.2]

theorem bstr_inj {xs bs : List Nat} (ha : Digs 256 xs) (hb : Digs 256 bs) : bstr xs = bstr bs ↔ xs = bs := by
  constructor
  · intro h
    apply bytes_inj ha hb
    rw [← bstr_data, ← bstr_data, h]
  · intro h
    rw [h]

set_option maxRecDepth 20000 in
set_option maxHeartbeats 1000000 in
/-- Same. -/
theorem r13Same (u v : Value) (xs bs : List Nat) (w : World) (ha : Row .u8 w u xs) (hb : Row .u8 w v bs) (da : Digs 256 xs) (db : Digs 256 bs) :
    Calls Tryd.prog 9 #[u, v] w fun e w' => e = .returned (.bool (decide (xs = bs))) ∧ w' = w := by
  obtain ⟨ao, na, ca, rfl, _⟩ := ha.open
  obtain ⟨bo, nb, cb, rfl, _⟩ := hb.open
  have k1 := row_bstr ha 9 Tryd.underlying9
  have k2 := row_bstr hb 9 Tryd.underlying9
  have hd : decide (xs = bs) = ((bstr xs).toList == (bstr bs).toList) := by
    rw [Lib.toList_data, Lib.toList_data, bstr_data, bstr_data]
    by_cases h : xs = bs
    · rw [h]
      simp
    · rw [decide_eq_false h]
      symm
      exact beq_eq_false_iff_ne.2 fun e => h (bytes_inj da db e)
  rw [hd]
  generalize bstr xs = s at *
  generalize bstr bs = t at *
  clear ha hb hd
  go_enter Tryd.func9, Tryd.ntmps9
  go_wp2
  go_ret
  exact ⟨rfl, rfl⟩

/-- append of bytes, whether the slice that they come in is nil or not, to a row of the call's own. -/
theorem wpList_append_row {w : World} {ops : Array Oper} {rest : List Oper} {o : Oper} {a : Act} {Q : Exit → Act → World → Prop} (hgd : o.guard = none) (s x : Operand)
    (ho : o.op = .call { callee := .builtin .append, args := #[s, x], argTypes := #[22, 22] })
    (base : Nat) (v : Value) (zs : List Nat) (hs : a.eval s = v) (hown : OwnB w base v zs) (u : Value) (hx : a.eval x = u) (bs : List Nat) (hr : Row .u8 w u bs) (hl : zs.length + bs.length ≤ 100000000) (hbase : base ≤ w.heap.size)
    (h : ∀ v' w', OwnB w' base v' (zs ++ bs) → w.grownBy w' v.ownBlock → wpList Tryd.prog ops Q rest (a.put o.dst v') w') : wpList Tryd.prog ops Q (o :: rest) a w := by
  obtain ⟨i0, hi0, hz0, hz1, hz2⟩ := info_parts Tryd.info8s
  obtain ⟨ao, n, cap, rfl, hL, hc, _, hn, hnum⟩ := hr.open
  cases ao with
  | none =>
    obtain rfl := hn rfl
    obtain rfl : n = 0 := by omega
    obtain rfl : bs = [] := List.length_eq_zero_iff.1 hL.out
    refine wpList_append_own_none hgd s x 22 ho base 5 i0 1 Tryd.underlying22 hi0 v zs.length _ hs hown hx ?_
    exact h v w (by rw [List.append_nil]; exact hown) ⟨rfl, rfl, rfl, Nat.le_refl _, fun _ _ _ => rfl⟩
  | some ad =>
    have hlb := hL.out
    refine wpList_append_own w hgd s x 22 ho base 5 i0 (.int .u8 0) 1 1 Tryd.underlying22 hi0 hz0 hz1 hz2 rfl (by decide) v zs.length _ hs hown ad n cap (bs.map fun z : Nat => Value.int .u8 (z : Int)) hx ?_ (news_row hr (Kept.refl _ _)) (ones8 .u8 bs) (by unfold maxLen; omega) (by omega) hbase ?_
    · rw [List.length_map, hlb, Nat.mul_one]
    · intro v' w' ho' hg _
      refine h v' w' (OwnB.of (n := zs.length + n) ?_) hg
      unfold OwnN
      rw [List.map_append]
      exact ho'

end Go.Proofs.YthnkganmccgaeaaDoor
