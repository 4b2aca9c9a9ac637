/- What a trace's Events answers: its first events, in new memory. -/
import Derived.Test.YtpgccioblgcjaaaCopyWide
namespace Go.Proofs.Ytpgccioblgcjaaa
open Go.RowKit

theorem Try.size103 : (Try.prog.info? 103).map (·.size) = some 3 := by kernel_rfl

set_option maxRecDepth 20000 in
set_option maxHeartbeats 400000 in
theorem tEvents (o : Tr) (w : World) (h : TrIn w o) : Calls Try.prog 61 #[trPtr o] w fun r w' =>
    ∃ v, r = .returned v ∧ EvRow w' v ((trEvs o).take 1000) ∧ (∀ k, v.ownBlock = some k → w.heap.size ≤ k) ∧ Kept Nought w w' := by
  cases o with
  | none =>
    unfold trPtr trEvs
    go_enter Try.func61, Try.ntmps61
    go_wp2
    go_ret
    exact ⟨_, rfl, by simpa using EvRow.nil w, fun k e => (by cases e), Kept.refl _ _⟩
  | some q =>
    obtain ⟨p, g, l⟩ := q
    obtain ⟨⟨v, s, hp, _, hr, _⟩, _⟩ := h
    unfold trPtr trEvs
    dsimp only
    obtain ⟨i0, hi0, hz0, hz1, hz2⟩ := info_parts Try.info103
    have hn : (l.take 1000).length ≤ 1000 := by rw [List.length_take]; omega
    unfold EvRow at hr ⊢
    have h1 := evsCells_one (l.take 1000)
    generalize l.take 1000 = m at *
    generalize m.length = n at *
    generalize evsCells m = xs at *
    obtain ⟨ao, cap, rfl⟩ := own_slice hr
    have c0 : w.cell? ⟨p, 0, none⟩ = some (.slice ao n cap) := (cell_of_row w p 0 _ _ _ hp).trans rfl
    have hlt := lt_of_block hp
    go_enter Try.func61, Try.ntmps61
    go_wp2_with (at_make; refine wpList_make_full _ rfl _ _ 83 rfl w.heap.size 103 i0 _ 3 Try.underlying83 hi0 hz0 hz1 _ _ _ _ n rfl rfl rfl rfl (by rw [hz2]; omega) (by unfold maxLen; omega) (Nat.le_refl _) ?_; intro w1 ho1 hg1; have c1 : w1.cell? ⟨p, 0, none⟩ = some (.slice ao n cap) := hg1.cell c0 (by simp))
    obtain ⟨w2, hrun, ho2, hk2⟩ := run_copy_own (P := Try.prog) 83 83 3 103 3 w.heap.size n (.slice ao n cap) xs _ Try.underlying83 Try.size103 ho1 ((grown_kept hg1).own hr (fun _ _ f => f)) h1
    rw [hrun]
    clear hrun
    go_wp2
    go_ret
    exact ⟨_, rfl, own_base ho2 (fun k _ => Nat.zero_le k), fun k e => (by simp [Value.ownBlock] at e; omega), (grown_kept hg1).next hk2 (fun k hk e => by omega)⟩

end Go.Proofs.Ytpgccioblgcjaaa
