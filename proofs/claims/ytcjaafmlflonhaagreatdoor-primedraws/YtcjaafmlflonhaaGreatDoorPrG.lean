/- Package product: Small. -/
import Derived.Test.YtcjaafmlflonhaaGreatDoorPrF
namespace Go.Proofs.YtcjaafmlflonhaaGreatDoor
open Go.RowKit

set_option maxRecDepth 20000 in
set_option maxHeartbeats 2000000 in
/-- Small. -/
theorem pSmall (ao : Option Addr) (L cap : Nat) (xs : List Nat) (D R E : Nat) (hD : D < 18446744073709551616) (hR : R = if D = 0 then 0 else val 18446744073709551616 xs % D) (hE : E = if D = 0 then 1 else 0) (w : World) (hu : Row .u64 w (.slice ao L cap) xs) (hdx : Digs 18446744073709551616 xs) (hL : L ≤ 1000000) :
    Calls Tryz.prog 31 #[.slice ao L cap, .int .u64 (D : Nat)] w fun e w' => e = .returned (.tuple #[.int .u64 (R : Nat), .int .i64 (E : Nat)]) ∧ Kept Nought w w' := by
  have hmf : ∀ (fn : Fn) (first cap : Array Value) (w : World), (Instr.makeFunc fn first cap).run Tryz.prog w = .ok (.func fn first cap) w := fun _ _ _ _ => rfl
  have hbx := boxes3 w (.slice ao L cap) (.int .u64 (D : Nat)) (.int .u64 0) 31 23 23
  have he : ∀ args w, (callFunc 60 args).run Tryz.prog w = .ok (.enter 60 args) w := fun _ _ => by simp [go_sem]
  have HR := toHid hR
  have HE := toHid hE
  clear hR hE
  go_enter Tryz.func31, Tryz.ntmps31
  go_wp2_with fail
  generalize ((w.alloc (.cells #[.slice ao L cap] 31)).alloc (.cells #[.int .u64 (D : Nat)] 23)).alloc (.cells #[.int .u64 0] 23) = W at *
  obtain ⟨k0, x1, x2, x3, hs⟩ := hbx
  have k1 := k0.alloc (.cells #[.int .i64 0] 32)
  have xe := Box.new W (.int .i64 0) 32
  have hAr : xs ≠ [] → ∀ b, (Value.slice ao L cap).ownBlock = some b → b ≠ w.heap.size + 1 + 1 := fun h b hb e => by have := hu.lt h b hb; omega
  have h1 := pSmall1 ao L cap xs D hD _ _ _ _ (hu.grew k1) hdx hL (x1.alloc _) (x2.alloc _) (x3.alloc (.cells #[.int .i64 0] 32)) (by omega) (by omega) hAr
  refine (pAttempt 60 _ W (fun n W' => n = (E : Int) ∧ Kept Nought w W' ∧ Box W' (w.heap.size + 1 + 1) (.int .u64 (R : Nat)) 23) he (h1.mono ?_)).mono ?_
  · rintro e w' (⟨hl, rfl, hk, hb⟩ | ⟨hl, rfl, rfl⟩)
    · have e1 := HR.out
      have e2 := HE.out
      rw [if_neg hl] at e1 e2
      rw [← e1] at hb
      exact ⟨xe.kept hk (by omega), .inl ⟨rfl, by rw [e2]; rfl, k1.next hk (fun x hx e => by omega), hb⟩⟩
    · have e1 := HR.out
      have e2 := HE.out
      rw [if_pos hl] at e1 e2
      exact ⟨xe, .inr ⟨1, rfl, by rw [e2]; rfl, k1, by rw [e1]; exact x3.alloc _⟩⟩
  · rintro e w' ⟨n, w1, rfl, ⟨⟨rfl, hk, hb⟩, hbe⟩, rfl⟩
    have hbx2 := hb.other ⟨W.heap.size, 0, none⟩ (by show _ ≠ W.heap.size; omega) (.int .i64 (E : Int))
    have c1 := hbx2.cell
    have f1 := hbx2.free
    have c3 := (hbx2.set (.int .u64 (R : Nat))).cell
    have k2 := (hk.next (kept_box w1 W.heap.size (.int .i64 (E : Int))) (fun x hx e => by omega)).next (kept_box _ (w.heap.size + 1 + 1) (.int .u64 (R : Nat))) (fun x hx e => by omega)
    have HK := toHid k2
    generalize w1.setCell ⟨W.heap.size, 0, none⟩ (.int .i64 (E : Int)) = W2 at *
    clear h1 hb hbx2 hk k2 hbe hu x1 x2 x3 xe k0 k1 hAr he hmf
    go_wp2_with fail
    refine bodyPost_ret (v := .tuple #[.int .u64 (R : Nat), .int .i64 (E : Nat)]) (by simp [results, Tryz.results31, go_sem, c3]) rfl ?_
    exact ⟨rfl, HK.out⟩

end Go.Proofs.YtcjaafmlflonhaaGreatDoor
