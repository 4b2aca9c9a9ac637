/- Ring's functions on two traces of a law's own. -/
import Derived.Test.YtaehphckkmbbnaaGreatLaw7
import Derived.Test.YtaehphckkmbbnaaGreatL6D
namespace Go.Proofs.YtaehphckkmbbnaaGreat
open Go.RowKit

/-- A call that writes the first one, of up to b events. -/
theorem Duo.callN {W0 W : World} {p q f : Nat} {es et m : List Ev} {args : Value → Array Value} (b : Nat) (h : Duo W0 W p q es et) (hlen : es.length + b < 1000000000000) (hm : m.length ≤ b)
    (hc : ∀ o, TrRoom W o b → (∀ v zs, Row .u64 W0 v zs → RowT W o v zs) → Calls Tryz.prog f (args (trPtr o)) W fun e w' => ∃ x, e = .returned x ∧ ∃ o', Did W o m w' o') :
    Calls Tryz.prog f (args (.pointer (some ⟨p, 0, none⟩))) W fun e w' => ∃ x, e = .returned x ∧ Duo W0 w' p q (es ++ m) et := by
  obtain ⟨k, o, r, ⟨h1, h0, h2, h3, h4⟩, ⟨g1, g0, g2, g3, g4⟩, ha⟩ := h
  rw [← h2]
  have hroom : TrRoom W o b := ⟨h1, by rw [h3]; exact hlen⟩
  refine (hc o hroom (fun v zs hr => ⟨hr.grew k, fun hn b hb f => ?_⟩)).mono ?_
  · have := hr.lt hn b hb
    have := h4 b f
    omega
  · rintro e w' ⟨x, rfl, o', d⟩
    refine ⟨x, rfl, ?_, o', r, ⟨(d.room (k := 0) (hroom.less (by omega))).1, ?_, by rw [d.ptr, h2], by rw [d.evs h0, h3], fun b f => ?_⟩, ⟨g1.apart2 d (fun b f g => ha b g f), g0, g2, g3, g4⟩, fun b f g => ?_⟩
    · exact k.next d.kept (fun x hx f => absurd (h4 x f) (by omega))
    · intro e
      have := d.ptr
      rw [e, h2] at this
      exact absurd this (by simp [trPtr])
    · by_cases hb : b < W.heap.size
      · exact h4 b (d.foot hb f)
      · have := k.size
        omega
    · have hb := g1.foot b g
      exact ha b (d.foot hb f) g

def ev7A (n : Nat) : List Ev := List.replicate 2 (1, (n : Int), 0) ++ List.replicate 3 (1, (n : Int), 0)

def ev7S (n : Nat) : List Ev := List.replicate 2 (1, (n : Int), 0) ++ List.replicate 2 (1, (n : Int), 0)

def ev7N (n : Nat) : List Ev := List.replicate 1 (1, (n : Int), 0) ++ List.replicate 2 (1, (n : Int), 0)

def ev7H (n : Nat) : List Ev := List.replicate 1 (1, (n : Int), 0) ++ List.replicate 3 (1, (n : Int), 0)

def ev7M (n : Nat) : List Ev := List.replicate 2 (1, (n : Int), 0) ++ mulEv7 n

def ev7R (n : Nat) : List Ev := List.replicate 0 (1, (n : Int), 0) ++ divSeen n n

theorem ev7_len {n : Nat} (hn : n ≤ 130) : (ev7A n).length ≤ 60000 ∧ (ev7S n).length ≤ 60000 ∧ (ev7N n).length ≤ 60000 ∧ (ev7H n).length ≤ 60000 ∧ (ev7M n).length ≤ 60000 ∧ (ev7R n).length ≤ 60000 ∧ 0 < (ev7A n).length := by
  unfold ev7A ev7S ev7N ev7H ev7M ev7R mulEv7 divSeen
  rw [if_pos ⟨by omega, by omega⟩]
  simp only [List.length_append, List.length_replicate, timesEvs_len, divEvs_len]
  omega

/-- Add on the first trace. -/
theorem Duo.add {W0 W : World} {p q : Nat} {es et : List Ev} (h : Duo W0 W p q es et) (hlen : es.length + 60000 < 1000000000000) (ao bo xo yo : Option Addr) (n l K mcap rcap xc yc : Nat) (ms rs xs ys : List Nat)
    (hm : Row .u64 W0 (.slice ao n mcap) ms) (hr : Row .u64 W0 (.slice bo l rcap) rs) (hx : Row .u64 W0 (.slice xo n xc) xs) (hy : Row .u64 W0 (.slice yo n yc) ys) (hmd : Digs 18446744073709551616 ms) (hrd : Digs 18446744073709551616 rs) (hdx : Digs 18446744073709551616 xs) (hdy : Digs 18446744073709551616 ys) (hK : K < 18446744073709551616) (hn : n ≤ 130) (hok : okMod ms K rs) (h1 : val 18446744073709551616 xs < val 18446744073709551616 ms) (h2 : val 18446744073709551616 ys < val 18446744073709551616 ms) :
    Calls Tryz.prog 8 #[.pointer (some ⟨p, 0, none⟩), .agg #[.slice ao n mcap, .int .u64 (K : Nat), .slice bo l rcap], .slice xo n xc, .slice yo n yc] W fun e w' => ∃ x, e = .returned x ∧ Duo W0 w' p q (es ++ ev7A n) et := by
  refine h.callN 60000 (args := fun t => #[t, .agg #[.slice ao n mcap, .int .u64 (K : Nat), .slice bo l rcap], .slice xo n xc, .slice yo n yc]) hlen (ev7_len hn).1 (fun o ht hR => ?_)
  refine (gAdd o ao bo xo yo n l K mcap rcap n n xc yc ms rs xs ys W (ht.less (by omega)) (hR _ _ hm) (hR _ _ hr) (hR _ _ hx) (hR _ _ hy) hmd hrd hdx hdy hK (by omega) (by omega) (by omega)).mono ?_
  rintro e w' ⟨v', c, rfl, zs, m, o', _, _, d, hp, _⟩
  obtain ⟨_, rfl⟩ := hp ⟨hok, ⟨rfl, h1⟩, rfl, h2⟩
  exact ⟨_, rfl, o', d⟩

/-- Sub on the first trace. -/
theorem Duo.sub {W0 W : World} {p q : Nat} {es et : List Ev} (h : Duo W0 W p q es et) (hlen : es.length + 60000 < 1000000000000) (ao bo xo yo : Option Addr) (n l K mcap rcap xc yc : Nat) (ms rs xs ys : List Nat)
    (hm : Row .u64 W0 (.slice ao n mcap) ms) (hr : Row .u64 W0 (.slice bo l rcap) rs) (hx : Row .u64 W0 (.slice xo n xc) xs) (hy : Row .u64 W0 (.slice yo n yc) ys) (hmd : Digs 18446744073709551616 ms) (hrd : Digs 18446744073709551616 rs) (hdx : Digs 18446744073709551616 xs) (hdy : Digs 18446744073709551616 ys) (hK : K < 18446744073709551616) (hn : n ≤ 130) (hok : okMod ms K rs) (h1 : val 18446744073709551616 xs < val 18446744073709551616 ms) (h2 : val 18446744073709551616 ys < val 18446744073709551616 ms) :
    Calls Tryz.prog 9 #[.pointer (some ⟨p, 0, none⟩), .agg #[.slice ao n mcap, .int .u64 (K : Nat), .slice bo l rcap], .slice xo n xc, .slice yo n yc] W fun e w' => ∃ x, e = .returned x ∧ Duo W0 w' p q (es ++ ev7S n) et := by
  refine h.callN 60000 (args := fun t => #[t, .agg #[.slice ao n mcap, .int .u64 (K : Nat), .slice bo l rcap], .slice xo n xc, .slice yo n yc]) hlen (ev7_len hn).2.1 (fun o ht hR => ?_)
  refine (gSub o ao bo xo yo n l K mcap rcap n n xc yc ms rs xs ys W (ht.less (by omega)) (hR _ _ hm) (hR _ _ hr) (hR _ _ hx) (hR _ _ hy) hmd hrd hdx hdy hK (by omega) (by omega) (by omega)).mono ?_
  rintro e w' ⟨v', c, rfl, zs, m, o', _, _, d, hp, _⟩
  obtain ⟨_, rfl⟩ := hp ⟨hok, ⟨rfl, h1⟩, rfl, h2⟩
  exact ⟨_, rfl, o', d⟩

/-- Mul on the first trace. -/
theorem Duo.pro {W0 W : World} {p q : Nat} {es et : List Ev} (h : Duo W0 W p q es et) (hlen : es.length + 60000 < 1000000000000) (ao bo xo yo : Option Addr) (n l K mcap rcap xc yc : Nat) (ms rs xs ys : List Nat)
    (hm : Row .u64 W0 (.slice ao n mcap) ms) (hr : Row .u64 W0 (.slice bo l rcap) rs) (hx : Row .u64 W0 (.slice xo n xc) xs) (hy : Row .u64 W0 (.slice yo n yc) ys) (hmd : Digs 18446744073709551616 ms) (hrd : Digs 18446744073709551616 rs) (hdx : Digs 18446744073709551616 xs) (hdy : Digs 18446744073709551616 ys) (hK : K < 18446744073709551616) (hn : n ≤ 130) (hok : okMod ms K rs) (h1 : val 18446744073709551616 xs < val 18446744073709551616 ms) (h2 : val 18446744073709551616 ys < val 18446744073709551616 ms) :
    Calls Tryz.prog 12 #[.pointer (some ⟨p, 0, none⟩), .agg #[.slice ao n mcap, .int .u64 (K : Nat), .slice bo l rcap], .slice xo n xc, .slice yo n yc] W fun e w' => ∃ x, e = .returned x ∧ Duo W0 w' p q (es ++ ev7M n) et := by
  refine h.callN 60000 (args := fun t => #[t, .agg #[.slice ao n mcap, .int .u64 (K : Nat), .slice bo l rcap], .slice xo n xc, .slice yo n yc]) hlen (ev7_len hn).2.2.2.2.1 (fun o ht hR => ?_)
  refine (gMul o ao bo xo yo n l K mcap rcap n n xc yc ms rs xs ys W (ht.less (by omega)) (hR _ _ hm) (hR _ _ hr) (hR _ _ hx) (hR _ _ hy) hmd hrd hdx hdy hK (by omega) (by omega) (by omega)).mono ?_
  rintro e w' ⟨v', c, rfl, zs, m, o', _, _, d, hp, _⟩
  obtain ⟨_, rfl⟩ := hp ⟨hok, ⟨rfl, h1⟩, rfl, h2⟩
  exact ⟨_, rfl, o', d⟩

/-- Neg on the first trace. -/
theorem Duo.neg {W0 W : World} {p q : Nat} {es et : List Ev} (h : Duo W0 W p q es et) (hlen : es.length + 60000 < 1000000000000) (ao bo xo : Option Addr) (n l K mcap rcap xc : Nat) (ms rs xs : List Nat)
    (hm : Row .u64 W0 (.slice ao n mcap) ms) (hr : Row .u64 W0 (.slice bo l rcap) rs) (hx : Row .u64 W0 (.slice xo n xc) xs) (hmd : Digs 18446744073709551616 ms) (hrd : Digs 18446744073709551616 rs) (hdx : Digs 18446744073709551616 xs) (hK : K < 18446744073709551616) (hn : n ≤ 130) (hok : okMod ms K rs) (h1 : val 18446744073709551616 xs < val 18446744073709551616 ms) :
    Calls Tryz.prog 10 #[.pointer (some ⟨p, 0, none⟩), .agg #[.slice ao n mcap, .int .u64 (K : Nat), .slice bo l rcap], .slice xo n xc] W fun e w' => ∃ x, e = .returned x ∧ Duo W0 w' p q (es ++ ev7N n) et := by
  refine h.callN 60000 (args := fun t => #[t, .agg #[.slice ao n mcap, .int .u64 (K : Nat), .slice bo l rcap], .slice xo n xc]) hlen (ev7_len hn).2.2.1 (fun o ht hR => ?_)
  refine (gNeg o ao bo xo n l K mcap rcap n xc ms rs xs W (ht.less (by omega)) (hR _ _ hm) (hR _ _ hr) (hR _ _ hx) hmd hrd hdx hK (by omega) (by omega)).mono ?_
  rintro e w' ⟨v', c, rfl, zs, m, o', _, _, d, hp, _⟩
  obtain ⟨_, rfl⟩ := hp ⟨hok, rfl, h1⟩
  exact ⟨_, rfl, o', d⟩

/-- Half on the first trace. -/
theorem Duo.half {W0 W : World} {p q : Nat} {es et : List Ev} (h : Duo W0 W p q es et) (hlen : es.length + 60000 < 1000000000000) (ao bo xo : Option Addr) (n l K mcap rcap xc : Nat) (ms rs xs : List Nat)
    (hm : Row .u64 W0 (.slice ao n mcap) ms) (hr : Row .u64 W0 (.slice bo l rcap) rs) (hx : Row .u64 W0 (.slice xo n xc) xs) (hmd : Digs 18446744073709551616 ms) (hrd : Digs 18446744073709551616 rs) (hdx : Digs 18446744073709551616 xs) (hK : K < 18446744073709551616) (hn : n ≤ 130) (hok : okMod ms K rs) (h1 : val 18446744073709551616 xs < val 18446744073709551616 ms) :
    Calls Tryz.prog 11 #[.pointer (some ⟨p, 0, none⟩), .agg #[.slice ao n mcap, .int .u64 (K : Nat), .slice bo l rcap], .slice xo n xc] W fun e w' => ∃ x, e = .returned x ∧ Duo W0 w' p q (es ++ ev7H n) et := by
  refine h.callN 60000 (args := fun t => #[t, .agg #[.slice ao n mcap, .int .u64 (K : Nat), .slice bo l rcap], .slice xo n xc]) hlen (ev7_len hn).2.2.2.1 (fun o ht hR => ?_)
  refine (gHalfW o ao bo xo n l K mcap rcap n xc ms rs xs W (ht.less (by omega)) (hR _ _ hm) (hR _ _ hr) (hR _ _ hx) hmd hrd hdx hK (by omega) (by omega)).mono ?_
  rintro e w' ⟨v', c, rfl, zs, m, o', _, _, d, hp, _⟩
  obtain ⟨_, rfl⟩ := hp ⟨hok, rfl, h1⟩
  exact ⟨_, rfl, o', d⟩

/-- Reduce on the first trace. -/
theorem Duo.red {W0 W : World} {p q : Nat} {es et : List Ev} (h : Duo W0 W p q es et) (hlen : es.length + 60000 < 1000000000000) (ao bo xo : Option Addr) (n l K mcap rcap xc : Nat) (ms rs xs : List Nat)
    (hm : Row .u64 W0 (.slice ao n mcap) ms) (hr : Row .u64 W0 (.slice bo l rcap) rs) (hx : Row .u64 W0 (.slice xo n xc) xs) (hmd : Digs 18446744073709551616 ms) (hrd : Digs 18446744073709551616 rs) (hdx : Digs 18446744073709551616 xs) (hK : K < 18446744073709551616) (hn : n ≤ 130) (hok : okMod ms K rs) :
    Calls Tryz.prog 13 #[.pointer (some ⟨p, 0, none⟩), .agg #[.slice ao n mcap, .int .u64 (K : Nat), .slice bo l rcap], .slice xo n xc] W fun e w' => ∃ x, e = .returned x ∧ Duo W0 w' p q (es ++ ev7R n) et := by
  refine h.callN 60000 (args := fun t => #[t, .agg #[.slice ao n mcap, .int .u64 (K : Nat), .slice bo l rcap], .slice xo n xc]) hlen (ev7_len hn).2.2.2.2.2.1 (fun o ht hR => ?_)
  refine (gRed o ao bo xo n l K mcap rcap n xc ms rs xs W (ht.less (by omega)) (hR _ _ hm) (hR _ _ hr) (hR _ _ hx) hmd hrd hdx hK (by omega)).mono ?_
  rintro e w' ⟨v', c, rfl, zs, m, o', _, _, d, hp, _⟩
  obtain ⟨_, rfl⟩ := hp hok
  exact ⟨_, rfl, o', d⟩

end Go.Proofs.YtaehphckkmbbnaaGreat
