/- Layer 19: a key in memory, its rows by name; what Of answers is one. -/
import Derived.Test.YtiljkgoafknefaaGreatLaw19
namespace Go.Proofs.YtiljkgoafknefaaGreat
open Go.RowKit

/-- A key's cells: seven slices and a word. -/
structure KS where
  no : Option Addr
  nl : Nat
  nc : Nat
  en : Nat
  dO : Option Addr
  dl : Nat
  dc : Nat
  po : Option Addr
  pl : Nat
  pc : Nat
  qo : Option Addr
  ql : Nat
  qc : Nat
  dpo : Option Addr
  dpl : Nat
  dpc : Nat
  dqo : Option Addr
  dql : Nat
  dqc : Nat
  qio : Option Addr
  qil : Nat
  qic : Nat

def KS.v (t : KS) : Array Value := #[.slice t.no t.nl t.nc, .int .u64 ((t.en : Nat) : Int), .slice t.dO t.dl t.dc, .slice t.po t.pl t.pc, .slice t.qo t.ql t.qc, .slice t.dpo t.dpl t.dpc, .slice t.dqo t.dql t.dqc, .slice t.qio t.qil t.qic]

/-- A key's seven numbers. -/
structure KL where
  n : List Nat
  d : List Nat
  p : List Nat
  q : List Nat
  dp : List Nat
  dq : List Nat
  qi : List Nat

/-- The cells show the numbers. -/
structure KS.Rows (w : World) (t : KS) (l : KL) : Prop where
  n : Row .u64 w (.slice t.no t.nl t.nc) l.n
  d : Row .u64 w (.slice t.dO t.dl t.dc) l.d
  p : Row .u64 w (.slice t.po t.pl t.pc) l.p
  q : Row .u64 w (.slice t.qo t.ql t.qc) l.q
  dp : Row .u64 w (.slice t.dpo t.dpl t.dpc) l.dp
  dq : Row .u64 w (.slice t.dqo t.dql t.dqc) l.dq
  qi : Row .u64 w (.slice t.qio t.qil t.qic) l.qi

theorem KS.Rows.grew {w w' : World} {t : KS} {l : KL} (h : t.Rows w l) (k : Kept Nought w w') : t.Rows w' l := ⟨h.n.grew k, h.d.grew k, h.p.grew k, h.q.grew k, h.dp.grew k, h.dq.grew k, h.qi.grew k⟩

/-- The numbers are words. -/
structure KL.Digs (l : KL) : Prop where
  n : Proofs.YtiljkgoafknefaaGreat.Digs 18446744073709551616 l.n
  d : Proofs.YtiljkgoafknefaaGreat.Digs 18446744073709551616 l.d
  p : Proofs.YtiljkgoafknefaaGreat.Digs 18446744073709551616 l.p
  q : Proofs.YtiljkgoafknefaaGreat.Digs 18446744073709551616 l.q
  dp : Proofs.YtiljkgoafknefaaGreat.Digs 18446744073709551616 l.dp
  dq : Proofs.YtiljkgoafknefaaGreat.Digs 18446744073709551616 l.dq
  qi : Proofs.YtiljkgoafknefaaGreat.Digs 18446744073709551616 l.qi

/-- What Of answers. -/
def KeySays (L M P Q e E en : Nat) (l : KL) : Prop :=
  (E = 0 ∧ keyOk L M P Q e ∧ en = e ∧ ∃ d u, keyRows P Q e d u l.n l.d l.p l.q l.dp l.dq l.qi) ∨ (E = 190 ∧ ¬ keyOk L M P Q e ∧ en = 0 ∧ l = ⟨[], [], [], [], [], [], []⟩)

theorem KeySays.uniq {L M P Q e E E' en en' : Nat} {l l' : KL} (h : KeySays L M P Q e E en l) (h' : KeySays L M P Q e E' en' l') : E' = E ∧ en' = en ∧ l' = l := by
  rcases h with ⟨rfl, hok, rfl, d, u, h1⟩ | ⟨rfl, hno, rfl, rfl⟩
  · rcases h' with ⟨rfl, _, rfl, d', u', h2⟩ | ⟨_, hno, _⟩
    · have hd : d' = d := inv_one (Nat.Coprime.symm hok.2.2.2.2.2) h2.1 h1.1 h2.2.1 h1.2.1
      have hu : u' = u := inv_one hok.2.2.2.1 h2.2.2.1 h1.2.2.1 h2.2.2.2.1 h1.2.2.2.1
      subst hd hu
      obtain ⟨_, _, _, _, a1, a2, a3, a4, a5, a6, a7⟩ := h1
      obtain ⟨_, _, _, _, b1, b2, b3, b4, b5, b6, b7⟩ := h2
      refine ⟨rfl, rfl, ?_⟩
      cases l
      cases l'
      simp only at a1 a2 a3 a4 a5 a6 a7 b1 b2 b3 b4 b5 b6 b7
      rw [a1, a2, a3, a4, a5, a6, a7, b1, b2, b3, b4, b5, b6, b7]
    · exact absurd hok hno
  · rcases h' with ⟨_, hok, _⟩ | ⟨rfl, _, rfl, rfl⟩
    · exact absurd hok hno
    · exact ⟨rfl, rfl, rfl⟩

theorem KeySays.digs {L M P Q e E en : Nat} {l : KL} (h : KeySays L M P Q e E en l) : l.Digs := by
  rcases h with ⟨_, _, _, d, u, h1⟩ | ⟨_, _, _, rfl⟩
  · obtain ⟨_, _, _, _, a1, a2, a3, a4, a5, a6, a7⟩ := h1
    refine ⟨?_, ?_, ?_, ?_, ?_, ?_, ?_⟩
    · rw [a1]; exact digs_digs (by omega) _ _
    · rw [a2]; exact digs_digs (by omega) _ _
    · rw [a3]; exact digs_digs (by omega) _ _
    · rw [a4]; exact digs_digs (by omega) _ _
    · rw [a5]; exact digs_digs (by omega) _ _
    · rw [a6]; exact digs_digs (by omega) _ _
    · rw [a7]; exact digs_digs (by omega) _ _
  · exact ⟨Digs.nil _, Digs.nil _, Digs.nil _, Digs.nil _, Digs.nil _, Digs.nil _, Digs.nil _⟩

/-- What Of answers, by name. -/
def OfAns19 (w : World) (L M P Q e : Nat) (r : Ending) (w' : World) : Prop := ∃ (t : KS) (E : Nat), r = .returned (.tuple #[.agg t.v, .int .i64 ((E : Nat) : Int)]) ∧ ∃ l : KL, t.Rows w' l ∧ KeySays L M P Q e E t.en l ∧ KeyFar w.heap.size t.v ∧ Kept Nought w w'

theorem of19 {w w' : World} {L M P Q e : Nat} {r : Ending} (h : ∃ kv E, r = .returned (.tuple #[.agg kv, .int .i64 ((E : Nat) : Int)]) ∧ ((E = 0 ∧ keyOk L M P Q e ∧ KeyAt w' P Q e kv) ∨ (E = 190 ∧ ¬ keyOk L M P Q e ∧ kv = zeroKey)) ∧ KeyFar w.heap.size kv ∧ Kept Nought w w') : OfAns19 w L M P Q e r w' := by
  obtain ⟨kv, E, rfl, hc, hf, k⟩ := h
  rcases hc with ⟨rfl, hok, hat⟩ | ⟨rfl, hno, rfl⟩
  · obtain ⟨vn, vd, vp, vq, vdp, vdq, vqi, d, u, rfl, rn, hd1, hd2, rd, rp, rq, rdp, rdq, hu1, hu2, rqi⟩ := hat
    obtain ⟨bno, bnl, bnc, rfl, -, -, -, -, -⟩ := rn.open
    obtain ⟨bdo, bdl, bdc, rfl, -, -, -, -, -⟩ := rd.open
    obtain ⟨bpo, bpl, bpc, rfl, -, -, -, -, -⟩ := rp.open
    obtain ⟨bqo, bql, bqc, rfl, -, -, -, -, -⟩ := rq.open
    obtain ⟨bdpo, bdpl, bdpc, rfl, -, -, -, -, -⟩ := rdp.open
    obtain ⟨bdqo, bdql, bdqc, rfl, -, -, -, -, -⟩ := rdq.open
    obtain ⟨bqio, bqil, bqic, rfl, -, -, -, -, -⟩ := rqi.open
    exact ⟨⟨bno, bnl, bnc, e, bdo, bdl, bdc, bpo, bpl, bpc, bqo, bql, bqc, bdpo, bdpl, bdpc, bdqo, bdql, bdqc, bqio, bqil, bqic⟩, 0, rfl, ⟨_, _, _, _, _, _, _⟩, ⟨rn, rd, rp, rq, rdp, rdq, rqi⟩, .inl ⟨rfl, hok, rfl, d, u, hd1, hd2, hu1, hu2, rfl, rfl, rfl, rfl, rfl, rfl, rfl⟩, hf, k⟩
  · exact ⟨⟨none, 0, 0, 0, none, 0, 0, none, 0, 0, none, 0, 0, none, 0, 0, none, 0, 0, none, 0, 0⟩, 190, rfl, ⟨[], [], [], [], [], [], []⟩, ⟨Row.nil _ _, Row.nil _ _, Row.nil _ _, Row.nil _ _, Row.nil _ _, Row.nil _ _, Row.nil _ _⟩, .inr ⟨rfl, hno, rfl, rfl⟩, hf, k⟩

/-- Two keys held against each other. -/
theorem same19 (s t : KS) (l m : KL) (R : Bool) (hR : R = true ↔ s.en = t.en ∧ l = m) (w : World) (hs : s.Rows w l) (ht : t.Rows w m) :
    Calls Tryz.prog 14 #[.agg s.v, .agg t.v] w fun e w' => e = .returned (.bool R) ∧ Kept Nought w w' :=
  r18Same s.no s.dO s.po s.qo s.dpo s.dqo s.qio t.no t.dO t.po t.qo t.dpo t.dqo t.qio s.nl s.nc s.dl s.dc s.pl s.pc s.ql s.qc s.dpl s.dpc s.dql s.dqc s.qil s.qic t.nl t.nc t.dl t.dc t.pl t.pc t.ql t.qc t.dpl t.dpc t.dql t.dqc t.qil t.qic s.en t.en l.n l.d l.p l.q l.dp l.dq l.qi m.n m.d m.p m.q m.dp m.dq m.qi R (hR.trans ⟨fun h => by obtain ⟨h1, rfl⟩ := h; exact ⟨h1, rfl, rfl, rfl, rfl, rfl, rfl, rfl⟩, fun h => ⟨h.1, by cases l; cases m; simp only at h; obtain ⟨_, rfl, rfl, rfl, rfl, rfl, rfl, rfl⟩ := h; rfl⟩⟩) w hs.n hs.d hs.p hs.q hs.dp hs.dq hs.qi ht.n ht.d ht.p ht.q ht.dp ht.dq ht.qi

end Go.Proofs.YtiljkgoafknefaaGreat
