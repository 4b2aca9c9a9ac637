/- Put together of: Prw0. -/
import Derived.Test.YtkaojflnghfmcaaGreatDoorQB31

namespace Go.Proofs.YtkaojflnghfmcaaGreatDoor
set_option maxRecDepth 100000
set_option maxHeartbeats 4000000
open Go.RowKit

theorem yq (bK bC bO:Nat) (s:KS) (l:KL) (co:Option Addr) (cl cc:Nat) (cs:List Nat) (w:World) (hr:s.Rows w l) (hd:l.Digs) (hl:s.light) (hc:Row .u8 w (.slice co cl cc) cs) (hg:¬ KeyGood l.n l.d l.p l.q l.dp l.dq l.qi s.en) (xK:w.heap[bK]? = some (.cells #[.slice s.no s.nl s.nc,.int .u64 (s.en:Nat),.slice s.dO s.dl s.dc,.slice s.po s.pl s.pc,.slice s.qo s.ql s.qc,.slice s.dpo s.dpl s.dpc,.slice s.dqo s.dql s.dqc,.slice s.qio s.qil s.qic] 26 (0,0))) (xC:Box w bC (.slice co cl cc) 27) :
  Calls Tryz.prog 29 #[.pointer (some ⟨bK,0,none⟩),.pointer (some ⟨bC,0,none⟩),.pointer (some ⟨bO,0,none⟩)] w fun e w'=>e=.panicked [refusal 190]∧Kept ae w w':=by
 obtain ⟨q0,q1,q2,q3,q4,q5,q6,q7⟩:=aJ xK;have c0:=xC.cell;have J1:=pP s l co cl cc cs w hr hd hl hc hg;clear hr hd hl hc hg xK xC;go_enter Tryz.func29,Tryz.ntmps29;go_wp2_with fail;refine J1.mono ?_;rintro e w1 ⟨rfl,k1⟩;exact ⟨rfl,rfl,k1⟩

theorem yk (bK bC bS bT bF bO:Nat) (s:KS) (l:KL) (co:Option Addr) (cl cc:Nat) (cs:List Nat) (w:World) (hr:s.Rows w l) (hd:l.Digs) (hl:s.light) (hc:Row .u8 w (.slice co cl cc) cs) (hg:¬ KeyGood l.n l.d l.p l.q l.dp l.dq l.qi s.en) (xK:w.heap[bK]? = some (.cells #[.slice s.no s.nl s.nc,.int .u64 (s.en:Nat),.slice s.dO s.dl s.dc,.slice s.po s.pl s.pc,.slice s.qo s.ql s.qc,.slice s.dpo s.dpl s.dpc,.slice s.dqo s.dql s.dqc,.slice s.qio s.qil s.qic] 26 (0,0))) (xC:Box w bC (.slice co cl cc) 27) :
  Calls Tryz.prog 49 #[.pointer (some ⟨bK,0,none⟩),.pointer (some ⟨bC,0,none⟩),.pointer (some ⟨bS,0,none⟩),.pointer (some ⟨bT,0,none⟩),.pointer (some ⟨bF,0,none⟩),.pointer (some ⟨bO,0,none⟩)] w fun e w'=>e=.panicked [refusal 190]∧Kept ae w w':=by
 obtain ⟨q0,q1,q2,q3,q4,q5,q6,q7⟩:=aJ xK;have c0:=xC.cell;have J1:=pP s l co cl cc cs w hr hd hl hc hg;clear hr hd hl hc hg xK xC;go_enter Tryz.func49,Tryz.ntmps49;go_wp2_with fail;refine J1.mono ?_;rintro e w1 ⟨rfl,k1⟩;exact ⟨rfl,rfl,k1⟩

theorem uw (s:KS) (l:KL) (co:Option Addr) (cl cc:Nat) (cs:List Nat) (w:World) (hr:s.Rows w l) (hd:l.Digs) (hl:s.light) (hc:Row .u8 w (.slice co cl cc) cs) (hg:¬ KeyGood l.n l.d l.p l.q l.dp l.dq l.qi s.en) :
  Calls Tryz.prog 11 #[.agg s.v,.slice co cl cc] w fun q w'=>∃ v',q=.returned (.tuple #[v',.int .i64 ((190:Nat):Int)])∧Row .u8 w' v' []∧Kept ae w w':=by
 have y:=dM;have h:∀ args w,(callFunc 29 args).run Tryz.prog w=.ok (.enter 29 args) w:=fun _ _=>by simp [go_sem]
 obtain ⟨W0,a⟩:∃ W,W=w.alloc (.cells #[.slice s.no s.nl s.nc,.int .u64 (s.en:Nat),.slice s.dO s.dl s.dc,.slice s.po s.pl s.pc,.slice s.qo s.ql s.qc,.slice s.dpo s.dpl s.dpc,.slice s.dqo s.dql s.dqc,.slice s.qio s.qil s.qic] 26):=⟨_,rfl⟩
 have k0:Kept ae w W0:=by rw [a];exact (ag ae w).alloc _
 obtain ⟨W1,b⟩:∃ W,W=W0.alloc (.cells #[.slice co cl cc] 27):=⟨_,rfl⟩
 have k1:Kept ae W0 W1:=by rw [b];exact (ag ae W0).alloc _
 obtain ⟨W2,c⟩:∃ W,W=W1.alloc (.cells #[.slice none 0 0] 27):=⟨_,rfl⟩
 have k2:Kept ae W1 W2:=by rw [c];exact (ag ae W1).alloc _
 have z0:W0.heap.size=w.heap.size+1:=by rw [a];simp
 have z1:W1.heap.size=w.heap.size+1+1:=by rw [b];simp [z0]
 have z2:W2.heap.size=w.heap.size+1+1+1:=by rw [c];simp [z1]
 have kE:=(ag ae W2).alloc (.cells #[.int .i64 0] 32);have xe:Box (W2.alloc (.cells #[.int .i64 0] 32)) W2.heap.size (.int .i64 0) 32:=Box.new W2 (.int .i64 0) 32;have ka:=((k0.trans k1).trans k2)
 have xK:W0.heap[w.heap.size]? = some (.cells #[.slice s.no s.nl s.nc,.int .u64 (s.en:Nat),.slice s.dO s.dl s.dc,.slice s.po s.pl s.pc,.slice s.qo s.ql s.qc,.slice s.dpo s.dpl s.dpc,.slice s.dqo s.dql s.dqc,.slice s.qio s.qil s.qic] 26 (0,0)):=by rw [a];exact heap_alloc_new _ _
 have xC:Box W1 (w.heap.size+1) (.slice co cl cc) 27:=by rw [b,← z0];exact Box.new W0 _ _
 have xO:Box W2 (w.heap.size+1+1) (.slice none 0 0) 27:=by rw [c,← z1];exact Box.new W1 _ _
 have kw:=ka.trans kE;have g:=ia 29 _ W2 (fun n W'=>n=190∧Box W' (w.heap.size+1+1) (.slice none 0 0) 27∧Kept ae w W') h ((yq (w.heap.size) (w.heap.size+1) (w.heap.size+1+1) s l co cl cc cs _ (hr.grew kw) hd hl (hc.grew kw) hg (aj xK ((k1.trans k2).trans kE)) (xC.grew (k2.trans kE))).mono (by
  rintro r w' ⟨rfl,hk⟩;exact ⟨xe.grew hk,.inr ⟨_,rfl,rfl,(xO.grew ((ag ae W2).trans kE)).grew hk,kw.trans hk⟩⟩))
 have HS:=aa z2;have HW:Hid (W2=(((w.alloc (.cells #[.slice s.no s.nl s.nc,.int .u64 (s.en:Nat),.slice s.dO s.dl s.dc,.slice s.po s.pl s.pc,.slice s.qo s.ql s.qc,.slice s.dpo s.dpl s.dpc,.slice s.dqo s.dql s.dqc,.slice s.qio s.qil s.qic] 26)).alloc (.cells #[.slice co cl cc] 27)).alloc (.cells #[.slice none 0 0] 27))):=by unfold Hid;rw [c,b,a]
 unfold KS.v;clear hc hr hd hl hg k0 k1 k2 z0 a z1 b z2 c kE ka kw xe xK xC xO h;go_enter Tryz.func11,Tryz.ntmps11;go_wp2_with (rw [← HW.out]);refine g.mono ?_;rintro r w' ⟨n,w1,rfl,⟨⟨rfl,hb,hk⟩,k⟩,rfl⟩;have m:W2.heap.size=w.heap.size+1+1+1:=HS.out;have kb:=aw w1 W2.heap.size (.int .i64 ((190:Nat):Int));have f:=hb.kept kb (by show ¬ w.heap.size+1+1=W2.heap.size;omega);have j:=aa ((hk.next kb (fun x hx e=>by omega)).next (aw (w1.setCell ⟨W2.heap.size,0,none⟩ (.int .i64 ((190:Nat):Int))) (w.heap.size+1+1) (.slice none 0 0)) (fun x hx e=>by omega));have o:=f.cell;have t:=f.free;have i:=aa f;clear g hb hk k kb f m
 generalize w1.setCell ⟨W2.heap.size,0,none⟩ (.int .i64 ((190:Nat):Int))=W9 at *;go_wp2_with fail;exact bodyPost_ret (v:=.tuple #[.slice none 0 0,.int .i64 ((190:Nat):Int)]) (by simp [results,Tryz.results11,go_sem,(i.out.set (.slice none 0 0)).cell]) rfl ⟨_,rfl,Row.nil _ _,j.out⟩

theorem uk (s:KS) (l:KL) (co:Option Addr) (cl cc:Nat) (cs:List Nat) (at_:Int) (fo:Option Addr) (fl fc:Nat) (w:World) (hr:s.Rows w l) (hd:l.Digs) (hl:s.light) (hc:Row .u8 w (.slice co cl cc) cs) (hg:¬ KeyGood l.n l.d l.p l.q l.dp l.dq l.qi s.en) :
  Calls Tryz.prog 19 #[.pointer none,.agg s.v,.slice co cl cc,.pointer none,.agg #[.int .i64 at_,.slice fo fl fc]] w fun q w'=>∃ v',q=.returned (.tuple #[v',.int .i64 ((190:Nat):Int)])∧Row .u8 w' v' []∧Kept ae w w':=by
 have B:=dM;have k:∀ args w,(callFunc 49 args).run Tryz.prog w=.ok (.enter 49 args) w:=fun _ _=>by simp [go_sem]
 obtain ⟨W0,f⟩:∃ W,W=w.alloc (.cells #[.pointer none] 53):=⟨_,rfl⟩
 have k0:Kept ae w W0:=by rw [f];exact (ag ae w).alloc _
 obtain ⟨W1,a⟩:∃ W,W=W0.alloc (.cells #[.slice s.no s.nl s.nc,.int .u64 (s.en:Nat),.slice s.dO s.dl s.dc,.slice s.po s.pl s.pc,.slice s.qo s.ql s.qc,.slice s.dpo s.dpl s.dpc,.slice s.dqo s.dql s.dqc,.slice s.qio s.qil s.qic] 26):=⟨_,rfl⟩
 have k1:Kept ae W0 W1:=by rw [a];exact (ag ae W0).alloc _
 obtain ⟨W2,b⟩:∃ W,W=W1.alloc (.cells #[.slice co cl cc] 27):=⟨_,rfl⟩
 have k2:Kept ae W1 W2:=by rw [b];exact (ag ae W1).alloc _
 obtain ⟨W3,g⟩:∃ W,W=W2.alloc (.cells #[.pointer none] 39):=⟨_,rfl⟩
 have k3:Kept ae W2 W3:=by rw [g];exact (ag ae W2).alloc _
 obtain ⟨W4,h⟩:∃ W,W=W3.alloc (.cells #[.int .i64 at_,.slice fo fl fc] 31):=⟨_,rfl⟩
 have k4:Kept ae W3 W4:=by rw [h];exact (ag ae W3).alloc _
 obtain ⟨W5,c⟩:∃ W,W=W4.alloc (.cells #[.slice none 0 0] 27):=⟨_,rfl⟩
 have k5:Kept ae W4 W5:=by rw [c];exact (ag ae W4).alloc _
 have z0:W0.heap.size=w.heap.size+1:=by rw [f];simp
 have z1:W1.heap.size=w.heap.size+1+1:=by rw [a];simp [z0]
 have z2:W2.heap.size=w.heap.size+1+1+1:=by rw [b];simp [z1]
 have z3:W3.heap.size=w.heap.size+1+1+1+1:=by rw [g];simp [z2]
 have z4:W4.heap.size=w.heap.size+1+1+1+1+1:=by rw [h];simp [z3]
 have z5:W5.heap.size=w.heap.size+1+1+1+1+1+1:=by rw [c];simp [z4]
 have kE:=(ag ae W5).alloc (.cells #[.int .i64 0] 32);have xe:Box (W5.alloc (.cells #[.int .i64 0] 32)) W5.heap.size (.int .i64 0) 32:=Box.new W5 (.int .i64 0) 32;have ka:=(((((k0.trans k1).trans k2).trans k3).trans k4).trans k5)
 have xK:W1.heap[w.heap.size+1]? = some (.cells #[.slice s.no s.nl s.nc,.int .u64 (s.en:Nat),.slice s.dO s.dl s.dc,.slice s.po s.pl s.pc,.slice s.qo s.ql s.qc,.slice s.dpo s.dpl s.dpc,.slice s.dqo s.dql s.dqc,.slice s.qio s.qil s.qic] 26 (0,0)):=by rw [a,← z0];exact heap_alloc_new _ _
 have xC:Box W2 (w.heap.size+1+1) (.slice co cl cc) 27:=by rw [b,← z1];exact Box.new W1 _ _
 have xO:Box W5 (w.heap.size+1+1+1+1+1) (.slice none 0 0) 27:=by rw [c,← z4];exact Box.new W4 _ _
 have kw:=ka.trans kE;have j:=ia 49 _ W5 (fun n W'=>n=190∧Box W' (w.heap.size+1+1+1+1+1) (.slice none 0 0) 27∧Kept ae w W') k ((yk (w.heap.size+1) (w.heap.size+1+1) (w.heap.size+1+1+1) w.heap.size (w.heap.size+1+1+1+1) (w.heap.size+1+1+1+1+1) s l co cl cc cs _ (hr.grew kw) hd hl (hc.grew kw) hg (aj xK ((((k2.trans k3).trans k4).trans k5).trans kE)) (xC.grew (((k3.trans k4).trans k5).trans kE))).mono (by
  rintro r w' ⟨rfl,hk⟩;exact ⟨xe.grew hk,.inr ⟨_,rfl,rfl,(xO.grew ((ag ae W5).trans kE)).grew hk,kw.trans hk⟩⟩))
 have HS:=aa z5;have HW:Hid (W5=((((((w.alloc (.cells #[.pointer none] 53)).alloc (.cells #[.slice s.no s.nl s.nc,.int .u64 (s.en:Nat),.slice s.dO s.dl s.dc,.slice s.po s.pl s.pc,.slice s.qo s.ql s.qc,.slice s.dpo s.dpl s.dpc,.slice s.dqo s.dql s.dqc,.slice s.qio s.qil s.qic] 26)).alloc (.cells #[.slice co cl cc] 27)).alloc (.cells #[.pointer none] 39)).alloc (.cells #[.int .i64 at_,.slice fo fl fc] 31)).alloc (.cells #[.slice none 0 0] 27))):=by unfold Hid;rw [c,h,g,b,a,f]
 unfold KS.v;clear hc hr hd hl hg k0 k1 k2 k3 k4 k5 z0 f z1 a z2 b z3 g z4 h z5 c kE ka kw xe xK xC xO k;go_enter Tryz.func19,Tryz.ntmps19;go_wp2_with (rw [← HW.out]);refine j.mono ?_;rintro r w' ⟨n,w1,rfl,⟨⟨rfl,hb,hk⟩,t⟩,rfl⟩;have y:W5.heap.size=w.heap.size+1+1+1+1+1+1:=HS.out;have kb:=aw w1 W5.heap.size (.int .i64 ((190:Nat):Int));have i:=hb.kept kb (by show ¬ w.heap.size+1+1+1+1+1=W5.heap.size;omega);have o:=aa ((hk.next kb (fun x hx e=>by omega)).next (aw (w1.setCell ⟨W5.heap.size,0,none⟩ (.int .i64 ((190:Nat):Int))) (w.heap.size+1+1+1+1+1) (.slice none 0 0)) (fun x hx e=>by omega));have z:=i.cell;have A:=i.free;have m:=aa i
 clear j hb hk t kb i y;generalize w1.setCell ⟨W5.heap.size,0,none⟩ (.int .i64 ((190:Nat):Int))=W9 at *;go_wp2_with fail;exact bodyPost_ret (v:=.tuple #[.slice none 0 0,.int .i64 ((190:Nat):Int)]) (by simp [results,Tryz.results19,go_sem,(m.out.set (.slice none 0 0)).cell]) rfl ⟨_,rfl,Row.nil _ _,o.out⟩

theorem uv:su:=fun w=>uw ow yf none 0 0 [] w (me w) l9 kD (Row.nil _ _) zD

theorem uj:sv:=fun w=>uk ow yf none 0 0 [] 0 none 0 0 w (me w) l9 kD (Row.nil _ _) zD

end Go.Proofs.YtkaojflnghfmcaaGreatDoor
