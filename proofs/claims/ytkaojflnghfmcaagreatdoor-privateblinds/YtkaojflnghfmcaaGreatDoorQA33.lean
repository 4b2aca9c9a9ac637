/- Put together of: Prw0 Prw8 WPrvPlain LPrivatePlain WPrvBlinds LPrivateBlinds. -/
import Derived.Test.YtkaojflnghfmcaaGreatDoorQA32

namespace Go.Proofs.YtkaojflnghfmcaaGreatDoor
set_option maxRecDepth 100000
set_option maxHeartbeats 4000000
open Go.RowKit

theorem vM (bK bC bO:Nat) (s:KS) (l:KL) (co:Option Addr) (cl cc:Nat) (cs:List Nat) (w:World) (hr:s.Rows w l) (hd:l.Digs) (hl:s.light) (hc:Row .u8 w (.slice co cl cc) cs) (hg:¬ KeyGood l.n l.d l.p l.q l.dp l.dq l.qi s.en) (xK:w.heap[bK]? = some (.cells #[.slice s.no s.nl s.nc,.int .u64 (s.en:Nat),.slice s.dO s.dl s.dc,.slice s.po s.pl s.pc,.slice s.qo s.ql s.qc,.slice s.dpo s.dpl s.dpc,.slice s.dqo s.dql s.dqc,.slice s.qio s.qil s.qic] 26 (0,0))) (xC:Box w bC (.slice co cl cc) 27) :
  Calls Tryz.prog 29 #[.pointer (some ⟨bK,0,none⟩),.pointer (some ⟨bC,0,none⟩),.pointer (some ⟨bO,0,none⟩)] w fun e w'=>e=.panicked [refusal 190]∧Kept af w w':=by
 obtain ⟨q0,q1,q2,q3,q4,q5,q6,q7⟩:=aE xK;have c0:=xC.cell;have J1:=oO s l co cl cc cs w hr hd hl hc hg;clear hr hd hl hc hg xK xC;go_enter Tryz.func29,Tryz.ntmps29;go_wp2_with fail;refine J1.mono ?_;rintro e w1 ⟨rfl,k1⟩;exact ⟨rfl,rfl,k1⟩

theorem vJ (bK bC bS bT bF bO:Nat) (s:KS) (l:KL) (co:Option Addr) (cl cc:Nat) (cs:List Nat) (w:World) (hr:s.Rows w l) (hd:l.Digs) (hl:s.light) (hc:Row .u8 w (.slice co cl cc) cs) (hg:¬ KeyGood l.n l.d l.p l.q l.dp l.dq l.qi s.en) (xK:w.heap[bK]? = some (.cells #[.slice s.no s.nl s.nc,.int .u64 (s.en:Nat),.slice s.dO s.dl s.dc,.slice s.po s.pl s.pc,.slice s.qo s.ql s.qc,.slice s.dpo s.dpl s.dpc,.slice s.dqo s.dql s.dqc,.slice s.qio s.qil s.qic] 26 (0,0))) (xC:Box w bC (.slice co cl cc) 27) :
  Calls Tryz.prog 49 #[.pointer (some ⟨bK,0,none⟩),.pointer (some ⟨bC,0,none⟩),.pointer (some ⟨bS,0,none⟩),.pointer (some ⟨bT,0,none⟩),.pointer (some ⟨bF,0,none⟩),.pointer (some ⟨bO,0,none⟩)] w fun e w'=>e=.panicked [refusal 190]∧Kept af w w':=by
 obtain ⟨q0,q1,q2,q3,q4,q5,q6,q7⟩:=aE xK;have c0:=xC.cell;have J1:=oO s l co cl cc cs w hr hd hl hc hg;clear hr hd hl hc hg xK xC;go_enter Tryz.func49,Tryz.ntmps49;go_wp2_with fail;refine J1.mono ?_;rintro e w1 ⟨rfl,k1⟩;exact ⟨rfl,rfl,k1⟩

theorem th (s:KS) (l:KL) (co:Option Addr) (cl cc:Nat) (cs:List Nat) (w:World) (hr:s.Rows w l) (hd:l.Digs) (hl:s.light) (hc:Row .u8 w (.slice co cl cc) cs) (hg:¬ KeyGood l.n l.d l.p l.q l.dp l.dq l.qi s.en) :
  Calls Tryz.prog 11 #[.agg s.v,.slice co cl cc] w fun q w'=>∃ v',q=.returned (.tuple #[v',.int .i64 ((190:Nat):Int)])∧Row .u8 w' v' []∧Kept af w w':=by
 have y:=eP;have h:∀ args w,(callFunc 29 args).run Tryz.prog w=.ok (.enter 29 args) w:=fun _ _=>by simp [go_sem]
 obtain ⟨W0,a⟩:∃ W,W=w.alloc (.cells #[.slice s.no s.nl s.nc,.int .u64 (s.en:Nat),.slice s.dO s.dl s.dc,.slice s.po s.pl s.pc,.slice s.qo s.ql s.qc,.slice s.dpo s.dpl s.dpc,.slice s.dqo s.dql s.dqc,.slice s.qio s.qil s.qic] 26):=⟨_,rfl⟩
 have k0:Kept af w W0:=by rw [a];exact (ah af w).alloc _
 obtain ⟨W1,b⟩:∃ W,W=W0.alloc (.cells #[.slice co cl cc] 27):=⟨_,rfl⟩
 have k1:Kept af W0 W1:=by rw [b];exact (ah af W0).alloc _
 obtain ⟨W2,c⟩:∃ W,W=W1.alloc (.cells #[.slice none 0 0] 27):=⟨_,rfl⟩
 have k2:Kept af W1 W2:=by rw [c];exact (ah af W1).alloc _
 have z0:W0.heap.size=w.heap.size+1:=by rw [a];simp
 have z1:W1.heap.size=w.heap.size+1+1:=by rw [b];simp [z0]
 have z2:W2.heap.size=w.heap.size+1+1+1:=by rw [c];simp [z1]
 have kE:=(ah af W2).alloc (.cells #[.int .i64 0] 32);have xe:Box (W2.alloc (.cells #[.int .i64 0] 32)) W2.heap.size (.int .i64 0) 32:=Box.new W2 (.int .i64 0) 32;have ka:=((k0.trans k1).trans k2)
 have xK:W0.heap[w.heap.size]? = some (.cells #[.slice s.no s.nl s.nc,.int .u64 (s.en:Nat),.slice s.dO s.dl s.dc,.slice s.po s.pl s.pc,.slice s.qo s.ql s.qc,.slice s.dpo s.dpl s.dpc,.slice s.dqo s.dql s.dqc,.slice s.qio s.qil s.qic] 26 (0,0)):=by rw [a];exact heap_alloc_new _ _
 have xC:Box W1 (w.heap.size+1) (.slice co cl cc) 27:=by rw [b,← z0];exact Box.new W0 _ _
 have xO:Box W2 (w.heap.size+1+1) (.slice none 0 0) 27:=by rw [c,← z1];exact Box.new W1 _ _
 have kw:=ka.trans kE;have g:=gG 29 _ W2 (fun n W'=>n=190∧Box W' (w.heap.size+1+1) (.slice none 0 0) 27∧Kept af w W') h ((vM (w.heap.size) (w.heap.size+1) (w.heap.size+1+1) s l co cl cc cs _ (hr.grew kw) hd hl (hc.grew kw) hg (aY xK ((k1.trans k2).trans kE)) (xC.grew (k2.trans kE))).mono (by
  rintro r w' ⟨rfl,hk⟩;exact ⟨xe.grew hk,.inr ⟨_,rfl,rfl,(xO.grew ((ah af W2).trans kE)).grew hk,kw.trans hk⟩⟩))
 have HS:=aa z2;have HW:Hid (W2=(((w.alloc (.cells #[.slice s.no s.nl s.nc,.int .u64 (s.en:Nat),.slice s.dO s.dl s.dc,.slice s.po s.pl s.pc,.slice s.qo s.ql s.qc,.slice s.dpo s.dpl s.dpc,.slice s.dqo s.dql s.dqc,.slice s.qio s.qil s.qic] 26)).alloc (.cells #[.slice co cl cc] 27)).alloc (.cells #[.slice none 0 0] 27))):=by unfold Hid;rw [c,b,a]
 unfold KS.v;clear hc hr hd hl hg k0 k1 k2 z0 a z1 b z2 c kE ka kw xe xK xC xO h;go_enter Tryz.func11,Tryz.ntmps11;go_wp2_with (rw [← HW.out]);refine g.mono ?_;rintro r w' ⟨n,w1,rfl,⟨⟨rfl,hb,hk⟩,k⟩,rfl⟩;have m:W2.heap.size=w.heap.size+1+1+1:=HS.out;have kb:=ar w1 W2.heap.size (.int .i64 ((190:Nat):Int));have f:=hb.kept kb (by show ¬ w.heap.size+1+1=W2.heap.size;omega);have j:=aa ((hk.next kb (fun x hx e=>by omega)).next (ar (w1.setCell ⟨W2.heap.size,0,none⟩ (.int .i64 ((190:Nat):Int))) (w.heap.size+1+1) (.slice none 0 0)) (fun x hx e=>by omega));have o:=f.cell;have t:=f.free;have i:=aa f;clear g hb hk k kb f m
 generalize w1.setCell ⟨W2.heap.size,0,none⟩ (.int .i64 ((190:Nat):Int))=W9 at *;go_wp2_with fail;exact bodyPost_ret (v:=.tuple #[.slice none 0 0,.int .i64 ((190:Nat):Int)]) (by simp [results,Tryz.results11,go_sem,(i.out.set (.slice none 0 0)).cell]) rfl ⟨_,rfl,Row.nil _ _,j.out⟩

theorem tg (s:KS) (l:KL) (co:Option Addr) (cl cc:Nat) (cs:List Nat) (j:Int) (fo:Option Addr) (fl fc:Nat) (w:World) (hr:s.Rows w l) (hd:l.Digs) (hl:s.light) (hc:Row .u8 w (.slice co cl cc) cs) (hg:¬ KeyGood l.n l.d l.p l.q l.dp l.dq l.qi s.en) :
  Calls Tryz.prog 19 #[.pointer none,.agg s.v,.slice co cl cc,.pointer none,.agg #[.int .i64 j,.slice fo fl fc]] w fun q w'=>∃ v',q=.returned (.tuple #[v',.int .i64 ((190:Nat):Int)])∧Row .u8 w' v' []∧Kept af w w':=by
 have C:=eP;have m:∀ args w,(callFunc 49 args).run Tryz.prog w=.ok (.enter 49 args) w:=fun _ _=>by simp [go_sem]
 obtain ⟨W0,f⟩:∃ W,W=w.alloc (.cells #[.pointer none] 53):=⟨_,rfl⟩
 have k0:Kept af w W0:=by rw [f];exact (ah af w).alloc _
 obtain ⟨W1,a⟩:∃ W,W=W0.alloc (.cells #[.slice s.no s.nl s.nc,.int .u64 (s.en:Nat),.slice s.dO s.dl s.dc,.slice s.po s.pl s.pc,.slice s.qo s.ql s.qc,.slice s.dpo s.dpl s.dpc,.slice s.dqo s.dql s.dqc,.slice s.qio s.qil s.qic] 26):=⟨_,rfl⟩
 have k1:Kept af W0 W1:=by rw [a];exact (ah af W0).alloc _
 obtain ⟨W2,b⟩:∃ W,W=W1.alloc (.cells #[.slice co cl cc] 27):=⟨_,rfl⟩
 have k2:Kept af W1 W2:=by rw [b];exact (ah af W1).alloc _
 obtain ⟨W3,g⟩:∃ W,W=W2.alloc (.cells #[.pointer none] 39):=⟨_,rfl⟩
 have k3:Kept af W2 W3:=by rw [g];exact (ah af W2).alloc _
 obtain ⟨W4,h⟩:∃ W,W=W3.alloc (.cells #[.int .i64 j,.slice fo fl fc] 31):=⟨_,rfl⟩
 have k4:Kept af W3 W4:=by rw [h];exact (ah af W3).alloc _
 obtain ⟨W5,c⟩:∃ W,W=W4.alloc (.cells #[.slice none 0 0] 27):=⟨_,rfl⟩
 have k5:Kept af W4 W5:=by rw [c];exact (ah af W4).alloc _
 have z0:W0.heap.size=w.heap.size+1:=by rw [f];simp
 have z1:W1.heap.size=w.heap.size+1+1:=by rw [a];simp [z0]
 have z2:W2.heap.size=w.heap.size+1+1+1:=by rw [b];simp [z1]
 have z3:W3.heap.size=w.heap.size+1+1+1+1:=by rw [g];simp [z2]
 have z4:W4.heap.size=w.heap.size+1+1+1+1+1:=by rw [h];simp [z3]
 have z5:W5.heap.size=w.heap.size+1+1+1+1+1+1:=by rw [c];simp [z4]
 have kE:=(ah af W5).alloc (.cells #[.int .i64 0] 32);have xe:Box (W5.alloc (.cells #[.int .i64 0] 32)) W5.heap.size (.int .i64 0) 32:=Box.new W5 (.int .i64 0) 32;have ka:=(((((k0.trans k1).trans k2).trans k3).trans k4).trans k5)
 have xK:W1.heap[w.heap.size+1]? = some (.cells #[.slice s.no s.nl s.nc,.int .u64 (s.en:Nat),.slice s.dO s.dl s.dc,.slice s.po s.pl s.pc,.slice s.qo s.ql s.qc,.slice s.dpo s.dpl s.dpc,.slice s.dqo s.dql s.dqc,.slice s.qio s.qil s.qic] 26 (0,0)):=by rw [a,← z0];exact heap_alloc_new _ _
 have xC:Box W2 (w.heap.size+1+1) (.slice co cl cc) 27:=by rw [b,← z1];exact Box.new W1 _ _
 have xO:Box W5 (w.heap.size+1+1+1+1+1) (.slice none 0 0) 27:=by rw [c,← z4];exact Box.new W4 _ _
 have kw:=ka.trans kE;have k:=gG 49 _ W5 (fun n W'=>n=190∧Box W' (w.heap.size+1+1+1+1+1) (.slice none 0 0) 27∧Kept af w W') m ((vJ (w.heap.size+1) (w.heap.size+1+1) (w.heap.size+1+1+1) w.heap.size (w.heap.size+1+1+1+1) (w.heap.size+1+1+1+1+1) s l co cl cc cs _ (hr.grew kw) hd hl (hc.grew kw) hg (aY xK ((((k2.trans k3).trans k4).trans k5).trans kE)) (xC.grew (((k3.trans k4).trans k5).trans kE))).mono (by
  rintro r w' ⟨rfl,hk⟩;exact ⟨xe.grew hk,.inr ⟨_,rfl,rfl,(xO.grew ((ah af W5).trans kE)).grew hk,kw.trans hk⟩⟩))
 have HS:=aa z5;have HW:Hid (W5=((((((w.alloc (.cells #[.pointer none] 53)).alloc (.cells #[.slice s.no s.nl s.nc,.int .u64 (s.en:Nat),.slice s.dO s.dl s.dc,.slice s.po s.pl s.pc,.slice s.qo s.ql s.qc,.slice s.dpo s.dpl s.dpc,.slice s.dqo s.dql s.dqc,.slice s.qio s.qil s.qic] 26)).alloc (.cells #[.slice co cl cc] 27)).alloc (.cells #[.pointer none] 39)).alloc (.cells #[.int .i64 j,.slice fo fl fc] 31)).alloc (.cells #[.slice none 0 0] 27))):=by unfold Hid;rw [c,h,g,b,a,f]
 unfold KS.v;clear hc hr hd hl hg k0 k1 k2 k3 k4 k5 z0 f z1 a z2 b z3 g z4 h z5 c kE ka kw xe xK xC xO m;go_enter Tryz.func19,Tryz.ntmps19;go_wp2_with (rw [← HW.out]);refine k.mono ?_;rintro r w' ⟨n,w1,rfl,⟨⟨rfl,hb,hk⟩,y⟩,rfl⟩;have z:W5.heap.size=w.heap.size+1+1+1+1+1+1:=HS.out;have kb:=ar w1 W5.heap.size (.int .i64 ((190:Nat):Int));have i:=hb.kept kb (by show ¬ w.heap.size+1+1+1+1+1=W5.heap.size;omega);have t:=aa ((hk.next kb (fun x hx e=>by omega)).next (ar (w1.setCell ⟨W5.heap.size,0,none⟩ (.int .i64 ((190:Nat):Int))) (w.heap.size+1+1+1+1+1) (.slice none 0 0)) (fun x hx e=>by omega));have A:=i.cell;have B:=i.free;have o:=aa i
 clear k hb hk y kb i z;generalize w1.setCell ⟨W5.heap.size,0,none⟩ (.int .i64 ((190:Nat):Int))=W9 at *;go_wp2_with fail;exact bodyPost_ret (v:=.tuple #[.slice none 0 0,.int .i64 ((190:Nat):Int)]) (by simp [results,Tryz.results19,go_sem,(o.out.set (.slice none 0 0)).cell]) rfl ⟨_,rfl,Row.nil _ _,t.out⟩

theorem nE:pa:=fun w=>th nj vE none 0 0 [] w (kO w) kN jL (Row.nil _ _) yf

theorem nC:pd:=fun w=>tg nj vE none 0 0 [] 0 none 0 0 w (kO w) kN jL (Row.nil _ _) yf

def yu (bO:Nat) (l:KL) (e:Nat) (cs:List Nat) (w:World) (r:Ending) (w':World):Prop:=∃ E RL,PlaR l e cs E RL ∧
 ((E=0∧r=.returned (.tuple #[])∧∃ v,Box w' bO v 27∧Row .u8 w' v RL∧Fresh w v∧Kept (fun x=>x=bO) w w')∨(E≠0∧r=.panicked [refusal (E:Nat)]∧RL=[]∧Kept af w w'))

theorem zE (bK bC bO:Nat) (s:KS) (l:KL) (co:Option Addr) (cl cc:Nat) (cs:List Nat) (w:World) (hr:s.Rows w l) (hd:l.Digs) (hl:s.light) (hc:Row .u8 w (.slice co cl cc) cs) (g:Digs cs 256) (xK:w.heap[bK]? = some (.cells #[.slice s.no s.nl s.nc,.int .u64 (s.en:Nat),.slice s.dO s.dl s.dc,.slice s.po s.pl s.pc,.slice s.qo s.ql s.qc,.slice s.dpo s.dpl s.dpc,.slice s.dqo s.dql s.dqc,.slice s.qio s.qil s.qic] 26 (0,0))) (xC:Box w bC (.slice co cl cc) 27) (xO:Box w bO (.slice none 0 0) 27) :
  Calls Tryz.prog 29 #[.pointer (some ⟨bK,0,none⟩),.pointer (some ⟨bC,0,none⟩),.pointer (some ⟨bO,0,none⟩)] w fun r w'=>yu bO l s.en cs w r w':=by
 obtain ⟨_,_,_,e1,c,-,-,-,-⟩:=hc.open;cases e1
 obtain ⟨q0,q1,q2,q3,q4,q5,q6,q7⟩:=aE xK;have c0:=xC.cell;by_cases hg:KeyGood l.n l.d l.p l.q l.dp l.dq l.qi s.en
 case neg=>
  have J1:=oO s l co cl cc cs w hr hd hl hc hg;have HP:PlaR l s.en cs 190 []:=⟨.inl ⟨rfl,hg⟩,by rw [if_neg (by decide)]⟩
  clear hr hd hl hc g xK xC xO hg c;go_enter Tryz.func29,Tryz.ntmps29;go_wp2_with fail;refine J1.mono ?_;rintro e w1 ⟨rfl,k1⟩;exact ⟨rfl,190,[],HP,.inr ⟨by decide,rfl,rfl,k1⟩⟩
 by_cases hlen:cs.length=ef (val l.n)
 case neg=>
  have J1:=zA s l co cl cc cs w hr hd hl hc hg hlen;have HP:PlaR l s.en cs 1 []:=⟨.inr ⟨hg,by unfold gr;rw [if_neg (fun h=>hlen h.1)]⟩,by rw [if_neg (by decide)]⟩
  clear hr hd hl hc g xK xC xO hg c hlen;go_enter Tryz.func29,Tryz.ntmps29;go_wp2_with fail;refine J1.mono ?_;rintro e w1 ⟨rfl,k1⟩;exact ⟨rfl,1,[],HP,.inr ⟨by decide,rfl,rfl,k1⟩⟩
 by_cases hlt:bev cs<val l.n
 case neg=>
  have J1:=zB s l co cl cc cs w hr hd hl hc g hg hlen hlt;have HP:PlaR l s.en cs 1 []:=⟨.inr ⟨hg,by unfold gr;rw [if_neg (fun h=>hlt h.2)]⟩,by rw [if_neg (by decide)]⟩
  clear hr hd hl hc g xK xC xO hg c hlen hlt;go_enter Tryz.func29,Tryz.ntmps29;go_wp2_with fail;refine J1.mono ?_;rintro e w1 ⟨rfl,k1⟩;exact ⟨rfl,1,[],HP,.inr ⟨by decide,rfl,rfl,k1⟩⟩
 have J1:=zC s l co cl cc cs w hr hd hl hc g hg hlen hlt;obtain ⟨_,_,_,e1,j,-,-,-,-⟩:=hr.n.open;cases e1
 obtain ⟨I,z,-,-,-,-,v,-,-⟩:=lC hg j.out hl.1;obtain ⟨N,hN⟩:∃ N,N=val l.n:=⟨_,rfl⟩
 rw [← hN] at z v hlen hlt;obtain ⟨X,hX⟩:∃ X,X=bev cs:=⟨_,rfl⟩
 rw [← hX] at hlt J1;have HP:Hid (PlaR l s.en cs 0 (bes (X^val l.d%N) cl cl)):=⟨.inr ⟨hg,by unfold gr;rw [if_pos ⟨by rw [← hN];exact hlen,by rw [← hN,← hX];exact hlt⟩]⟩,by rw [if_pos rfl,hX,hN,c.out]⟩
 have T:cl≤8*s.nl:=by
  have h9:au N≤64*s.nl:=(aA _ _).2 (by rw [Nat.pow_mul,hN,← j.out];exact ap (by omega) hd.n);have h8:=c.out;rw [hlen] at h8;unfold ef at h8;omega
 have JM:=aa fun W (k:Kept af w W)=>yk none s.no s.nl s.nc l.n N s.nl W trivial (hr.n.grew k) hd.n (by omega) hN v z
 have JD:=aa fun W (k:Kept af w W)=>hr.d.grew k
 have L:=aa hd.d;have U:s.dl≤300:=by
  obtain ⟨_,_,_,e1,R,-,-,-,-⟩:=hr.d.open;cases e1
  obtain ⟨-,d,u,-,-,-,-,Z,V,-⟩:=hg;have h9:=R.out;rw [V,ag,← Z,j.out] at h9;omega
 have F:=aa xO;have P:=aa xC;have Q:=aa xK;clear hr hd hl hc g xK xC xO hg c hlen hN hX j v z;go_enter Tryz.func29,Tryz.ntmps29;go_wp2_with fail;refine J1.mono ?_;rintro e w1 ⟨vo,vc,rfl,r1,f1,k1⟩;have B:=aa k1;have H:=aY Q.out k1;have E:=aa r1;clear J1 k1 r1 f1 q0 q1 q2 q3 q4 q5 q6 q7 c0;go_wp2_with fail;refine wp_region_held_drew (S:=fun w'=>w'.heap[bK]? = some (.cells #[.slice s.no s.nl s.nc,.int .u64 (s.en:Nat),.slice s.dO s.dl s.dc,.slice s.po s.pl s.pc,.slice s.qo s.ql s.qc,.slice s.dpo s.dpl s.dpc,.slice s.dqo s.dql s.dqc,.slice s.qio s.qil s.qic] 26 (0,0))) (by kernel_rfl) H (fun hS=>?_)
 refine xX (fun _ _ d _ _ h=>by cases d <;> exact h) fun Q1 b J=>?_
 have KD:=B.out.trans (ah af w1).drew;refine dF b 0 (some 8) (.pointer (some ⟨bK,0,none⟩)) hS ?_;simp only [Act.put,lsA,lsS,lsZ];refine dF b 1 (some 9) (.slice s.no s.nl s.nc) hS ?_ (y:=.inl ⟨by rfl,fun w h=>by simp [execOp,go_sem,(aE h).1]⟩);simp only [Act.put,lsA,lsS,lsZ];refine dF b 6 (some 14) (.slice vo s.nl vc) hS ?_;simp only [Act.put,lsA,lsS,lsZ];refine dF b 7 (some 15) (.pointer (some ⟨bK,2,none⟩)) hS ?_;simp only [Act.put,lsA,lsS,lsZ];refine dF b 8 (some 16) (.slice s.dO s.dl s.dc) hS ?_ (y:=.inl ⟨by rfl,fun w h=>by simp [execOp,go_sem,(aE h).2.2.1]⟩);simp only [Act.put,lsA,lsS,lsZ]
 refine aZ 2 (some 10) 34 [.slice s.no s.nl s.nc] (JM.out _ KD) ?_;rintro r w2 ⟨ma,mb,K,mm,mr,rfl,hM,-,k2⟩;have G:=KD.trans k2;have i:=aY hS k2;refine .inl ⟨_,rfl,i,?_⟩;simp only [Act.put,lsA,lsS,lsZ];refine dF b 3 (some 11) (.agg #[.slice ma s.nl mm,.int .u64 (K:Nat),.slice mb s.nl mr]) i ?_;simp only [Act.put,lsA,lsS,lsZ];refine dF b 4 (some 12) (.int .i64 0) i ?_;simp only [Act.put,lsA,lsS,lsZ];refine aZ 5 (some 13) 33 [.agg #[.slice ma s.nl mm,.int .u64 (K:Nat),.slice mb s.nl mr],.int .i64 0] (vR ma mb s.nl mm K s.nl mr _) ?_;rintro r w3 ⟨rfl,k3⟩;have m:=G.trans k3;have t:=aY i k3;have a:=hM.grew k3
 have r3:=E.out.grew (((ah af w1).drew.trans k2).trans k3);have vX:val (digs X s.nl)=X:=bi (Nat.lt_trans hlt a.facts.2.2.2);have c4:=zJ ma mb vo s.dO s.nl s.nl K mm mr s.nl vc s.dl s.dc _ _ (digs X s.nl) l.d 0 (.inl ⟨rfl,⟨a.m8.ok,rfl,by rw [vX,a.ev];exact hlt⟩,U⟩) _ rfl w3 a.m8.hm.1 a.m8.hr.1 r3 (JD.out _ m) a.m8.hmd a.m8.hrd (ai (by omega) _ _) L.out a.m8.hK (by omega);rw [if_pos rfl,vX,a.ev] at c4;refine .inl ⟨_,rfl,t,?_⟩;simp only [Act.put,lsA,lsS,lsZ];refine aZ 9 (some 17) 32 [.agg #[.slice ma s.nl mm,.int .u64 (K:Nat),.slice mb s.nl mr],.slice vo s.nl vc,.slice s.dO s.dl s.dc] (c4) ?_;rintro r w4 ⟨v4,rfl,r4,k4⟩
 have n4:NumT w4 none v4 s.nl (X^val l.d%N):=⟨RowT.none r4,Nat.lt_trans (Nat.mod_lt _ (by have:=a.facts.2.2.1;omega)) a.facts.2.2.2⟩
 obtain ⟨zo,zc,rfl⟩:=n4.shape;have o:=m.trans k4;have f:=aY t k4;refine .inl ⟨_,rfl,f,?_⟩;simp only [Act.put,lsA,lsS,lsZ];refine dF b 10 (some 18) (.slice zo s.nl zc) f ?_;simp only [Act.put,lsA,lsS,lsZ];refine dF b 11 (some 19) (.int .i64 0) f ?_;simp only [Act.put,lsA,lsS,lsZ];refine aZ 12 (some 20) 31 [.slice zo s.nl zc,.int .i64 0] (lT zo s.nl zc _) ?_;rintro r wz ⟨rfl,ab⟩;obtain rfl:=ab.symm;refine .inl ⟨_,rfl,f,?_⟩;simp only [Act.put,lsA,lsS,lsZ];refine dF b 13 (some 4) (.slice zo s.nl zc) f ?_;simp only [Act.put,lsA,lsS,lsZ];refine wpAnyH_done (by kernel_rfl) ?_ _;refine J.out _ _ ?_;have c5:=A5 zo s.nl zc _ cl w4 r4 T (by omega)
 have b4:=(P.out.grew o).cell;have C:=aa o;clear hS i t f k2 k3 k4 KD G m o hM a r3 c4 r4 n4 b J JM JD E B H vX;go_wp2_with fail;refine c5.mono ?_;rintro e w5 ⟨yo,yn,yc,rfl,r5,f5,k5⟩;have D:=aa (C.out.trans k5);have xo:=F.out.grew D.out;have ac:=xo.cell;have ad:=xo.free;have O:=aa xo;have M:=aa r5;have A:=aa (Fresh.after (w:=w) f5 C.out);clear c5 r5 f5 k5 b4 xo;go_wp2_with fail;go_end0
 have Y:∀ x,(Value.slice yo yn yc).ownBlock=some x→¬ x=bO:=fun x hx e=>by have h1:=A.out x hx;have h2:=F.out.lt;omega
 exact ⟨0,_,HP.out,.inl ⟨rfl,rfl,_,O.out.set _,M.out.kept (ar _ _ _) Y,A.out,D.out.any.trans (ar _ _ _)⟩⟩

theorem vO:Ai:=by
 intro s l co cl cc cs w he hr hd hl hc i G;have L:=eP;have j:∀ args w,(callFunc 29 args).run Tryz.prog w=.ok (.enter 29 args) w:=fun _ _=>by simp [go_sem]
 obtain ⟨W0,c⟩:∃ W0,W0=w.alloc (.cells #[.slice s.no s.nl s.nc,.int .u64 (s.en:Nat),.slice s.dO s.dl s.dc,.slice s.po s.pl s.pc,.slice s.qo s.ql s.qc,.slice s.dpo s.dpl s.dpc,.slice s.dqo s.dql s.dqc,.slice s.qio s.qil s.qic] 26):=⟨_,rfl⟩
 have t:Kept af w W0:=by rw [c];exact (ah af w).alloc _
 have y:W0.heap[w.heap.size]? = some (.cells #[.slice s.no s.nl s.nc,.int .u64 (s.en:Nat),.slice s.dO s.dl s.dc,.slice s.po s.pl s.pc,.slice s.qo s.ql s.qc,.slice s.dpo s.dpl s.dpc,.slice s.dqo s.dql s.dqc,.slice s.qio s.qil s.qic] 26 (0,0)):=by rw [c];exact heap_alloc_new _ _
 have q:W0.heap.size=w.heap.size+1:=by rw [c];simp
 have h:=rO W0 (.slice co cl cc) (.slice none 0 0) 27 27;obtain ⟨W,hW⟩:∃ W,W=(W0.alloc (.cells #[.slice co cl cc] 27)).alloc (.cells #[.slice none 0 0] 27):=⟨_,rfl⟩
 rw [← hW,q] at h;obtain ⟨f,x1,x2,hs⟩:=h;have k0:=t.trans f;have kE:=(ah af W).alloc (.cells #[.int .i64 0] 32);have xe:Box (W.alloc (.cells #[.int .i64 0] 32)) W.heap.size (.int .i64 0) 32:=Box.new W (.int .i64 0) 32;have k1:=k0.trans kE;have a:=zE w.heap.size (w.heap.size+1) (w.heap.size+1+1) s l co cl cc cs _ (hr.grew k1) hd hl (hc.grew k1) i (aY y (f.trans kE)) (x1.grew kE) (x2.grew kE);have g:=gG 29 _ W (fun n W'=>∃ E RL,n=(E:Nat)∧PlaR l s.en cs E RL∧∃ v,Box W' (w.heap.size+1+1) v 27∧Row .u8 W' v RL∧Hid (∀ x,v.ownBlock=some x→¬ x=W.heap.size)∧Fresh W v∧Kept af w W') j (a.mono (by
  rintro r w' ⟨E,RL,hp,⟨h0,rfl,v,hb,hr,hf,hk⟩ | ⟨h0,rfl,rfl,hk⟩⟩
  ·exact ⟨xe.kept hk (by have:=x2.lt;omega),.inl ⟨rfl,E,RL,by rw [h0];rfl,hp,v,hb,hr,(fun x hx e=>by have h1:=hf x hx;rw [World.size_alloc] at h1;omega),hf.after kE,k1.next hk (fun x hx e=>by omega)⟩⟩
  ·exact ⟨xe.grew hk,.inr ⟨_,rfl,E,[],rfl,hp,.slice none 0 0,(x2.grew kE).grew hk,Row.nil _ _,(fun b hb=>by simp [Value.ownBlock] at hb),fun b hb=>by simp [Value.ownBlock] at hb,k1.trans hk⟩⟩))
 have HW:Hid (W=((w.alloc (.cells #[.slice s.no s.nl s.nc,.int .u64 (s.en:Nat),.slice s.dO s.dl s.dc,.slice s.po s.pl s.pc,.slice s.qo s.ql s.qc,.slice s.dpo s.dpl s.dpc,.slice s.dqo s.dql s.dqc,.slice s.qio s.qil s.qic] 26)).alloc (.cells #[.slice co cl cc] 27)).alloc (.cells #[.slice none 0 0] 27)):=by unfold Hid;rw [hW,c]
 have HS:=aa hs;unfold KS.v;clear hc hr hd i hl G he k0 t f kE k1 x1 x2 xe hs q hW c y j a;go_enter Tryz.func11,Tryz.ntmps11;go_wp2_with (rw [← HW.out]);refine g.mono ?_;rintro r w' ⟨n,w1,rfl,⟨⟨E,RL,rfl,hp,v,hb,hr,k,hf,hk⟩,F⟩,rfl⟩;obtain ⟨vo,vn,vc,rfl,-⟩:=hr.open;have H:W.heap.size=w.heap.size+1+1+1:=HS.out;have kb:=ar w1 W.heap.size (.int .i64 (E:Nat));have o:w.heap.size+1+1≠W.heap.size:=by omega
 have d:=hb.kept kb o;have p:=hr.kept kb (fun x hx e=>k.out x hx e);have m:=hk.next kb (fun x hx e=>by omega)
 have I:=d.cell;have J:=d.free;have z:=aa d;have C:=aa hp;have D:=aa (p.kept (ar (w1.setCell ⟨W.heap.size,0,none⟩ (.int .i64 (E:Nat))) (w.heap.size+1+1) (.slice vo vn vc)) (fun x hx e=>by have:=hf x hx;omega));have B:=aa (m.next (ar (w1.setCell ⟨W.heap.size,0,none⟩ (.int .i64 (E:Nat))) (w.heap.size+1+1) (.slice vo vn vc)) (fun x hx e=>by omega));have A:Hid (∀ b,(Value.slice vo vn vc).ownBlock=some b→w.heap.size≤b):=fun b hx=>by have:=hf b hx;omega
 clear g hb hr hf hk F kb o d p m k hp H;generalize w1.setCell ⟨W.heap.size,0,none⟩ (.int .i64 (E:Nat))=W2 at *;go_wp2_with fail;exact bodyPost_ret (v:=.tuple #[.slice vo vn vc,.int .i64 (E:Nat)]) (by simp [results,Tryz.results11,go_sem,(z.out.set (.slice vo vn vc)).cell]) rfl ⟨_,E,rfl,RL,C.out,⟨D.out,A.out⟩,B.out⟩

theorem ke (x:pd) (y:pa) (hP:Ai) (hB:uk) (s:KS) (l:KL) (u:Value) (cs:List Nat) (w:World) (hr:s.Rows w l) (hu:Row .u8 w u cs) (hd:l.Digs) (dc:Digs cs 256) (he:s.en<18446744073709551616) :
  Calls Tryz.prog 3 #[.agg s.v,u] w fun e w'=>e=.returned (.bool true)∧Below w.heap.size w w':=by
 obtain ⟨co,cl,cc,rfl,B,_,_,_,_⟩:=hu.open;obtain ⟨W0,c⟩:∃ W0,W0=w.alloc (.cells s.v 26):=⟨_,rfl⟩
 have k0:Kept af w W0:=by rw [c];exact (ah af w).alloc _
 have n:W0.heap[w.heap.size]? = some (.cells s.v 26 (0,0)):=by rw [c];exact heap_alloc_new _ _
 have JC:Hid (∀ W,Kept af W0 W→W.cell? ⟨w.heap.size,0,none⟩=some (.slice s.no s.nl s.nc)∧W.cell? ⟨w.heap.size,1,none⟩=some (.int .u64 ((s.en:Nat):Int))∧W.cell? ⟨w.heap.size,2,none⟩=some (.slice s.dO s.dl s.dc)∧W.cell? ⟨w.heap.size,3,none⟩=some (.slice s.po s.pl s.pc)∧W.cell? ⟨w.heap.size,4,none⟩=some (.slice s.qo s.ql s.qc)∧W.cell? ⟨w.heap.size,5,none⟩=some (.slice s.dpo s.dpl s.dpc)∧W.cell? ⟨w.heap.size,6,none⟩=some (.slice s.dqo s.dql s.dqc)∧W.cell? ⟨w.heap.size,7,none⟩=some (.slice s.qio s.qil s.qic)):=fun W k=>aE ((k.block _ (lt_of_block n) (fun f=>f)).trans n)
 have JA:=mM x y hB W0;have JF:=aa fun W R hR=>yG s co none none cl cc 0 0 0 0 0 R hR W
 have JL:=aa fun W (k:Kept af W0 W) (hl:s.light) (hc:cl≤10000)=>hP s l co cl cc cs W he (hr.grew (k0.trans k)) hd hl (hu.grew (k0.trans k)) dc hc
 have JR:=aa fun W (k:Kept af W0 W) (hl:s.light) (hc:cl≤10000) E RL h=>vY s l co cl cc cs W he (hr.grew (k0.trans k)) hd hl (hu.grew (k0.trans k)) dc hc E RL h
 have b:=aa c;have q:=aa k0;clear hr hu hd dc he B c k0 n x y hP hB;by_cases hf:s.few∧s.nl≤9∧cl≤200∧(0:Nat)≤500∧(0:Nat)≤20
 ·have t:=aa hf.1.light;have o:Hid (cl≤200):=hf.2.2.1;have J1:=fun W=>JF.out W true (iff_of_true rfl hf)
  clear hf JF;unfold KS.v at b J1 JL JR ⊢;go_enter Tryz.func3,Tryz.ntmps3;go_wp2_with (rw [← b.out]);refine JA.mono ?_;rintro r w1 ⟨rfl,k1⟩;obtain ⟨c0,c1,c2,c3,c4,c5,c6,c7⟩:=JC.out w1 k1;have d:=aa k1;clear JA k1;go_wp2_with fail;refine (J1 w1).mono ?_;rintro r w2 ⟨rfl,k2⟩;have a:=aa (d.out.trans k2);obtain ⟨d0,d1,d2,d3,d4,d5,d6,d7⟩:=JC.out w2 a.out;have J2:=JL.out w2 a.out t.out (by have:=o.out;omega);clear J1 k2 c0 c1 c2 c3 c4 c5 c6 c7;go_wp2_with fail;refine J2.mono ?_;rintro r w3 ⟨v3,E,rfl,RL,i,⟨j,_⟩,k3⟩;obtain ⟨o3,n3,e3,rfl,_⟩:=j.open;have g:=aa (a.out.trans k3);obtain ⟨f0,f1,f2,f3,f4,f5,f6,f7⟩:=JC.out w3 g.out
  have J3:=JR.out w3 g.out t.out (by have:=o.out;omega) E RL i;have A:=aa j;have p:=aa i.digs;clear J2 k3 j i d0 d1 d2 d3 d4 d5 d6 d7;go_wp2_with fail;refine J3.mono ?_;rintro r w4 ⟨v4,rfl,m,_,k4⟩;obtain ⟨o4,n4,e4,rfl,_⟩:=m.open;have JM:=vS _ _ RL RL w4 (A.out.grew k4) m p.out p.out;rw [aU rfl] at JM;have z:=aa (q.out.trans (g.out.trans k4));clear J3 k4 m f0 f1 f2 f3 f4 f5 f6 f7;go_wp2_with fail;refine JM.mono ?_;rintro r w5 ⟨rfl,rfl⟩;clear JM;go_wp2_with fail;go_ret;exact ⟨by first | rfl | simp,dr z.out (leR _)⟩
 ·have J1:=fun W=>JF.out W false (iff_of_false (by decide) hf)
  clear hf JF JL JR;unfold KS.v at b J1 ⊢;go_enter Tryz.func3,Tryz.ntmps3;go_wp2_with (rw [← b.out]);refine JA.mono ?_;rintro r w1 ⟨rfl,k1⟩;obtain ⟨c0,c1,c2,c3,c4,c5,c6,c7⟩:=JC.out w1 k1;have d:=aa k1;clear JA k1;go_wp2_with fail;refine (J1 w1).mono ?_;rintro r w2 ⟨rfl,k2⟩;have a:=aa (q.out.trans (d.out.trans k2));clear J1 k2 c0 c1 c2 c3 c4 c5 c6 c7;go_wp2_with fail;go_ret;exact ⟨rfl,dr a.out (leR _)⟩

theorem walkPrivatePlain (s:KS) (l:KL) (u:Value) (cs:List Nat) (w:World) (hr:s.Rows w l) (hu:Row .u8 w u cs) (hd:l.Digs) (dc:Digs cs 256) (he:s.en<18446744073709551616) (_:NoTab w) :
  Calls Tryz.prog 3 #[.agg s.v,u] w fun e w'=>e=.returned (.bool true)∧Below w.heap.size w w':=
 ke nC nE vO pE s l u cs w hr hu hd dc he

theorem jZ (O:pd) (P:pa) (hB:uk) (u:Value) (bs:List Nat) (v:Value) (ns:List Nat) (w:World) (hu:Row .u8 w u bs) (hv:Row .u64 w v ns) (db:Digs bs 256) (dn:Digs ns) :
  Calls Tryz.prog 4 #[u,v] w fun e w'=>e=.returned (.bool true)∧Below w.heap.size w w':=by
 obtain ⟨uo,un,uc,rfl,H,_⟩:=hu.open;obtain ⟨ao,L,U,rfl,hL,_⟩:=hv.open;obtain ⟨r1,r2,r3,r4,M⟩:∃ r1 r2 r3 r4,j7 ns bs=(r1,r2,r3,r4):=⟨_,_,_,_,rfl⟩
 have JA:=mM O P hB w;have Q:=aa H.out;by_cases hb:un≤500
 ·have R:Hid (un≤500):=hb;have g5:¬ (un:Int) > 500:=by omega
  have S:¬ (500:Int)<(un:Int):=by omega
  have d5:decide ((500:Int)<(un:Int))=false:=aI S;by_cases hlen:L≤9∨L=301∨L=131
  ·have HB:=aa fun p B W (k:Kept af w W) hs hB'=>hB p B bs ns ao L U r1 r2 r3 r4 W M hs hB' db (by rw [H.out];omega) (hv.grew k) dn (by omega)
   have HR:=aa fun b B W (k:Kept af w W) hs hB'=>tm b B bs ns ao L U r1 r2 r3 r4 M W hs hB' db (by rw [H.out];omega) (hv.grew k) dn (by omega)
   have HU:=aa hu;clear hu hv db dn H hL O P hB M hb;rcases hlen with h9 | rfl | rfl
   ·have g9:¬ (L:Int) > 9:=by omega
    have T:¬ (9:Int)<(L:Int):=by omega
    have d9:decide ((9:Int)<(L:Int))=false:=aI T;clear h9;go_enter Tryz.func4,Tryz.ntmps4;go_wp2_with fail;refine JA.mono ?_;rintro e w1 ⟨rfl,k1⟩;have l:=aa k1;have J2:=ue _ _ w1 (HU.out.grew l.out) (by have:=Q.out;have:=R.out;omega);clear JA k1;go_wp2_with fail;refine J2.mono ?_;rintro e w3 ⟨g,rfl,hg,E,k3⟩;have m:=aa (l.out.trans k3);obtain ⟨W4,h⟩:∃ W4,W4=w3.alloc (.cells #[.slice uo un uc] 43):=⟨_,rfl⟩
    have k4:Kept af w3 W4:=by rw [h];exact (ah af w3).alloc _
    have C:ScrAt W4 w3.heap.size (w3.heap.size+1) bs:=by rw [h];exact oR (HU.out.grew m.out)
    have j:W4.heap.size=w3.heap.size+1:=by rw [h];simp
    have t:=aa (m.out.trans k4);have s:=E.grew k4;have I:=aa h;have J3:=HB.out (some ⟨g,0,none⟩) w3.heap.size W4 t.out s (by omega);have HG:Hid (w.heap.size≤g∧w.heap.size≤w3.heap.size):=⟨Nat.le_trans l.out.size hg,m.out.size⟩
    have z:=aa s;have x:=aa C;have o:=aa j;clear J2 k3 k4 E s C h j;go_wp2_with (rw [← I.out]);refine J3.mono ?_;rintro e w5 ⟨u5,rfl,⟨a,_⟩,F,k5⟩;have q:=x.out.other z.out k5;have K5:Hid (Kept af w w5):=t.out.next k5 (fun y hy f=>by have h1:=ix f;have h2:=HG.out;omega)
    have J4:=HR.out w3.heap.size (w3.heap.size+1) w5 K5.out q (by have h1:=k5.size;have h2:=o.out;omega);obtain ⟨vo,vn,vc,rfl,_⟩:=a.open;have c:=aa a;have A:=aa F;have n:=aa q;clear J3 a F q k5;go_wp2_with fail;refine J4.mono ?_;rintro e w6 ⟨u6,rfl,d,_,J,k6⟩;have a:=c.out.kept' k6 (fun N y hy e=>gM n.out c.out N y hy e);obtain ⟨zo,zn,zc,rfl,_⟩:=d.open;have G:=A.out.plain n.out k6;have K6:Hid (Kept af w w6):=K5.out.next k6 (fun y hy f=>by have f':y=w3.heap.size:=f;have h2:=HG.out;omega)
    have JL:=aa fun nq=>oY (some ⟨g,0,none⟩) w3.heap.size r4 (w6.drewN nq) (G.grew ((ah _ _).drewN nq))
    have JS:=aa fun nq=>gY _ _ _ _ (w6.drewN nq) (a.grew ((ah _ _).drewN nq)) (d.grew ((ah _ _).drewN nq))
    rw [aU rfl] at JS;obtain ⟨rv,r,_⟩:=J;have cr:=r.cell;obtain ⟨ro,rn,V,rfl,D,_⟩:=r.2.1.open;have i:=D.out;rw [i] at JL;clear J4 a d G r D i k6 A n z x c;go_wp2_with fail;go_quiet (first
     | (go_at_call 18;exact Calls.quiet_of (JL.out _))
     | (go_at_call 17;exact Calls.quiet_of (JS.out _)))
    go_wp2_with fail;go_ret;exact ⟨by first | rfl | simp,dr (K6.out.drewN _) (leR _)⟩
   ·go_enter Tryz.func4,Tryz.ntmps4;go_wp2_with fail;refine JA.mono ?_;rintro e w1 ⟨rfl,k1⟩;have l:=aa k1;have J2:=ue _ _ w1 (HU.out.grew l.out) (by have:=Q.out;have:=R.out;omega);clear JA k1;go_wp2_with fail;refine J2.mono ?_;rintro e w3 ⟨g,rfl,hg,E,k3⟩;have m:=aa (l.out.trans k3);obtain ⟨W4,h⟩:∃ W4,W4=w3.alloc (.cells #[.slice uo un uc] 43):=⟨_,rfl⟩
    have k4:Kept af w3 W4:=by rw [h];exact (ah af w3).alloc _
    have C:ScrAt W4 w3.heap.size (w3.heap.size+1) bs:=by rw [h];exact oR (HU.out.grew m.out)
    have j:W4.heap.size=w3.heap.size+1:=by rw [h];simp
    have t:=aa (m.out.trans k4);have s:=E.grew k4;have I:=aa h;have J3:=HB.out (some ⟨g,0,none⟩) w3.heap.size W4 t.out s (by omega);have HG:Hid (w.heap.size≤g∧w.heap.size≤w3.heap.size):=⟨Nat.le_trans l.out.size hg,m.out.size⟩
    have z:=aa s;have x:=aa C;have o:=aa j;clear J2 k3 k4 E s C h j;go_wp2_with (rw [← I.out]);refine J3.mono ?_;rintro e w5 ⟨u5,rfl,⟨a,_⟩,F,k5⟩;have q:=x.out.other z.out k5;have K5:Hid (Kept af w w5):=t.out.next k5 (fun y hy f=>by have h1:=ix f;have h2:=HG.out;omega)
    have J4:=HR.out w3.heap.size (w3.heap.size+1) w5 K5.out q (by have h1:=k5.size;have h2:=o.out;omega);obtain ⟨vo,vn,vc,rfl,_⟩:=a.open;have c:=aa a;have A:=aa F;have n:=aa q;clear J3 a F q k5;go_wp2_with fail;refine J4.mono ?_;rintro e w6 ⟨u6,rfl,d,_,J,k6⟩;have a:=c.out.kept' k6 (fun N y hy e=>gM n.out c.out N y hy e);obtain ⟨zo,zn,zc,rfl,_⟩:=d.open;have G:=A.out.plain n.out k6;have K6:Hid (Kept af w w6):=K5.out.next k6 (fun y hy f=>by have f':y=w3.heap.size:=f;have h2:=HG.out;omega)
    have JL:=aa fun nq=>oY (some ⟨g,0,none⟩) w3.heap.size r4 (w6.drewN nq) (G.grew ((ah _ _).drewN nq))
    have JS:=aa fun nq=>gY _ _ _ _ (w6.drewN nq) (a.grew ((ah _ _).drewN nq)) (d.grew ((ah _ _).drewN nq))
    rw [aU rfl] at JS;obtain ⟨rv,r,_⟩:=J;have cr:=r.cell;obtain ⟨ro,rn,V,rfl,D,_⟩:=r.2.1.open;have i:=D.out;rw [i] at JL;clear J4 a d G r D i k6 A n z x c;go_wp2_with fail;go_quiet (first
     | (go_at_call 18;exact Calls.quiet_of (JL.out _))
     | (go_at_call 17;exact Calls.quiet_of (JS.out _)))
    go_wp2_with fail;go_ret;exact ⟨by first | rfl | simp,dr (K6.out.drewN _) (leR _)⟩
   ·go_enter Tryz.func4,Tryz.ntmps4;go_wp2_with fail;refine JA.mono ?_;rintro e w1 ⟨rfl,k1⟩;have l:=aa k1;have J2:=ue _ _ w1 (HU.out.grew l.out) (by have:=Q.out;have:=R.out;omega);clear JA k1;go_wp2_with fail;refine J2.mono ?_;rintro e w3 ⟨g,rfl,hg,E,k3⟩;have m:=aa (l.out.trans k3);obtain ⟨W4,h⟩:∃ W4,W4=w3.alloc (.cells #[.slice uo un uc] 43):=⟨_,rfl⟩
    have k4:Kept af w3 W4:=by rw [h];exact (ah af w3).alloc _
    have C:ScrAt W4 w3.heap.size (w3.heap.size+1) bs:=by rw [h];exact oR (HU.out.grew m.out)
    have j:W4.heap.size=w3.heap.size+1:=by rw [h];simp
    have t:=aa (m.out.trans k4);have s:=E.grew k4;have I:=aa h;have J3:=HB.out (some ⟨g,0,none⟩) w3.heap.size W4 t.out s (by omega);have HG:Hid (w.heap.size≤g∧w.heap.size≤w3.heap.size):=⟨Nat.le_trans l.out.size hg,m.out.size⟩
    have z:=aa s;have x:=aa C;have o:=aa j;clear J2 k3 k4 E s C h j;go_wp2_with (rw [← I.out]);refine J3.mono ?_;rintro e w5 ⟨u5,rfl,⟨a,_⟩,F,k5⟩;have q:=x.out.other z.out k5;have K5:Hid (Kept af w w5):=t.out.next k5 (fun y hy f=>by have h1:=ix f;have h2:=HG.out;omega)
    have J4:=HR.out w3.heap.size (w3.heap.size+1) w5 K5.out q (by have h1:=k5.size;have h2:=o.out;omega);obtain ⟨vo,vn,vc,rfl,_⟩:=a.open;have c:=aa a;have A:=aa F;have n:=aa q;clear J3 a F q k5;go_wp2_with fail;refine J4.mono ?_;rintro e w6 ⟨u6,rfl,d,_,J,k6⟩;have a:=c.out.kept' k6 (fun N y hy e=>gM n.out c.out N y hy e);obtain ⟨zo,zn,zc,rfl,_⟩:=d.open;have G:=A.out.plain n.out k6;have K6:Hid (Kept af w w6):=K5.out.next k6 (fun y hy f=>by have f':y=w3.heap.size:=f;have h2:=HG.out;omega)
    have JL:=aa fun nq=>oY (some ⟨g,0,none⟩) w3.heap.size r4 (w6.drewN nq) (G.grew ((ah _ _).drewN nq))
    have JS:=aa fun nq=>gY _ _ _ _ (w6.drewN nq) (a.grew ((ah _ _).drewN nq)) (d.grew ((ah _ _).drewN nq))
    rw [aU rfl] at JS;obtain ⟨rv,r,_⟩:=J;have cr:=r.cell;obtain ⟨ro,rn,V,rfl,D,_⟩:=r.2.1.open;have i:=D.out;rw [i] at JL;clear J4 a d G r D i k6 A n z x c;go_wp2_with fail;go_quiet (first
     | (go_at_call 18;exact Calls.quiet_of (JL.out _))
     | (go_at_call 17;exact Calls.quiet_of (JS.out _)))
    go_wp2_with fail;go_ret;exact ⟨by first | rfl | simp,dr (K6.out.drewN _) (leR _)⟩
  ·have g9:(L:Int) > 9:=by omega
   have T:(9:Int)<(L:Int):=by omega
   have d9:decide ((9:Int)<(L:Int))=true:=aU T;have g1:¬ (L:Int)=301:=by omega
   have g2:¬ (L:Int)=131:=by omega
   have d1:((L:Int) != 301)=true:=by simp;omega
   have d2:((L:Int) != 131)=true:=by simp;omega
   clear hu hv db dn H hL O P hB M hb hlen;go_enter Tryz.func4,Tryz.ntmps4;go_wp2_with fail;refine JA.mono ?_;rintro e w1 ⟨rfl,k1⟩;have l:=aa k1;clear JA k1;go_wp2_with fail;go_ret;exact ⟨rfl,dr l.out (leR _)⟩
 ·have g5:(un:Int) > 500:=by omega
  have S:(500:Int)<(un:Int):=by omega
  have d5:decide ((500:Int)<(un:Int))=true:=aU S;clear hu hv db dn H hL O P hB M hb;go_enter Tryz.func4,Tryz.ntmps4;go_wp2_with fail;refine JA.mono ?_;rintro e w1 ⟨rfl,k1⟩;have l:=aa k1;clear JA k1;go_wp2_with fail;go_ret;exact ⟨rfl,dr l.out (leR _)⟩

theorem walkPrivateBlinds (u:Value) (bs:List Nat) (v:Value) (ns:List Nat) (w:World) (hu:Row .u8 w u bs) (hv:Row .u64 w v ns) (db:Digs bs 256) (dn:Digs ns) (_:NoTab w) :
  Calls Tryz.prog 4 #[u,v] w fun e w'=>e=.returned (.bool true)∧Below w.heap.size w w':=
 jZ nC nE pE u bs v ns w hu hv db dn

end Go.Proofs.YtkaojflnghfmcaaGreatDoor
