/- Put together of: Prw7 Prw0. -/
import Derived.Test.YtkaojflnghfmcaaGreatDoorQC34

namespace Go.Proofs.YtkaojflnghfmcaaGreatDoor
open _root_.Go.Proofs.Tryz
set_option maxRecDepth 100000
set_option maxHeartbeats 4000000
open Go.RowKit

theorem xt:EF:=by
 intro p B bs ns ao L o r1 r2 r3 r4 w A h hB C D hu F y;have S:=im;have G:∀ args w,(callFunc 41 args).run prog w=.ok (.enter 41 args) w:=fun _ _=>by simp [go_sem]
 have E:=re w (.pointer p) (.slice ao L o) (.slice none 0 0) (.int .i64 0) 39 23 23 3;obtain ⟨W,hW⟩:∃ W,W=(((w.alloc (.cells #[.pointer p] 39)).alloc (.cells #[.slice ao L o] 23)).alloc (.cells #[.slice none 0 0] 23)).alloc (.cells #[.int .i64 0] 3):=⟨_,rfl⟩
 rw [<- hW] at E;obtain ⟨k0,x1,x2,x3,x4,hs⟩:=E;have kE:=(aj af W).alloc (.cells #[.int .i64 0] 32);have xe:Box (W.alloc (.cells #[.int .i64 0] 32)) W.heap.size (.int .i64 0) 32:=Box.new W (.int .i64 0) 32;have k1:=k0.trans kE;have a:∀ x,w.heap.size<=x->¬ ofP p x:=fun x hx f=>by have:=(h.inP f).2;omega
 have j:=FE p B bs ns ao L o (w.heap.size+1) w.heap.size (w.heap.size+1+1) (w.heap.size+1+1+1) r1 r2 r3 r4 _ A (h.grew k1) (aR hB k1.size) ⟨by omega,by omega⟩ C D (hu.grew k1) F y (x2.grew kE) (x1.grew kE) (x3.grew kE) (x4.grew kE) (by omega) (fun x f=>⟨fun e=>a _ (by omega) f,fun e=>a _ (by omega) f,fun e=>a _ (by omega) f,fun e=>a _ (by omega) f⟩);have s:=lG 41 _ W (fun c W'=>c=(r3:Nat)/\Kept (ofP p) w W'/\Lsc W' p B r4/\∃ v,Row .u64 W' v r1/\Hid (∀ x,v.ownBlock=some x->w.heap.size<=x/\x≠W.heap.size/\x≠w.heap.size+1+1/\x≠w.heap.size+1+1+1)/\Box W' (w.heap.size+1+1) v 23/\Box W' (w.heap.size+1+1+1) (.int .i64 (r2:Nat)) 3) G (j.mono (by
  rintro e w' (⟨h0,rfl,v,w1,hr,hf,i,kk,rfl⟩ | ⟨h0,rfl,q1,q2,i,kk⟩)
  ·have q:Box w1 W.heap.size (.int .i64 0) 32:=xe.kept kk (a _ (by omega));have O:=(x3.grew kE).kept kk (a _ (by omega));have P:=(x4.grew kE).kept kk (a _ (by omega));have r:∀ x,v.ownBlock=some x->w.heap.size<=x/\x≠W.heap.size/\x≠w.heap.size+1+1/\x≠w.heap.size+1+1+1:=fun x hx=>by
    have h1:=hf x hx;rw [World.size_alloc] at h1;omega
   have k:=(hr.kept (aD w1 (w.heap.size+1+1) v) (fun x hx e=>(r x hx).2.2.1 e)).kept (aD _ (w.heap.size+1+1+1) (.int .i64 (r2:Nat))) (fun x hx e=>(r x hx).2.2.2 e);have d:=O.set v;have g:=P.other ⟨w.heap.size+1+1,0,none⟩ (by show w.heap.size+1+1+1≠w.heap.size+1+1;omega) v;have M:=q.other ⟨w.heap.size+1+1,0,none⟩ (by show W.heap.size≠w.heap.size+1+1;omega) v;have m:=d.other ⟨w.heap.size+1+1+1,0,none⟩ (by show w.heap.size+1+1≠w.heap.size+1+1+1;omega) (.int .i64 (r2:Nat));have n:=g.set (.int .i64 (r2:Nat));have N:=M.other ⟨w.heap.size+1+1+1,0,none⟩ (by show W.heap.size≠w.heap.size+1+1+1;omega) (.int .i64 (r2:Nat))
   refine ⟨N,.inl ⟨rfl,by rw [h0];rfl,?_,?_,v,k,r,m,n⟩⟩
   ·exact ((k1.any.trans kk).next (aD w1 (w.heap.size+1+1) v) (fun x hx e=>by omega)).next (aD _ (w.heap.size+1+1+1) (.int .i64 (r2:Nat))) (fun x hx e=>by omega)
   ·exact (i.kept (aD w1 (w.heap.size+1+1) v) (fun x hx e=>by omega)).kept (aD _ (w.heap.size+1+1+1) (.int .i64 (r2:Nat))) (fun x hx e=>by omega)
  ·have q:Box w' W.heap.size (.int .i64 0) 32:=xe.kept kk (a _ (by omega));refine ⟨q,.inr ⟨_,rfl,rfl,k1.any.trans kk,i,.slice none 0 0,by rw [q1];exact Row.nil _ _,(fun x hx=>by cases hx),(x3.grew kE).kept kk (a _ (by omega)),?_⟩⟩;rw [q2];exact (x4.grew kE).kept kk (a _ (by omega))))
 have HW:=aa hW;have J:=aa hs;have HB:=aa hB;clear j hu F y C D h hB A hW k0 kE k1 x1 x2 x3 x4 xe G hs a;go_enter func15,ntmps15;go_wp2_with (rw [<- HW.out]);refine s.mono ?_;rintro e w' ⟨c,w1,rfl,⟨⟨rfl,k2,i,v,hr,hf,hI,hR⟩,Q⟩,rfl⟩;have R:W.heap.size=w.heap.size+1+1+1+1:=J.out;have k4:=k2.next (aD w1 W.heap.size (.int .i64 (r3:Nat))) (fun x hx e=>by omega)
 have k:=hr.kept (aD w1 W.heap.size (.int .i64 (r3:Nat))) (fun x hx e=>(hf.out x hx).2.1 e);have l:=i.kept (aD w1 W.heap.size (.int .i64 (r3:Nat))) (fun x hx e=>by have:=HB.out;omega);have d:=hI.other ⟨W.heap.size,0,none⟩ (by show w.heap.size+1+1≠W.heap.size;omega) (.int .i64 (r3:Nat));have g:=hR.other ⟨W.heap.size,0,none⟩ (by show w.heap.size+1+1+1≠W.heap.size;omega) (.int .i64 (r3:Nat));generalize w1.setCell ⟨W.heap.size,0,none⟩ (.int .i64 (r3:Nat))=w2 at *;obtain ⟨vo,vn,vc,rfl,-⟩:=k.open;have c1:=d.cell;have f1:=d.free;have c2:=g.cell;have f2:=g.free;have m:=d.set (.slice vo vn vc)
 have n:=g.other ⟨w.heap.size+1+1,0,none⟩ (by show w.heap.size+1+1+1≠w.heap.size+1+1;omega) (.slice vo vn vc);have t:=m.other ⟨w.heap.size+1+1+1,0,none⟩ (by show w.heap.size+1+1≠w.heap.size+1+1+1;omega) (.int .i64 (r2:Nat));have z:=n.set (.int .i64 (r2:Nat));have c3:=t.cell;have c4:=z.cell;have H:=aa ((k.kept (aD w2 (w.heap.size+1+1) (.slice vo vn vc)) (fun x hx e=>(hf.out x hx).2.2.1 e)).kept (aD _ (w.heap.size+1+1+1) (.int .i64 (r2:Nat))) (fun x hx e=>(hf.out x hx).2.2.2 e))
 have I:=aa ((l.kept (aD w2 (w.heap.size+1+1) (.slice vo vn vc)) (fun x hx e=>by have:=HB.out;omega)).kept (aD _ (w.heap.size+1+1+1) (.int .i64 (r2:Nat))) (fun x hx e=>by have:=HB.out;omega));have HK:=aa ((k4.next (aD w2 (w.heap.size+1+1) (.slice vo vn vc)) (fun x hx e=>by omega)).next (aD _ (w.heap.size+1+1+1) (.int .i64 (r2:Nat))) (fun x hx e=>by omega));have HF:Hid (∀ b,(Value.slice vo vn vc).ownBlock=some b->w.heap.size<=b):=fun b hb=>(hf.out b hb).1
 clear s hr k i l hI hR d g m n t z k2 k4 Q R hf;go_wp2_with fail;go_region
 all_goals
  go_wp2;exact bodyPost_ret (v:=.tuple #[.slice vo vn vc,.int .i64 (r2:Nat),.int .i64 (r3:Nat)]) (by simp [results,results15,go_sem,c3,c4]) rfl ⟨_,rfl,⟨H.out.grew (aj _ _).drew,HF.out⟩,I.out.grew (aj _ _).drew,HK.out.trans (aj _ _).drew⟩

theorem uS (s:KS) (l:KL) (co:Option Addr) (cl cc:Nat) (cs:List Nat) (w:World) (hr:s.Rows w l) (hd:l.Digs) (hl:s.light) (hc:Row .u8 w (.slice co cl cc) cs) (hg:¬ KeyGood l.n l.d l.p l.q l.dp l.dq l.qi s.en) :
  Calls prog 30 #[.agg #[.slice s.no s.nl s.nc,.int .u64 (s.en:Nat),.slice s.dO s.dl s.dc,.slice s.po s.pl s.pc,.slice s.qo s.ql s.qc,.slice s.dpo s.dpl s.dpc,.slice s.dqo s.dql s.dqc,.slice s.qio s.qil s.qic],.slice co cl cc] w fun e w'=>e=.panicked [refusal 190]/\Kept af w w':=by
 obtain ⟨_,_,_,e1,f,-,-,-,-⟩:=hc.open;cases e1
 obtain ⟨h0,h1,h2,h3,h4,h5,h6⟩:=hl;obtain ⟨W,hW⟩:∃ W,W=w.alloc (.cells #[.slice s.no s.nl s.nc,.int .u64 (s.en:Nat),.slice s.dO s.dl s.dc,.slice s.po s.pl s.pc,.slice s.qo s.ql s.qc,.slice s.dpo s.dpl s.dpc,.slice s.dqo s.dql s.dqc,.slice s.qio s.qil s.qic] 26):=⟨_,rfl⟩
 have k0:Kept af w W:=by rw [hW];exact (aj af w).alloc _
 have a:W.heap[w.heap.size]? = some (.cells #[.slice s.no s.nl s.nc,.int .u64 (s.en:Nat),.slice s.dO s.dl s.dc,.slice s.po s.pl s.pc,.slice s.qo s.ql s.qc,.slice s.dpo s.dpl s.dpc,.slice s.dqo s.dql s.dqc,.slice s.qio s.qil s.qic] 26 (0,0)):=by rw [hW];exact heap_alloc_new _ _
 obtain ⟨q0,q1,q2,q3,q4,q5,q6,q7⟩:=bH a;have J1:=CH s l 190 (.inr ⟨rfl,hg⟩) (by omega) (by omega) W (hr.grew k0) hd;unfold KS.v at J1;have HW:=aa hW;have b:=aa k0;have hY:=fX 190;clear hr hd hc hW k0 a hg f;go_enter func30,ntmps30;go_wp2_with (rw [<- HW.out]);refine J1.mono ?_;rintro e w1 ⟨rfl,k1⟩;have c:=aa (b.out.trans k1);clear J1 k1 q0 q1 q2 q3 q4 q5 q6 q7;go_wp2_with fail;refine (hY _).mono ?_;rintro e w2 ⟨rfl,rfl⟩;exact ⟨rfl,rfl,c.out⟩

theorem FA (s:KS) (l:KL) (co:Option Addr) (cl cc:Nat) (cs:List Nat) (w:World) (hr:s.Rows w l) (hd:l.Digs) (hl:s.light) (hc:Row .u8 w (.slice co cl cc) cs) (hg:KeyGood l.n l.d l.p l.q l.dp l.dq l.qi s.en) (b:cs.length≠fw (val l.n)) :
  Calls prog 30 #[.agg #[.slice s.no s.nl s.nc,.int .u64 (s.en:Nat),.slice s.dO s.dl s.dc,.slice s.po s.pl s.pc,.slice s.qo s.ql s.qc,.slice s.dpo s.dpl s.dpc,.slice s.dqo s.dql s.dqc,.slice s.qio s.qil s.qic],.slice co cl cc] w fun e w'=>e=.panicked [refusal 1]/\Kept af w w':=by
 obtain ⟨_,_,_,e1,f,-,-,-,-⟩:=hc.open;cases e1
 obtain ⟨h0,h1,h2,h3,h4,h5,h6⟩:=hl;obtain ⟨W,hW⟩:∃ W,W=w.alloc (.cells #[.slice s.no s.nl s.nc,.int .u64 (s.en:Nat),.slice s.dO s.dl s.dc,.slice s.po s.pl s.pc,.slice s.qo s.ql s.qc,.slice s.dpo s.dpl s.dpc,.slice s.dqo s.dql s.dqc,.slice s.qio s.qil s.qic] 26):=⟨_,rfl⟩
 have k0:Kept af w W:=by rw [hW];exact (aj af w).alloc _
 have a:W.heap[w.heap.size]? = some (.cells #[.slice s.no s.nl s.nc,.int .u64 (s.en:Nat),.slice s.dO s.dl s.dc,.slice s.po s.pl s.pc,.slice s.qo s.ql s.qc,.slice s.dpo s.dpl s.dpc,.slice s.dqo s.dql s.dqc,.slice s.qio s.qil s.qic] 26 (0,0)):=by rw [hW];exact heap_alloc_new _ _
 obtain ⟨q0,q1,q2,q3,q4,q5,q6,q7⟩:=bH a;have J1:=CH s l 0 (.inl ⟨rfl,hg⟩) (by omega) (by omega) W (hr.grew k0) hd;unfold KS.v at J1;have HW:=aa hW;have h:=aa k0;have JS:=aa fun W' (k:Kept af w W')=>Fb s.no s.nl s.nc l.n W' (hr.n.grew k) hd.n (by omega)
 obtain ⟨z,hz⟩:∃ z,z=fw (val l.n):=⟨_,rfl⟩
 rw [<- hz] at JS;have j:=er 0;have hY:=fX 1;have x:¬ (cl:Int)=(z:Int):=by have:=f.out;omega
 have m:((cl:Int) != (z:Int))=true:=by simp;omega
 clear hr hd hc hW k0 hg f b hz h0 h1 h2 h3 h4 h5 h6;go_enter func30,ntmps30;go_wp2_with (rw [<- HW.out]);refine J1.mono ?_;rintro e w1 ⟨rfl,k1⟩;have t:=k1;have c:=aa (h.out.trans k1);obtain ⟨p0,-⟩:=bH (am a k1);have g:=am a k1;clear J1 k1 t q0 q1 q2 q3 q4 q5 q6 q7 a;go_wp2_with fail;refine (j _).mono ?_;rintro e A ⟨rfl,o⟩;obtain rfl:=o.symm;have J2:=JS.out w1 c.out;go_wp2_with fail;refine J2.mono ?_;rintro e w2 ⟨rfl,k2⟩;have i:=aa (c.out.trans k2);have r:=am g k2;obtain ⟨y,-⟩:=bH r;clear J2 k2 JS p0 g;go_wp2_with fail;try rw [m]
 refine (hY _).mono ?_;rintro e w3 ⟨rfl,rfl⟩;exact ⟨rfl,rfl,i.out⟩

theorem rC {a v b c g i l:List Nat} {e n:Nat} (h:KeyGood a v b c g i l e) (hn:a.length=n) (H:n<=1000):n<=130/\n=ar (val a)/\b.length=max (ar (val b)) (ar (val c))/\c.length=max (ar (val b)) (ar (val c))/\g.length=max (ar (val b)) (ar (val c))/\i.length=max (ar (val b)) (ar (val c))/\el (val a)=0/\el (val b)=0/\el (val c)=0:=by
 have hf:=h.facts;obtain ⟨I,d,u,E,F,J,L,r,G,x,z,o,p,y⟩:=h;obtain ⟨f1,f2,f3,f4,f5,f6⟩:=hf;generalize hP:val b=P at *;generalize hQ:val c=Q at *;have m:val a=P*Q:=f1;have hl:a.length=ar (P*Q):=by
  rw [r,di,ag];have:0<ar (P*Q):=Nat.pos_of_ne_zero fun e=>by
   have h9:=(aG (P*Q) 0).1 (by omega);rw [cw] at h9;have:=fh f2.1 f3.1;omega
  omega
 have q:fW a e=0:=f4;have k:a.length<=1000:=by omega
 have j:=(mX (xs:=a) (by rw [r,di];exact ak (by omega) _ _) k e).1 q;rw [m] at j;obtain ⟨⟨C,D⟩,⟨hW,ho⟩,-⟩:=j;have f:ar (P*Q)<=128:=cX (n:=128) (by omega);have A:P<=P*Q:=Nat.le_mul_of_pos_right _ (by have:=f3.1;omega);have B:Q<=P*Q:=Nat.le_mul_of_pos_left _ (by have:=f2.1;omega);have s:ar P<=128:=(aG P 128).2 (fF A ((aG _ 128).1 f));have t:ar Q<=128:=(aG Q 128).2 (fF B ((aG _ 128).1 f));have w:el (P*Q)=0:=js (by have:=fh f2.1 f3.1;omega) ho (by omega)
 refine ⟨by omega,by rw [m];omega,by rw [x,ag],by rw [z,ag],by rw [o,ag],by rw [p,ag],by rw [m];exact w,js (by have:=f2.1;omega) f2.2.1 (by omega),js (by have:=f3.1;omega) f3.2.1 (by omega)⟩

theorem FB (s:KS) (l:KL) (co:Option Addr) (cl cc:Nat) (cs:List Nat) (w:World) (hr:s.Rows w l) (hd:l.Digs) (hl:s.light) (hc:Row .u8 w (.slice co cl cc) cs) (t:Digs cs 256) (hg:KeyGood l.n l.d l.p l.q l.dp l.dq l.qi s.en) (c:cs.length=fw (val l.n)) (hlt:¬ bev cs<val l.n) :
  Calls prog 30 #[.agg #[.slice s.no s.nl s.nc,.int .u64 (s.en:Nat),.slice s.dO s.dl s.dc,.slice s.po s.pl s.pc,.slice s.qo s.ql s.qc,.slice s.dpo s.dpl s.dpc,.slice s.dqo s.dql s.dqc,.slice s.qio s.qil s.qic],.slice co cl cc] w fun e w'=>e=.panicked [refusal 1]/\Kept af w w':=by
 obtain ⟨_,_,_,e1,f,-,-,-,-⟩:=hc.open;cases e1
 obtain ⟨h0,h1,h2,h3,h4,h5,h6⟩:=hl;obtain ⟨W,hW⟩:∃ W,W=w.alloc (.cells #[.slice s.no s.nl s.nc,.int .u64 (s.en:Nat),.slice s.dO s.dl s.dc,.slice s.po s.pl s.pc,.slice s.qo s.ql s.qc,.slice s.dpo s.dpl s.dpc,.slice s.dqo s.dql s.dqc,.slice s.qio s.qil s.qic] 26):=⟨_,rfl⟩
 have k0:Kept af w W:=by rw [hW];exact (aj af w).alloc _
 have g:W.heap[w.heap.size]? = some (.cells #[.slice s.no s.nl s.nc,.int .u64 (s.en:Nat),.slice s.dO s.dl s.dc,.slice s.po s.pl s.pc,.slice s.qo s.ql s.qc,.slice s.dpo s.dpl s.dpc,.slice s.dqo s.dql s.dqc,.slice s.qio s.qil s.qic] 26 (0,0)):=by rw [hW];exact heap_alloc_new _ _
 obtain ⟨q0,q1,q2,q3,q4,q5,q6,q7⟩:=bH g;have J1:=CH s l 0 (.inl ⟨rfl,hg⟩) (by omega) (by omega) W (hr.grew k0) hd;unfold KS.v at J1;have HW:=aa hW;have I:=aa k0;have JS:=aa fun W' (k:Kept af w W')=>Fb s.no s.nl s.nc l.n W' (hr.n.grew k) hd.n (by omega)
 obtain ⟨z,hz⟩:∃ z,z=fw (val l.n):=⟨_,rfl⟩
 rw [<- hz] at JS;obtain ⟨O,P,Q,R,S,T⟩:=hg.facts;obtain ⟨N,hN⟩:∃ N,N=val l.n:=⟨_,rfl⟩
 obtain ⟨X,hX⟩:∃ X,X=bev cs:=⟨_,rfl⟩
 obtain ⟨_,_,_,e1,m,-,-,-,-⟩:=hr.n.open;cases e1
 have B:N<18446744073709551616^s.nl:=by rw [hN,<- m.out];exact aE (by omega) hd.n
 have V:=(rC hg m.out h0).1;have C:cl<=8*s.nl:=by
  have h9:aM N<=64*s.nl:=(aX _ _).2 (by rw [bh];exact B);have h8:=f.out;rw [c,<- hN] at h8;unfold fw at h8;omega
 have o:X<18446744073709551616^s.nl:=by
  rw [hX];refine bd (mC t) ?_;rw [f.out,show (18446744073709551616:Nat)^s.nl=256^(8*s.nl) by rw [bh]];exact aY (by omega) C
 obtain ⟨E,F⟩:=pg o (by omega:s.nl<=300);have vX:val (digs X s.nl)=X:=by rw [aB,ax o]
 have JN:Hid (∀ W',Kept af w W'->Calls prog 63 #[.slice co cl cc,.int .i64 (s.nl:Int)] W' fun r w'=>∃ vo vn vc,r=.returned (.tuple #[.slice vo vn vc,.int .i64 0])/\Row .u64 w' (.slice vo vn vc) (digs X s.nl)/\Fresh W' (.slice vo vn vc)/\Kept af W' w'):=fun W' k=>by
  have h:=Fm (.slice co cl cc) cs (s.nl:Int) W' (hc.grew k) t;rw [<- hX,E,F] at h;refine h.mono ?_;rintro r w' ⟨v',rfl,h1,h2,h3⟩;obtain ⟨vo,vn,vc,rfl,-⟩:=h1.open;exact ⟨vo,vn,vc,rfl,h1,h2,h3⟩
 have JC:Hid (∀ W' vo vn vc,Kept af w W'->Row .u64 W' (.slice vo vn vc) (digs X s.nl)->Calls prog 64 #[.slice vo vn vc,.slice s.no s.nl s.nc] W' fun r w'=>r=.returned (.int .i64 (dR X N))/\Kept af W' w'):=fun W' vo vn vc k h=>by
  have h:=mU _ _ _ _ W' h (hr.n.grew k) (ak (by omega) _ _) hd.n;rw [vX,<- hN] at h;exact h
 have L:=er 0;have M:=er 1;have hY:=fX 1;have U:(cl:Int)=(z:Int):=by have:=f.out;omega
 have D:((cl:Int) != (z:Int))=false:=by simp;omega
 have g1:dR X N≥0:=by rw [hX,hN];have:=Co (a:=bev cs) (b:=val l.n) (by omega);omega
 clear hr hd hc t hW k0 hg f c hlt hz h0 h1 h2 h3 h4 h5 h6 hX hN o E F vX C B m O P Q R S T V;generalize dR X N=cm at *;go_enter func30,ntmps30;go_wp2_with (rw [<- HW.out]);refine J1.mono ?_;rintro e w1 ⟨rfl,k1⟩;have ac:=k1;have y:=aa (I.out.trans k1);obtain ⟨p0,-⟩:=bH (am g k1);have G:=am g k1;clear J1 k1 ac q0 q1 q2 q3 q4 q5 q6 q7 g;go_wp2_with fail;refine (L _).mono ?_;rintro e ai ⟨rfl,Y⟩;obtain rfl:=Y.symm;have J2:=JS.out w1 y.out;go_wp2_with fail;refine J2.mono ?_;rintro e w2 ⟨rfl,k2⟩;have i:=aa (y.out.trans k2);have x:=am G k2;obtain ⟨ad,-⟩:=bH x;clear J2 k2 JS p0 G
 go_wp2_with fail;try rw [D]
 refine (M _).mono ?_;rintro e al ⟨rfl,Z⟩;obtain rfl:=Z.symm;have J3:=JN.out w2 i.out;go_wp2_with fail;refine J3.mono ?_;rintro e w3 ⟨vo,vn,vc,rfl,r3,f3,k3⟩;have A:=aa (i.out.trans k3);have H:=am x k3;obtain ⟨ae,-⟩:=bH H;have j:=aa r3;have ag:=aa (f3.after i.out);clear J3 k3 r3 f3 JN ad x U D;go_wp2_with fail;refine (gW vo vn vc _).mono ?_;rintro e an ⟨rfl,ab⟩;obtain rfl:=ab.symm;have J4:=JC.out w3 vo vn vc A.out j.out;go_wp2_with fail;refine J4.mono ?_;rintro e w4 ⟨rfl,k4⟩;have J:=aa (A.out.trans k4);have ah:=aa (j.out.grew k4);clear J4 k4 JC ae H j;go_wp2_with fail;refine (hY _).mono ?_;rintro e w5 ⟨rfl,rfl⟩
 exact ⟨rfl,rfl,J.out⟩

theorem FC (s:KS) (l:KL) (co:Option Addr) (cl cc:Nat) (cs:List Nat) (w:World) (hr:s.Rows w l) (hd:l.Digs) (hl:s.light) (hc:Row .u8 w (.slice co cl cc) cs) (m:Digs cs 256) (hg:KeyGood l.n l.d l.p l.q l.dp l.dq l.qi s.en) (a:cs.length=fw (val l.n)) (hlt:bev cs<val l.n) :
  Calls prog 30 #[.agg #[.slice s.no s.nl s.nc,.int .u64 (s.en:Nat),.slice s.dO s.dl s.dc,.slice s.po s.pl s.pc,.slice s.qo s.ql s.qc,.slice s.dpo s.dpl s.dpc,.slice s.dqo s.dql s.dqc,.slice s.qio s.qil s.qic],.slice co cl cc] w fun e w'=>∃ vo vc,e=.returned (.slice vo s.nl vc)/\Row .u64 w' (.slice vo s.nl vc) (digs (bev cs) s.nl)/\Fresh w (.slice vo s.nl vc)/\Kept af w w':=by
 obtain ⟨_,_,_,e1,b,-,-,-,-⟩:=hc.open;cases e1
 obtain ⟨h0,h1,h2,h3,h4,h5,h6⟩:=hl;obtain ⟨W,hW⟩:∃ W,W=w.alloc (.cells #[.slice s.no s.nl s.nc,.int .u64 (s.en:Nat),.slice s.dO s.dl s.dc,.slice s.po s.pl s.pc,.slice s.qo s.ql s.qc,.slice s.dpo s.dpl s.dpc,.slice s.dqo s.dql s.dqc,.slice s.qio s.qil s.qic] 26):=⟨_,rfl⟩
 have k0:Kept af w W:=by rw [hW];exact (aj af w).alloc _
 have c:W.heap[w.heap.size]? = some (.cells #[.slice s.no s.nl s.nc,.int .u64 (s.en:Nat),.slice s.dO s.dl s.dc,.slice s.po s.pl s.pc,.slice s.qo s.ql s.qc,.slice s.dpo s.dpl s.dpc,.slice s.dqo s.dql s.dqc,.slice s.qio s.qil s.qic] 26 (0,0)):=by rw [hW];exact heap_alloc_new _ _
 obtain ⟨q0,q1,q2,q3,q4,q5,q6,q7⟩:=bH c;have J1:=CH s l 0 (.inl ⟨rfl,hg⟩) (by omega) (by omega) W (hr.grew k0) hd;unfold KS.v at J1;have HW:=aa hW;have J:=aa k0;have JS:=aa fun W' (k:Kept af w W')=>Fb s.no s.nl s.nc l.n W' (hr.n.grew k) hd.n (by omega)
 obtain ⟨z,hz⟩:∃ z,z=fw (val l.n):=⟨_,rfl⟩
 rw [<- hz] at JS;obtain ⟨P,Q,R,S,T,U⟩:=hg.facts;obtain ⟨N,hN⟩:∃ N,N=val l.n:=⟨_,rfl⟩
 obtain ⟨X,hX⟩:∃ X,X=bev cs:=⟨_,rfl⟩
 obtain ⟨_,_,_,e1,i,-,-,-,-⟩:=hr.n.open;cases e1
 have A:N<18446744073709551616^s.nl:=by rw [hN,<- i.out];exact aE (by omega) hd.n
 have Y:=(rC hg i.out h0).1;have C:cl<=8*s.nl:=by
  have h9:aM N<=64*s.nl:=(aX _ _).2 (by rw [bh];exact A);have h8:=b.out;rw [a,<- hN] at h8;unfold fw at h8;omega
 have j:X<18446744073709551616^s.nl:=by
  rw [hX];refine bd (mC m) ?_;rw [b.out,show (18446744073709551616:Nat)^s.nl=256^(8*s.nl) by rw [bh]];exact aY (by omega) C
 obtain ⟨E,F⟩:=pg j (by omega:s.nl<=300);have vX:val (digs X s.nl)=X:=by rw [aB,ax j]
 have JN:Hid (∀ W',Kept af w W'->Calls prog 63 #[.slice co cl cc,.int .i64 (s.nl:Int)] W' fun r w'=>∃ vo vn vc,r=.returned (.tuple #[.slice vo vn vc,.int .i64 0])/\Row .u64 w' (.slice vo vn vc) (digs X s.nl)/\Fresh W' (.slice vo vn vc)/\Kept af W' w'):=fun W' k=>by
  have h:=Fm (.slice co cl cc) cs (s.nl:Int) W' (hc.grew k) m;rw [<- hX,E,F] at h;refine h.mono ?_;rintro r w' ⟨v',rfl,h1,h2,h3⟩;obtain ⟨vo,vn,vc,rfl,-⟩:=h1.open;exact ⟨vo,vn,vc,rfl,h1,h2,h3⟩
 have JC:Hid (∀ W' vo vn vc,Kept af w W'->Row .u64 W' (.slice vo vn vc) (digs X s.nl)->Calls prog 64 #[.slice vo vn vc,.slice s.no s.nl s.nc] W' fun r w'=>r=.returned (.int .i64 (dR X N))/\Kept af W' w'):=fun W' vo vn vc k h=>by
  have h:=mU _ _ _ _ W' h (hr.n.grew k) (ak (by omega) _ _) hd.n;rw [vX,<- hN] at h;exact h
 have O:=er 0;have B:=er 1;have V:(cl:Int)=(z:Int):=by have:=b.out;omega
 have D:((cl:Int) != (z:Int))=false:=by simp;omega
 have g1:¬ dR X N≥0:=by rw [hX,hN];have:=gS hlt;omega
 have g2:decide (0<=dR X N)=false:=cP (by omega);have M:=aa hX;clear hr hd hc m hW k0 hg b a hlt hz h0 h1 h2 h3 h4 h5 h6 hN hX j E F vX C A i P Q R S T U Y;generalize dR X N=cm at *;go_enter func30,ntmps30;go_wp2_with (rw [<- HW.out]);refine J1.mono ?_;rintro e w1 ⟨rfl,k1⟩;have ae:=k1;have t:=aa (J.out.trans k1);obtain ⟨p0,-⟩:=bH (am c k1);have G:=am c k1;clear J1 k1 ae q0 q1 q2 q3 q4 q5 q6 q7 c;go_wp2_with fail;refine (O _).mono ?_;rintro e ai ⟨rfl,Z⟩;obtain rfl:=Z.symm;have J2:=JS.out w1 t.out;go_wp2_with fail;refine J2.mono ?_;rintro e w2 ⟨rfl,k2⟩;have f:=aa (t.out.trans k2)
 have o:=am G k2;obtain ⟨ag,-⟩:=bH o;clear J2 k2 JS p0 G;go_wp2_with fail;try rw [D]
 refine (B _).mono ?_;rintro e al ⟨rfl,ab⟩;obtain rfl:=ab.symm;have J3:=JN.out w2 f.out;go_wp2_with fail;refine J3.mono ?_;rintro e w3 ⟨vo,vn,vc,rfl,r3,f3,k3⟩;have x:=aa (f.out.trans k3);have H:=am o k3;obtain ⟨ah,-⟩:=bH H;have g:=aa r3;have I:=aa (f3.after f.out);clear J3 k3 r3 f3 JN ag o V D;go_wp2_with fail;refine (gW vo vn vc _).mono ?_;rintro e an ⟨rfl,ac⟩;obtain rfl:=ac.symm;have J4:=JC.out w3 vo vn vc x.out g.out;go_wp2_with fail;refine J4.mono ?_;rintro e w4 ⟨rfl,k4⟩;have L:=aa (x.out.trans k4);have y:=aa (g.out.grew k4);clear J4 k4 JC ah H g;go_wp2_with fail;try rw [g2]
 refine (B _).mono ?_;rintro e w5 ⟨rfl,ad⟩;obtain rfl:=ad.symm;obtain ⟨zo,zc,ez⟩:=(show NumT w4 none (.slice vo vn vc) s.nl (X%18446744073709551616^s.nl) from ⟨RowT.none (by rw [<- mI];exact y.out),ay _ (aC (by omega))⟩).shape;cases ez
 go_wp2_with fail;go_ret;exact ⟨_,_,rfl,by rw [<- M.out];exact y.out,I.out,L.out⟩

theorem Ds (bK bC bO:Nat) (s:KS) (l:KL) (co:Option Addr) (cl cc:Nat) (cs:List Nat) (w:World) (hr:s.Rows w l) (hd:l.Digs) (hl:s.light) (hc:Row .u8 w (.slice co cl cc) cs) (hg:¬ KeyGood l.n l.d l.p l.q l.dp l.dq l.qi s.en) (xK:w.heap[bK]? = some (.cells #[.slice s.no s.nl s.nc,.int .u64 (s.en:Nat),.slice s.dO s.dl s.dc,.slice s.po s.pl s.pc,.slice s.qo s.ql s.qc,.slice s.dpo s.dpl s.dpc,.slice s.dqo s.dql s.dqc,.slice s.qio s.qil s.qic] 26 (0,0))) (xC:Box w bC (.slice co cl cc) 27) :
  Calls prog 29 #[.pointer (some ⟨bK,0,none⟩),.pointer (some ⟨bC,0,none⟩),.pointer (some ⟨bO,0,none⟩)] w fun e w'=>e=.panicked [refusal 190]/\Kept af w w':=by
 obtain ⟨q0,q1,q2,q3,q4,q5,q6,q7⟩:=bH xK;have c0:=xC.cell;have J1:=uS s l co cl cc cs w hr hd hl hc hg;clear hr hd hl hc hg xK xC;go_enter func29,ntmps29;go_wp2_with fail;refine J1.mono ?_;rintro e w1 ⟨rfl,k1⟩;exact ⟨rfl,rfl,k1⟩

theorem Do (bK bC bS bT bF bO:Nat) (s:KS) (l:KL) (co:Option Addr) (cl cc:Nat) (cs:List Nat) (w:World) (hr:s.Rows w l) (hd:l.Digs) (hl:s.light) (hc:Row .u8 w (.slice co cl cc) cs) (hg:¬ KeyGood l.n l.d l.p l.q l.dp l.dq l.qi s.en) (xK:w.heap[bK]? = some (.cells #[.slice s.no s.nl s.nc,.int .u64 (s.en:Nat),.slice s.dO s.dl s.dc,.slice s.po s.pl s.pc,.slice s.qo s.ql s.qc,.slice s.dpo s.dpl s.dpc,.slice s.dqo s.dql s.dqc,.slice s.qio s.qil s.qic] 26 (0,0))) (xC:Box w bC (.slice co cl cc) 27) :
  Calls prog 49 #[.pointer (some ⟨bK,0,none⟩),.pointer (some ⟨bC,0,none⟩),.pointer (some ⟨bS,0,none⟩),.pointer (some ⟨bT,0,none⟩),.pointer (some ⟨bF,0,none⟩),.pointer (some ⟨bO,0,none⟩)] w fun e w'=>e=.panicked [refusal 190]/\Kept af w w':=by
 obtain ⟨q0,q1,q2,q3,q4,q5,q6,q7⟩:=bH xK;have c0:=xC.cell;have J1:=uS s l co cl cc cs w hr hd hl hc hg;clear hr hd hl hc hg xK xC;go_enter func49,ntmps49;go_wp2_with fail;refine J1.mono ?_;rintro e w1 ⟨rfl,k1⟩;exact ⟨rfl,rfl,k1⟩

theorem Bf (s:KS) (l:KL) (co:Option Addr) (cl cc:Nat) (cs:List Nat) (w:World) (hr:s.Rows w l) (hd:l.Digs) (hl:s.light) (hc:Row .u8 w (.slice co cl cc) cs) (hg:¬ KeyGood l.n l.d l.p l.q l.dp l.dq l.qi s.en) :
  Calls prog 11 #[.agg s.v,.slice co cl cc] w fun q w'=>∃ v',q=.returned (.tuple #[v',.int .i64 ((190:Nat):Int)])/\Row .u8 w' v' []/\Kept af w w':=by
 have y:=im;have h:∀ args w,(callFunc 29 args).run prog w=.ok (.enter 29 args) w:=fun _ _=>by simp [go_sem]
 obtain ⟨W0,a⟩:∃ W,W=w.alloc (.cells #[.slice s.no s.nl s.nc,.int .u64 (s.en:Nat),.slice s.dO s.dl s.dc,.slice s.po s.pl s.pc,.slice s.qo s.ql s.qc,.slice s.dpo s.dpl s.dpc,.slice s.dqo s.dql s.dqc,.slice s.qio s.qil s.qic] 26):=⟨_,rfl⟩
 have k0:Kept af w W0:=by rw [a];exact (aj af w).alloc _
 obtain ⟨W1,b⟩:∃ W,W=W0.alloc (.cells #[.slice co cl cc] 27):=⟨_,rfl⟩
 have k1:Kept af W0 W1:=by rw [b];exact (aj af W0).alloc _
 obtain ⟨W2,c⟩:∃ W,W=W1.alloc (.cells #[.slice none 0 0] 27):=⟨_,rfl⟩
 have k2:Kept af W1 W2:=by rw [c];exact (aj af W1).alloc _
 have z0:W0.heap.size=w.heap.size+1:=by rw [a];simp
 have z1:W1.heap.size=w.heap.size+1+1:=by rw [b];simp [z0]
 have z2:W2.heap.size=w.heap.size+1+1+1:=by rw [c];simp [z1]
 have kE:=(aj af W2).alloc (.cells #[.int .i64 0] 32);have xe:Box (W2.alloc (.cells #[.int .i64 0] 32)) W2.heap.size (.int .i64 0) 32:=Box.new W2 (.int .i64 0) 32;have ka:=((k0.trans k1).trans k2)
 have xK:W0.heap[w.heap.size]? = some (.cells #[.slice s.no s.nl s.nc,.int .u64 (s.en:Nat),.slice s.dO s.dl s.dc,.slice s.po s.pl s.pc,.slice s.qo s.ql s.qc,.slice s.dpo s.dpl s.dpc,.slice s.dqo s.dql s.dqc,.slice s.qio s.qil s.qic] 26 (0,0)):=by rw [a];exact heap_alloc_new _ _
 have xC:Box W1 (w.heap.size+1) (.slice co cl cc) 27:=by rw [b,<- z0];exact Box.new W0 _ _
 have xO:Box W2 (w.heap.size+1+1) (.slice none 0 0) 27:=by rw [c,<- z1];exact Box.new W1 _ _
 have kw:=ka.trans kE;have g:=lG 29 _ W2 (fun n W'=>n=190/\Box W' (w.heap.size+1+1) (.slice none 0 0) 27/\Kept af w W') h ((Ds (w.heap.size) (w.heap.size+1) (w.heap.size+1+1) s l co cl cc cs _ (hr.grew kw) hd hl (hc.grew kw) hg (am xK ((k1.trans k2).trans kE)) (xC.grew (k2.trans kE))).mono (by
  rintro r w' ⟨rfl,hk⟩;exact ⟨xe.grew hk,.inr ⟨_,rfl,rfl,(xO.grew ((aj af W2).trans kE)).grew hk,kw.trans hk⟩⟩))
 have HS:=aa z2;have HW:Hid (W2=(((w.alloc (.cells #[.slice s.no s.nl s.nc,.int .u64 (s.en:Nat),.slice s.dO s.dl s.dc,.slice s.po s.pl s.pc,.slice s.qo s.ql s.qc,.slice s.dpo s.dpl s.dpc,.slice s.dqo s.dql s.dqc,.slice s.qio s.qil s.qic] 26)).alloc (.cells #[.slice co cl cc] 27)).alloc (.cells #[.slice none 0 0] 27))):=by unfold Hid;rw [c,b,a]
 unfold KS.v;clear hc hr hd hl hg k0 k1 k2 z0 a z1 b z2 c kE ka kw xe xK xC xO h;go_enter func11,ntmps11;go_wp2_with (rw [<- HW.out]);refine g.mono ?_;rintro r w' ⟨n,w1,rfl,⟨⟨rfl,hb,hk⟩,k⟩,rfl⟩;have m:W2.heap.size=w.heap.size+1+1+1:=HS.out;have kb:=aD w1 W2.heap.size (.int .i64 ((190:Nat):Int));have f:=hb.kept kb (by show ¬ w.heap.size+1+1=W2.heap.size;omega);have j:=aa ((hk.next kb (fun x hx e=>by omega)).next (aD (w1.setCell ⟨W2.heap.size,0,none⟩ (.int .i64 ((190:Nat):Int))) (w.heap.size+1+1) (.slice none 0 0)) (fun x hx e=>by omega));have o:=f.cell;have t:=f.free;have i:=aa f;clear g hb hk k kb f m
 generalize w1.setCell ⟨W2.heap.size,0,none⟩ (.int .i64 ((190:Nat):Int))=W9 at *;go_wp2_with fail;exact bodyPost_ret (v:=.tuple #[.slice none 0 0,.int .i64 ((190:Nat):Int)]) (by simp [results,results11,go_sem,(i.out.set (.slice none 0 0)).cell]) rfl ⟨_,rfl,Row.nil _ _,j.out⟩

theorem Bc (s:KS) (l:KL) (co:Option Addr) (cl cc:Nat) (cs:List Nat) (at_:Int) (fo:Option Addr) (fl fc:Nat) (w:World) (hr:s.Rows w l) (hd:l.Digs) (hl:s.light) (hc:Row .u8 w (.slice co cl cc) cs) (hg:¬ KeyGood l.n l.d l.p l.q l.dp l.dq l.qi s.en) :
  Calls prog 19 #[.pointer none,.agg s.v,.slice co cl cc,.pointer none,.agg #[.int .i64 at_,.slice fo fl fc]] w fun q w'=>∃ v',q=.returned (.tuple #[v',.int .i64 ((190:Nat):Int)])/\Row .u8 w' v' []/\Kept af w w':=by
 have B:=im;have k:∀ args w,(callFunc 49 args).run prog w=.ok (.enter 49 args) w:=fun _ _=>by simp [go_sem]
 obtain ⟨W0,f⟩:∃ W,W=w.alloc (.cells #[.pointer none] 53):=⟨_,rfl⟩
 have k0:Kept af w W0:=by rw [f];exact (aj af w).alloc _
 obtain ⟨W1,a⟩:∃ W,W=W0.alloc (.cells #[.slice s.no s.nl s.nc,.int .u64 (s.en:Nat),.slice s.dO s.dl s.dc,.slice s.po s.pl s.pc,.slice s.qo s.ql s.qc,.slice s.dpo s.dpl s.dpc,.slice s.dqo s.dql s.dqc,.slice s.qio s.qil s.qic] 26):=⟨_,rfl⟩
 have k1:Kept af W0 W1:=by rw [a];exact (aj af W0).alloc _
 obtain ⟨W2,b⟩:∃ W,W=W1.alloc (.cells #[.slice co cl cc] 27):=⟨_,rfl⟩
 have k2:Kept af W1 W2:=by rw [b];exact (aj af W1).alloc _
 obtain ⟨W3,g⟩:∃ W,W=W2.alloc (.cells #[.pointer none] 39):=⟨_,rfl⟩
 have k3:Kept af W2 W3:=by rw [g];exact (aj af W2).alloc _
 obtain ⟨W4,h⟩:∃ W,W=W3.alloc (.cells #[.int .i64 at_,.slice fo fl fc] 31):=⟨_,rfl⟩
 have k4:Kept af W3 W4:=by rw [h];exact (aj af W3).alloc _
 obtain ⟨W5,c⟩:∃ W,W=W4.alloc (.cells #[.slice none 0 0] 27):=⟨_,rfl⟩
 have k5:Kept af W4 W5:=by rw [c];exact (aj af W4).alloc _
 have z0:W0.heap.size=w.heap.size+1:=by rw [f];simp
 have z1:W1.heap.size=w.heap.size+1+1:=by rw [a];simp [z0]
 have z2:W2.heap.size=w.heap.size+1+1+1:=by rw [b];simp [z1]
 have z3:W3.heap.size=w.heap.size+1+1+1+1:=by rw [g];simp [z2]
 have z4:W4.heap.size=w.heap.size+1+1+1+1+1:=by rw [h];simp [z3]
 have z5:W5.heap.size=w.heap.size+1+1+1+1+1+1:=by rw [c];simp [z4]
 have kE:=(aj af W5).alloc (.cells #[.int .i64 0] 32);have xe:Box (W5.alloc (.cells #[.int .i64 0] 32)) W5.heap.size (.int .i64 0) 32:=Box.new W5 (.int .i64 0) 32;have ka:=(((((k0.trans k1).trans k2).trans k3).trans k4).trans k5)
 have xK:W1.heap[w.heap.size+1]? = some (.cells #[.slice s.no s.nl s.nc,.int .u64 (s.en:Nat),.slice s.dO s.dl s.dc,.slice s.po s.pl s.pc,.slice s.qo s.ql s.qc,.slice s.dpo s.dpl s.dpc,.slice s.dqo s.dql s.dqc,.slice s.qio s.qil s.qic] 26 (0,0)):=by rw [a,<- z0];exact heap_alloc_new _ _
 have xC:Box W2 (w.heap.size+1+1) (.slice co cl cc) 27:=by rw [b,<- z1];exact Box.new W1 _ _
 have xO:Box W5 (w.heap.size+1+1+1+1+1) (.slice none 0 0) 27:=by rw [c,<- z4];exact Box.new W4 _ _
 have kw:=ka.trans kE;have j:=lG 49 _ W5 (fun n W'=>n=190/\Box W' (w.heap.size+1+1+1+1+1) (.slice none 0 0) 27/\Kept af w W') k ((Do (w.heap.size+1) (w.heap.size+1+1) (w.heap.size+1+1+1) w.heap.size (w.heap.size+1+1+1+1) (w.heap.size+1+1+1+1+1) s l co cl cc cs _ (hr.grew kw) hd hl (hc.grew kw) hg (am xK ((((k2.trans k3).trans k4).trans k5).trans kE)) (xC.grew (((k3.trans k4).trans k5).trans kE))).mono (by
  rintro r w' ⟨rfl,hk⟩;exact ⟨xe.grew hk,.inr ⟨_,rfl,rfl,(xO.grew ((aj af W5).trans kE)).grew hk,kw.trans hk⟩⟩))
 have HS:=aa z5;have HW:Hid (W5=((((((w.alloc (.cells #[.pointer none] 53)).alloc (.cells #[.slice s.no s.nl s.nc,.int .u64 (s.en:Nat),.slice s.dO s.dl s.dc,.slice s.po s.pl s.pc,.slice s.qo s.ql s.qc,.slice s.dpo s.dpl s.dpc,.slice s.dqo s.dql s.dqc,.slice s.qio s.qil s.qic] 26)).alloc (.cells #[.slice co cl cc] 27)).alloc (.cells #[.pointer none] 39)).alloc (.cells #[.int .i64 at_,.slice fo fl fc] 31)).alloc (.cells #[.slice none 0 0] 27))):=by unfold Hid;rw [c,h,g,b,a,f]
 unfold KS.v;clear hc hr hd hl hg k0 k1 k2 k3 k4 k5 z0 f z1 a z2 b z3 g z4 h z5 c kE ka kw xe xK xC xO k;go_enter func19,ntmps19;go_wp2_with (rw [<- HW.out]);refine j.mono ?_;rintro r w' ⟨n,w1,rfl,⟨⟨rfl,hb,hk⟩,t⟩,rfl⟩;have y:W5.heap.size=w.heap.size+1+1+1+1+1+1:=HS.out;have kb:=aD w1 W5.heap.size (.int .i64 ((190:Nat):Int));have i:=hb.kept kb (by show ¬ w.heap.size+1+1+1+1+1=W5.heap.size;omega);have o:=aa ((hk.next kb (fun x hx e=>by omega)).next (aD (w1.setCell ⟨W5.heap.size,0,none⟩ (.int .i64 ((190:Nat):Int))) (w.heap.size+1+1+1+1+1) (.slice none 0 0)) (fun x hx e=>by omega));have z:=i.cell;have A:=i.free;have m:=aa i
 clear j hb hk t kb i y;generalize w1.setCell ⟨W5.heap.size,0,none⟩ (.int .i64 ((190:Nat):Int))=W9 at *;go_wp2_with fail;exact bodyPost_ret (v:=.tuple #[.slice none 0 0,.int .i64 ((190:Nat):Int)]) (by simp [results,results19,go_sem,(m.out.set (.slice none 0 0)).cell]) rfl ⟨_,rfl,Row.nil _ _,o.out⟩

theorem Be:zD:=fun w=>Bf te Di none 0 0 [] w (qM w) qL pz (Row.nil _ _) Es

theorem Bb:zE:=fun w=>Bc te Di none 0 0 [] 0 none 0 0 w (qM w) qL pz (Row.nil _ _) Es

end Go.Proofs.YtkaojflnghfmcaaGreatDoor
