/- Put together of: Pow1 Sho2 Sho3 LimH Ref6o Ref7B Ref7C RinA RinB RinC. -/
import Derived.Test.YtkaojflnghfmcaaGreatDoorQA14

namespace Go.Proofs.YtkaojflnghfmcaaGreatDoor
set_option maxRecDepth 100000
set_option maxHeartbeats 4000000
open Go.RowKit

def mon (n V X:Nat):Nat:=2^(64*n)*X%V

theorem lL {n V X:Nat} (hV:0<V):mon n V X<V:=Nat.mod_lt _ hV

theorem vw {n V A B Y:Nat} (a:V%2=1) (h1:Y<V) (h2:2^(64*n)*Y%V=mon n V A*mon n V B%V):Y=mon n V (A*B):=by
 have b:Nat.Coprime (2^(64*n)) V:=(dY a).symm;refine (ak h1).symm.trans ?_;unfold mon at *;refine fd b ?_;rw [h2,← Nat.mul_mod]
 congr 1
 generalize 2^(64*n)=R
 grind

theorem qA {n V A Y:Nat} (a:V%2=1) (h1:Y<V) (h2:2^(64*n)*Y%V=mon n V A%V):Y=A%V:=by
 have b:Nat.Coprime (2^(64*n)) V:=(dY a).symm;refine (ak h1).symm.trans ?_;refine fd b ?_;rw [h2];unfold mon;rw [Nat.mod_mod]

structure Mod8 (w:World) (o:Tr) (ao bo:Option Addr) (n l K mcap rcap:Nat) (ms rs:List Nat):Prop where
 hm:RowT w o (.slice ao n mcap) ms
 hr:RowT w o (.slice bo l rcap) rs
 hmd:Digs ms
 hrd:Digs rs
 hK:K<18446744073709551616
 ok:okMod ms K rs

theorem Mod8.grew {w w':World} {o:Tr} {ao bo:Option Addr} {n l K a b:Nat} {ms rs:List Nat} (h:Mod8 w o ao bo n l K a b ms rs) (k:Kept af w w'):Mod8 w' o ao bo n l K a b ms rs:=⟨h.hm.grew k,h.hr.grew k,h.hmd,h.hrd,h.hK,h.ok⟩

theorem Mod8.facts {w:World} {o:Tr} {ao bo:Option Addr} {n l K a b:Nat} {ms rs:List Nat} (h:Mod8 w o ao bo n l K a b ms rs):(0<n∧n≤130)∧l=n∧val ms%2=1∧2≤val ms∧val ms<18446744073709551616^n:=by
 obtain ⟨_,_,_,e1,h1,_⟩:=h.hm.1.open;cases e1
 obtain ⟨_,_,_,e1,h2,_⟩:=h.hr.1.open;cases e1
 obtain ⟨_,f2,f3,f4,f5,f6,_⟩:=h.ok.facts h1.out h2.out h.hmd h.hrd h.hK;have m:=eJ h.ok.1;exact ⟨⟨f2,f3⟩,f4,f5,by omega,f6⟩

theorem lN {n V P:Nat} (hV:0<V) (hn:V<18446744073709551616^n):val (digs (mon n V P) n)=mon n V P:=by
 rw [al,ak (Nat.lt_trans (lL hV) hn)]

open Go.RowKit Go.Shelf

attribute [local go_sem] Oper.semAt_some

def MonR (w:World) (v:Value) (n V P:Nat):Prop:=Row .u64 w v (digs (mon n V P) n)

theorem MonR.grew {w w':World} {v:Value} {n V P:Nat} (h:MonR w v n V P) (k:Kept af w w'):MonR w' v n V P:=Row.grew h k

theorem MonR.shape {w:World} {v:Value} {n V P:Nat} (h:MonR w v n V P):∃ xo xc,v=.slice xo n xc:=by
 obtain ⟨xo,xn,xc,rfl,hl,_⟩:=Row.open h;have:=hl.out;rw [ag] at this;subst this;exact ⟨_,_,rfl⟩

theorem BE (ao bo xo yo:Option Addr) (n l K a b xc yc P Q:Nat) (ms rs:List Nat) (w:World) (hM:Mod8 w none ao bo n l K a b ms rs) (hx:MonR w (.slice xo n xc) n (val ms) P) (hy:MonR w (.slice yo n yc) n (val ms) Q) :
  Calls Tryz.prog 126 #[.pointer none,.agg #[.slice ao n a,.int .u64 (K:Nat),.slice bo l b],.slice xo n xc,.slice yo n yc] w fun e w'=>∃ zo zc,e=.returned (.tuple #[.slice zo n zc,.int .i64 0])∧MonR w' (.slice zo n zc) n (val ms) (P*Q)∧Fresh w (.slice zo n zc)∧Kept af w w':=by
 obtain ⟨⟨f0,f1⟩,f2,f3,f4,f5⟩:=hM.facts;have hV:0<val ms:=by omega
 have ex:=lN (P:=P) hV f5;have ey:=lN (P:=Q) hV f5;refine (BC none ao bo xo yo n l K a b n n xc yc 0 ms rs _ _ w (TrRoom.none w _ (by omega)) hM.hm hM.hr (RowT.none hx) (RowT.none hy) hM.hmd hM.hrd (ai (by omega) _ _) (ai (by omega) _ _) hM.hK (by omega) ⟨fun _=>⟨hM.ok,⟨rfl,by rw [ex];exact lL hV⟩,rfl,by rw [ey];exact lL hV⟩,fun _=>rfl⟩ (by omega)).mono ?_;rintro e w' ⟨v',rfl,⟨Y,hR,hG⟩,⟨hF,hU⟩,o',d⟩;rw [if_pos rfl] at hR;have c:=hG rfl;rw [ex,ey] at c;rw [vw f3 c.1 c.2] at hR;have hA:MonR w' v' n (val ms) (P*Q):=hR;obtain ⟨zo,zc,rfl⟩:=hA.shape;exact ⟨zo,zc,rfl,hA,hF,d.none.2⟩

theorem BI (ao bo:Option Addr) (n l K a b:Nat) (ms rs:List Nat) (w:World) (hM:Mod8 w none ao bo n l K a b ms rs) :
  Calls Tryz.prog 124 #[.agg #[.slice ao n a,.int .u64 (K:Nat),.slice bo l b]] w fun e w'=>∃ zo zc,e=.returned (.slice zo n zc)∧MonR w' (.slice zo n zc) n (val ms) 1∧Kept af w w':=by
 obtain ⟨⟨f0,f1⟩,f2,f3,f4,f5⟩:=hM.facts;refine (BD ao bo n l K a b ms rs (digs (mon n (val ms) 1) n) w hM.hm.1 hM.hr.1 hM.hmd hM.hrd hM.hK (by omega) (fun _=>by unfold mon;rw [Nat.mul_one]) (fun h=>absurd hM.ok h)).mono ?_;rintro e w' ⟨v',rfl,hR,k⟩;have hA:MonR w' v' n (val ms) 1:=hR;obtain ⟨zo,zc,rfl⟩:=hA.shape;exact ⟨zo,zc,rfl,hA,k⟩

structure RS9 (W1 W w:World) (bP n V P:Nat) (qv:Value):Prop where
 box:Box w bP qv 23
 num:MonR w qv n V P
 ne:∀ b,qv.ownBlock=some b→b≠bP
 old:Kept af W1 w
 kept:Kept (fun b=>b=bP) W w

theorem RS9.step {W1 W w w':World} {bP n V P:Nat} {qv:Value} (h:RS9 W1 W w bP n V P qv) (k:Kept af w w'):RS9 W1 W w' bP n V P qv:=
 ⟨h.box.grew k,h.num.grew k,h.ne,h.old.trans k,h.kept.next k (fun _ _ f=>f.elim)⟩

theorem RS9.put {W1 W w:World} {bP n V P Q:Nat} {qv zv:Value} (h:RS9 W1 W w bP n V P qv) (hz:MonR w zv n V Q) (a:∀ b,zv.ownBlock=some b→b≠bP) (hb:W1.heap.size≤bP):RS9 W1 W (w.setCell ⟨bP,0,none⟩ zv) bP n V Q zv:=by
 have kb:=ar w bP zv;exact ⟨h.box.set zv,Row.kept hz kb a,a,dJ h.old kb hb,h.kept.next kb (fun _ _ f=>f)⟩

def il {N:Nat} (g:Nat→Nat) (pre:List (Fin N)):Nat:=nY (pre.map fun x=>g x.val)

theorem kn {N:Nat} (g:Nat→Nat) (a:List (Fin N)) (x:Fin N):il g (a ++ [x])=2*il g a+g x.val:=by
 unfold il;rw [List.map_append,List.map_cons,List.map_nil,ko]

theorem rM {N:Nat} {g:Nat→Nat} {ys:List (Fin N)} (h:ys.map Fin.val=List.range N):il g ys=nY ((List.range N).map g):=by
 unfold il;rw [← h,List.map_map];rfl

def Btw9 (W1:World) (bP n V X:Nat) (ev:Value) {N:Nat} (g:Nat→Nat) (pre:List (Fin N)) (W:World):Prop:=
 ∃ (qo:Option Addr) (qc:Nat),RS9 W1 W W bP n V (X^il g pre) (.slice qo n qc)∧Box W (bP+1) ev 23

theorem Btw9.turn {W1:World} {bP n V X N B:Nat} {ev:Value} {g:Nat→Nat} {a:List (Fin N)} {W W':World} (h:Btw9 W1 bP n V X ev g a W) (t:Turn B W W') (hB:W1.heap.size≤B):Btw9 W1 bP n V X ev g a W':=by
 obtain ⟨qo,qc,h1,h2⟩:=h;exact ⟨qo,qc,⟨t.cells h1.box,t.row h1.num,h1.ne,t.kept h1.old hB,ah _ _⟩,t.cells h2⟩

theorem xj (ao bo xo eo:Option Addr) (n l0 K d i xc L a X:Nat) (ms rs ys:List Nat) (w:World) (hM:Mod8 w none ao bo n l0 K d i ms rs) (hx:MonR w (.slice xo n xc) n (val ms) X)
  (he:Row .u64 w (.slice eo L a) ys) (av:Digs ys) (hL:L≤300) :
  Calls Tryz.prog 67 #[.agg #[.slice ao n d,.int .u64 (K:Nat),.slice bo l0 i],.slice xo n xc,.slice eo L a] w fun e w'=>∃ zo zc,e=.returned (.slice zo n zc)∧MonR w' (.slice zo n zc) n (val ms) (X^val ys)∧Kept af w w':=by
 obtain ⟨⟨f0,f1⟩,f2,f3,f4,f5⟩:=hM.facts;obtain ⟨V,hV⟩:∃ V,V=val ms:=⟨_,rfl⟩
 rw [← hV] at f3 f4 f5 hx ⊢;obtain ⟨W0,C⟩:∃ W0,W0=(w.alloc (.cells #[.slice ao n d,.int .u64 (K:Nat),.slice bo l0 i] 70)).alloc (.cells #[.slice xo n xc] 23):=⟨_,rfl⟩
 have k0:Kept af w W0:=by rw [C];exact ((ah af w).alloc _).alloc _
 have S:W0.heap[w.heap.size]? = some (.cells #[.slice ao n d,.int .u64 (K:Nat),.slice bo l0 i] 70 (0,0)):=by
  rw [C];exact am (heap_alloc_new w _)
 have aj:Box W0 (w.heap.size+1) (.slice xo n xc) 23:=by
  rw [C];have:=Box.new (w.alloc (.cells #[.slice ao n d,.int .u64 (K:Nat),.slice bo l0 i] 70)) (.slice xo n xc) 23
  rwa [show (w.alloc (.cells #[.slice ao n d,.int .u64 (K:Nat),.slice bo l0 i] 70)).heap.size=w.heap.size+1 by simp] at this
 have JC:Hid (∀ W,Kept af W0 W→W.cell? ⟨w.heap.size,0,none⟩=some (.slice ao n d)∧W.cell? ⟨w.heap.size,1,none⟩=some (.int .u64 (K:Nat))∧W.cell? ⟨w.heap.size,2,none⟩=some (.slice bo l0 i)∧W.cell? ⟨w.heap.size+1,0,none⟩=some (.slice xo n xc)):=fun W k=>by
  obtain ⟨q0,q1,q2⟩:=aw ((k.block _ (lt_of_block S) (fun f=>f)).trans S);exact ⟨q0,q1,q2,(aj.grew k).cell⟩
 have z:Hid (Calls Tryz.prog 124 #[.agg #[.slice ao n d,.int .u64 (K:Nat),.slice bo l0 i]] W0 fun e w'=>∃ zo zc,e=.returned (.slice zo n zc)∧MonR w' (.slice zo n zc) n V 1∧Kept af W0 w'):=by
  have:=BI ao bo n l0 K d i ms rs W0 (hM.grew k0);rw [← hV] at this;exact this
 have y:Hid (∀ W yo yc zo zc P Q,Kept af W0 W→MonR W (.slice yo n yc) n V P→MonR W (.slice zo n zc) n V Q→Calls Tryz.prog 126 #[.pointer none,.agg #[.slice ao n d,.int .u64 (K:Nat),.slice bo l0 i],.slice yo n yc,.slice zo n zc] W fun e w'=>∃ ro rc,e=.returned (.tuple #[.slice ro n rc,.int .i64 0])∧MonR w' (.slice ro n rc) n V (P*Q)∧Fresh W (.slice ro n rc)∧Kept af W w'):=fun W yo yc zo zc P Q k hA hB=>by
  rw [hV] at hA hB ⊢;exact BE ao bo yo zo n l0 K d i yc zc P Q ms rs W (hM.grew (k0.trans k)) hA hB
 have JX:Hid (∀ W,Kept af W0 W→MonR W (.slice xo n xc) n V X):=fun W k=>hx.grew (k0.trans k)
 have O:Hid (∀ W,Kept af W0 W→Row .u64 W (.slice eo L a) ys):=fun W k=>he.grew (k0.trans k)
 obtain ⟨_,_,_,e1,o,_⟩:=he.open;cases e1
 have M:=aa o;have q:Hid (∀ b,(Value.slice eo L a).ownBlock=some b→0<L→b<w.heap.size):=fun b hb hp=>he.lt (by intro e;rw [e] at o;have:=o.out;simp at this;omega) b hb
 have aq:=aa C;have v:=aa k0;have an:=aa f0;obtain ⟨c0,c1,c2,c3⟩:=JC.out _ (ah af W0);have hO:=z.out;clear C k0 S aj hM hx he o hV f0 f2 f3 z;refine (callsIn_wide (n:=9)).1 ?_;refine callsIn_of_wp_marks Tryz.func67 rfl trivial ?_ rfl;simp only [Tryz.ntmps67,List.size_toArray,List.length_cons,List.length_nil,Nat.reduceAdd,Nat.reduceSub,Array.replicate_succ,Array.replicate_zero,List.push_toArray,List.append_toArray,List.nil_append,List.cons_append];refine wpIn_wide.2 ?_;go_wp2_with (rw [← aq.out]);refine hO.mono ?_;rintro e W1 ⟨po,pc,rfl,T,k1⟩;clear hO c0 c1 c2 c3;go_wp2_with fail;have ai:=zO eo L a (W1.alloc (.cells #[.slice po n pc] 23))
 refine ai.mono ?_;rintro e W3 ⟨rfl,rfl⟩;have kP:Kept af W1 (W1.alloc (.cells #[.slice po n pc] 23)):=(ah af W1).alloc _;have kE:=kP.alloc (.cells #[.slice eo L a] 23);have Z:=(Box.new W1 (.slice po n pc) 23).alloc (.cells #[.slice eo L a] 23);have R:=Box.new (W1.alloc (.cells #[.slice po n pc] 23)) (.slice eo L a) 23;have ax:((W1.alloc (.cells #[.slice po n pc] 23)).alloc (.cells #[.slice eo L a] 23)).heap.size=W1.heap.size+2:=by simp
 rw [World.size_alloc] at R;have U:=O.out _ (k1.trans kE);have E:∀ b,(Value.slice po n pc).ownBlock=some b→b≠W1.heap.size:=fun b hb e=>by
  have:=Row.lt T (by intro h;have h1:=congrArg List.length h;rw [ag] at h1;have h2:n=0:=h1;have:=an.out;omega) b hb;omega
 have R0:Hid (RS9 W1 _ _ W1.heap.size n V 1 (.slice po n pc)):=aa ⟨Z,T.grew kE,E,kE,ah _ _⟩;obtain ⟨N,hN⟩:∃ N,au (val ys)=N:=⟨_,rfl⟩
 obtain ⟨g,hg⟩:∃ g:Nat→Nat,∀ j,val ys/2^(N-1-j)%2=g j:=⟨_,fun _=>rfl⟩
 have HG:=aa hg;have HN:=aa hN;have K1:=aa k1;clear ai kP Z T E;go_wp2_with fail;generalize (W1.alloc (.cells #[.slice po n pc] 23)).alloc (.cells #[.slice eo L a] 23)=W3 at *;refine (wpIn_wide (n:=9)).1 ?_;refine wpIn_rangeFunc_ownG (F:=Fence.wide) (n:=9) rfl (by omega) (gf:=179) (lb:=#[.pointer (some ⟨W1.heap.size+1,0,none⟩)]) rfl trivial (enters_of Tryz.func179 (by kernel_rfl) rfl)
  (tK 8 (by omega) (W1.heap.size+1) L N g (.slice eo L a) ys av M.out.out hN (by omega) hg (fun k=>k=W1.heap.size+1∨((Value.slice eo L a).ownBlock=some k∧0<L)) (.inl rfl) (fun b hb hp=>.inr ⟨hb,hp⟩) _ ?hsw R.cell U) KeepB.trans (KeepB.put ?hsw2) (Below.refl _ _) (fun _=>rfl)
  (Btw9 W1 W1.heap.size n V X (.slice eo L a) g) (fun _ _ _=>False)
  (lO (fun s A B hs t=>hs.turn t (by rw [ax];omega))) (fun _ _ _ _ _ hs _ _=>hs)
  ⟨po,pc,by have:=R0.out;exact this,R⟩
  ?act ?assign ?body ?done ?stop
 case hsw=>
  rintro k (rfl | ⟨hk,hp⟩)
  ·omega
  ·have:=q.out k hk hp;have:=v.out.size;have:=K1.out.size;omega
 case hsw2=>
  rintro k (rfl | ⟨hk,hp⟩)
  ·omega
  ·have:=q.out k hk hp;have:=v.out.size;have:=K1.out.size;omega
 case assign=>
  intro l x W K hK
  gi_wp2
  exact hK
 case body=>
  rintro l p x W ⟨qo,qc,R1,J⟩ hlt;have Y:=aa J;have HX:Hid (g x.val<2):=by rw [← HG.out];exact Nat.mod_lt _ (by omega)
  have HR:=aa R1;have r:Hid (∀ (wE:World) (I:Option Addr) (tc:Nat),RS9 W1 W wE W1.heap.size n V (X^il g (p ++ [x])) (.slice I n tc)→KeepsFrom W3.heap.size W wE∧KeepB (fun k=>k=W1.heap.size+1∨((Value.slice eo L a).ownBlock=some k∧0<L)) W wE∧Btw9 W1 W1.heap.size n V X (.slice eo L a) g (p ++ [x]) wE):=fun wE I tc RE=>by
   have al:Box wE (W1.heap.size+1) (.slice eo L a) 23:=Y.out.kept RE.kept (by omega);refine ⟨jD RE.kept (fun b hb _=>?_),?_,I,tc,⟨RE.box,RE.num,RE.ne,RE.old,ah _ _⟩,al⟩
   ·subst hb;exact ⟨_,_,_,HR.out.box⟩
   ·rintro k (rfl | ⟨hk,hp⟩)
    ·exact (show wE.heap[_]? = _ from al).trans (show W.heap[_]? = _ from Y.out).symm
    ·have h1:=q.out k hk hp;have h2:=v.out.size;have h3:=K1.out.size;have h4:=HR.out.old.size;exact RE.kept.block k (by omega) (by omega)
  obtain ⟨q0,q1,q2,q3⟩:=JC.out _ (K1.out.trans R1.old);have qP:=R1.box.cell;have fP:=R1.box.free;have m:=y.out W qo qc qo qc _ _ (K1.out.trans R1.old) R1.num R1.num;rw [← Nat.pow_add] at m;clear R1 J
  gi_wp2_with fail
  refine ⟨trivial,?_⟩;refine (CallsIn.inRound l (callsIn_wide.2 m)).mono ?_;rintro e w7 ⟨so,sc,rfl,ab,ad,d7⟩;have R7:=HR.out.step d7;have G:∀ b,(Value.slice so n sc).ownBlock=some b→b≠W1.heap.size:=fun b hb e=>by
   have h1:=ad b hb;have h2:=HR.out.box.lt;omega
  have R8:=aa (R7.put ab G (leR _));have aA:=R7.box.cell;have ay:=R7.box.free;clear m ab ad d7 G R7 q0 q1 q2 q3 qP fP;by_cases h1:g x.val=1
  ·obtain ⟨q0,q1,q2,q3⟩:=JC.out _ (K1.out.trans R8.out.old);have qP:=R8.out.box.cell;have fP:=R8.out.box.free;have m:=y.out _ so sc xo xc _ _ (K1.out.trans R8.out.old) R8.out.num (JX.out _ (K1.out.trans R8.out.old));rw [← Nat.pow_succ,show (il g p+il g p).succ=il g (p ++ [x]) by rw [kn,h1];omega] at m;have gx:((g x.val:Nat):Int)=1:=by omega
   clear h1
   gi_wp2_with fail
   refine ⟨trivial,?_⟩;refine (CallsIn.inRound l (callsIn_wide.2 m)).mono ?_;rintro e w9 ⟨I,tc,rfl,ac,ae,d9⟩;have R9:=R8.out.step d9;have H:∀ b,(Value.slice I n tc).ownBlock=some b→b≠W1.heap.size:=fun b hb e=>by
    have h1:=ae b hb;have h2:=R8.out.box.lt;omega
   have ar:=aa (R9.put ac H (leR _));have aB:=R9.box.cell;have az:=R9.box.free;clear m ac ae d9 H R9 q0 q1 q2 q3 qP fP
   gi_wp2_with fail
   exact r.out _ _ _ ar.out
  ·have gx:¬ ((g x.val:Nat):Int)=1:=by omega
   have R9:=R8.out;rw [show il g p+il g p=il g (p ++ [x]) by rw [kn];have:=HX.out;omega] at R9;have ap:=aa R9;clear h1 R9
   gi_wp2_with fail
   exact r.out _ _ _ ap.out
 case done=>
  rintro D zs W hD ak ⟨qo,qc,R1,J⟩ hK;have qP:=R1.box.cell;have hE:il g zs=val ys:=by
   rw [rM ak,show g=fun j=>val ys/2^(N-1-j)%2 from funext (fun j=>(HG.out j).symm)];exact ux HN.out
  rw [hE] at R1;have HR:=aa R1;have HK:=aa hK;clear hE ak R1 J hg hN hK;go_wp2_with fail;refine ⟨by simp,.inl ⟨_,_,rfl,run_takeDeferred HK.out,?_⟩⟩;have tt:=tU (B:=W3.heap.size) hD HK.out rfl (.deferred none);exact ⟨_,results_tmp rfl _ _ _,qo,qc,rfl,tt.row HR.out.num,tt.kept (v.out.trans (K1.out.trans HR.out.old)) (by have h1:=v.out.size;have h2:=K1.out.size;omega)⟩
 case stop=>
  rintro D c p W _ _ h _;exact h.elim

theorem Br (ao bo xo:Option Addr) (n l K a b xc:Nat) (ms rs xs:List Nat) (w:World) (hM:Mod8 w none ao bo n l K a b ms rs) (hx:Row .u64 w (.slice xo n xc) xs) (f:Digs xs) (hlt:val xs<val ms) :
  Calls Tryz.prog 65 #[.pointer none,.agg #[.slice ao n a,.int .u64 (K:Nat),.slice bo l b],.slice xo n xc] w fun e w'=>∃ zo zc,e=.returned (.tuple #[.slice zo n zc,.int .i64 0])∧MonR w' (.slice zo n zc) n (val ms) (val xs)∧Kept af w w':=by
 obtain ⟨⟨f0,f1⟩,f2,f3,f4,f5⟩:=hM.facts;refine (sG none ao bo xo n l K a b n xc 0 ms rs xs w (TrRoom.none w _ (by omega)) hM.hm hM.hr (RowT.none hx) hM.hmd hM.hrd f hM.hK (by omega) ⟨fun _=>⟨hM.ok,rfl,hlt⟩,fun _=>rfl⟩ (by omega)).mono ?_;rintro e w' ⟨v',rfl,⟨Y,hR,hG⟩,_,o',d⟩;rw [if_pos rfl] at hR;have c:Y=mon n (val ms) (val xs):=hG rfl;rw [c] at hR;have hA:MonR w' v' n (val ms) (val xs):=hR;obtain ⟨zo,zc,rfl⟩:=hA.shape;exact ⟨zo,zc,rfl,hA,d.none.2⟩

theorem AN (ao bo xo:Option Addr) (n l K a b xc P:Nat) (ms rs:List Nat) (w:World) (hM:Mod8 w none ao bo n l K a b ms rs) (hx:MonR w (.slice xo n xc) n (val ms) P) :
  Calls Tryz.prog 66 #[.pointer none,.agg #[.slice ao n a,.int .u64 (K:Nat),.slice bo l b],.slice xo n xc] w fun e w'=>∃ v',e=.returned (.tuple #[v',.int .i64 0])∧(Row .u64 w' v' (digs (P%val ms) n)∧U64s w' v')∧Kept af w w':=by
 obtain ⟨⟨f0,f1⟩,f2,f3,f4,f5⟩:=hM.facts;have hV:0<val ms:=by omega
 have ex:=lN (P:=P) hV f5;refine (zf none ao bo xo n l K a b n xc 0 ms rs _ w (TrRoom.none w _ (by omega)) hM.hm hM.hr (RowT.none hx) hM.hmd hM.hrd (ai (by omega) _ _) hM.hK (by omega) ⟨fun _=>⟨hM.ok,rfl,by rw [ex];exact lL hV⟩,fun _=>rfl⟩ (by omega)).mono ?_;rintro e w' ⟨v',rfl,⟨Y,hR,hG⟩,⟨hF,hU⟩,o',d⟩;rw [if_pos rfl] at hR;have c:=hG rfl;rw [ex] at c;rw [qA f3 c.1 c.2] at hR;exact ⟨v',rfl,⟨hR,hU⟩,d.none.2⟩

theorem xi (ao bo xo eo:Option Addr) (n l K a b N1 xc L c:Nat) (ms rs xs ys:List Nat) (E:Nat)
  (hE:(E=0∧(okMod ms K rs∧(N1=n∧val xs<val ms))∧L≤300)∨(E=2∧(okMod ms K rs∧(N1=n∧val xs<val ms))∧300<L)∨(E=1∧¬ (okMod ms K rs∧(N1=n∧val xs<val ms))))
  (RL:List Nat) (g:RL=if E=0 then digs (val xs^val ys%val ms) n else []) (w:World)
  (hm:Row .u64 w (.slice ao n a) ms) (hr:Row .u64 w (.slice bo l b) rs) (hx:Row .u64 w (.slice xo N1 xc) xs) (hy:Row .u64 w (.slice eo L c) ys) (m:Digs ms) (p:Digs rs) (j:Digs xs) (r:Digs ys) (hK:K<18446744073709551616) (s:n≤300) :
  Calls Tryz.prog 32 #[.agg #[.slice ao n a,.int .u64 (K:Nat),.slice bo l b],.slice xo N1 xc,.slice eo L c] w fun e w'=>∃ v',e=.returned (.tuple #[v',.int .i64 ((E:Nat):Int)])∧(Row .u64 w' v' RL∧U64s w' v')∧Kept af w w':=by
 obtain ⟨W,hW⟩:∃ W,W=w.alloc (.cells #[.slice ao n a,.int .u64 (K:Nat),.slice bo l b] 70):=⟨_,rfl⟩
 have k0:Kept af w W:=by rw [hW];exact (ah af w).alloc _
 have q:W.heap[w.heap.size]? = some (.cells #[.slice ao n a,.int .u64 (K:Nat),.slice bo l b] 70 (0,0)):=by rw [hW];exact heap_alloc_new _ _
 have JC:Hid (∀ W',Kept af W W'→W'.cell? ⟨w.heap.size,0,none⟩=some (.slice ao n a)∧W'.cell? ⟨w.heap.size,1,none⟩=some (.int .u64 (K:Nat))∧W'.cell? ⟨w.heap.size,2,none⟩=some (.slice bo l b)):=fun W' k=>aw ((k.block _ (lt_of_block q) (fun f=>f)).trans q)
 have HW:=aa hW;have t:=aa k0;obtain ⟨p0,p1,p2⟩:=JC.out _ (ah af W);by_cases hP:okMod ms K rs∧(N1=n∧val xs<val ms)
 ·obtain ⟨o,rfl,hlt⟩:=hP;have hM:Mod8 w none ao bo N1 l K a b ms rs:=⟨RowT.none hm,RowT.none hr,m,p,hK,o⟩
  have i:=Br ao bo xo N1 l K a b xc ms rs xs W (hM.grew k0) (hx.grew k0) j hlt;by_cases hL:L≤300
  ·obtain rfl:E=0:=by
    rcases hE with h | h | h
    ·exact h.1
    ·omega
    ·exact absurd ⟨o,rfl,hlt⟩ h.2
   rw [if_pos rfl] at g;have gL:¬ (L:Int) > 300:=by omega
   have JR:Hid (∀ W' zo zc,Kept af W W'→MonR W' (.slice zo N1 zc) N1 (val ms) (val xs)→Calls Tryz.prog 67 #[.agg #[.slice ao N1 a,.int .u64 (K:Nat),.slice bo l b],.slice zo N1 zc,.slice eo L c] W' fun e w'=>∃ yo yc,e=.returned (.slice yo N1 yc)∧MonR w' (.slice yo N1 yc) N1 (val ms) (val xs^val ys)∧Kept af W w'):=fun W' zo zc k h=>by
    refine (xj ao bo zo eo N1 l K a b zc L c _ ms rs ys W' (hM.grew (k0.trans k)) h (hy.grew (k0.trans k)) r hL).mono ?_;rintro e w' ⟨yo,yc,rfl,h1,h2⟩;exact ⟨yo,yc,rfl,h1,k.trans h2⟩
   have JL:Hid (∀ W' zo zc,Kept af W W'→MonR W' (.slice zo N1 zc) N1 (val ms) (val xs^val ys)→Calls Tryz.prog 66 #[.pointer none,.agg #[.slice ao N1 a,.int .u64 (K:Nat),.slice bo l b],.slice zo N1 zc] W' fun e w'=>∃ v',e=.returned (.tuple #[v',.int .i64 0])∧(Row .u64 w' v' RL∧U64s w' v')∧Kept af W w'):=fun W' zo zc k h=>by
    refine (AN ao bo zo N1 l K a b zc _ ms rs W' (hM.grew (k0.trans k)) h).mono ?_;rintro e w' ⟨v',rfl,⟨h1,h3⟩,h2⟩;rw [← g] at h1;exact ⟨v',rfl,⟨h1,h3⟩,k.trans h2⟩
   clear hE g hm hr hx hy m p j r hK hW k0 q o hlt hM hL s;generalize val ms=V at *;generalize val xs=X at *;generalize X^val ys=Y at *;go_enter Tryz.func32,Tryz.ntmps32;go_wp2_with (rw [← HW.out]);refine i.mono ?_;rintro e w1 ⟨zo,zc,rfl,x,k1⟩;obtain ⟨q0,q1,q2⟩:=JC.out _ k1;have kd:Kept af W w1.drew:=k1.drew;have y:=x.grew (ah af w1).drew;clear i p0 p1 p2;go_wp2_with fail;go_region_held3 (fun w'=>w'.cell? ⟨w.heap.size,0,none⟩=some (.slice ao N1 a)∧w'.cell? ⟨w.heap.size,1,none⟩=some (.int .u64 (K:Int))∧w'.cell? ⟨w.heap.size,2,none⟩=some (.slice bo l b))
    (((try dsimp only);(repeat' apply And.intro) <;> first | (go_keep;done) | assumption))
    (first
    | (go_at_call 67;refine (JR.out _ zo zc kd y).mono ?_;rintro e w2 ⟨yo,yc,rfl,z,k2⟩;obtain ⟨s0,s1,s2⟩:=JC.out _ k2)
    | (go_at_call 66;refine (JL.out _ yo yc k2 z).mono ?_;rintro e w4 ⟨v4,rfl,A,k4⟩;obtain ⟨t0,t1,t2⟩:=JC.out _ k4))
   all_goals
    go_wp2_with fail;go_ret2;exact ⟨_,rfl,A,t.out.trans k4⟩
  ·obtain rfl:E=2:=by
    rcases hE with h | h | h
    ·exact absurd h.2.2 hL
    ·exact h.1
    ·exact absurd ⟨o,rfl,hlt⟩ h.2
   rw [if_neg (by omega)] at g;have gL:(L:Int) > 300:=by omega
   have v:=aa g;clear hE g hm hr hx hy m p j r hK hW k0 q o hlt hM hL s;go_enter Tryz.func32,Tryz.ntmps32;go_wp2_with (rw [← HW.out]);refine i.mono ?_;rintro e w1 ⟨zo,zc,rfl,x,k1⟩;clear i p0 p1 p2 x;go_wp2_with fail;go_ret2;exact ⟨_,rfl,⟨by rw [v.out];exact Row.nil _ _,U64s.nil _⟩,t.out.trans k1⟩
 ·obtain rfl:E=1:=by
   rcases hE with h | h | h
   ·exact absurd h.2.1 hP
   ·exact absurd h.2.1 hP
   ·exact h.1
  rw [if_neg (by omega)] at g;have v:=aa g;have i:Calls Tryz.prog 65 #[.pointer none,.agg #[.slice ao n a,.int .u64 (K:Nat),.slice bo l b],.slice xo N1 xc] W fun e w'=>∃ v',e=.returned (.tuple #[v',.int .i64 1])∧Kept af W w':=by
   refine (sG none ao bo xo n l K a b N1 xc 1 ms rs xs W (TrRoom.none W _ (by omega)) (RowT.none (hm.grew k0)) (RowT.none (hr.grew k0)) (RowT.none (hx.grew k0)) m p j hK s ⟨fun h=>absurd h (by omega),fun h=>absurd h hP⟩ (by omega)).mono ?_;rintro e w' ⟨v',rfl,_,_,o',d⟩;exact ⟨v',rfl,d.none.2⟩
  clear hE g hm hr hx hy m p j r hK hW k0 q hP s;go_enter Tryz.func32,Tryz.ntmps32;go_wp2_with (rw [← HW.out]);refine i.mono ?_;rintro e w1 ⟨v1,rfl,k1⟩;clear i p0 p1 p2;go_wp2_with fail;go_ret2;exact ⟨_,rfl,⟨by rw [v.out];exact Row.nil _ _,U64s.nil _⟩,t.out.trans k1⟩

theorem zJ (ao bo xo eo:Option Addr) (n l K b c N1 xc L a:Nat) (ms rs xs ys:List Nat) (E:Nat)
  (hE:(E=0∧(okMod ms K rs∧(N1=n∧val xs<val ms))∧L≤300)∨(E=2∧(okMod ms K rs∧(N1=n∧val xs<val ms))∧300<L)∨(E=1∧¬ (okMod ms K rs∧(N1=n∧val xs<val ms))))
  (RL:List Nat) (d:RL=if E=0 then digs (val xs^val ys%val ms) n else []) (w:World)
  (hm:Row .u64 w (.slice ao n b) ms) (hr:Row .u64 w (.slice bo l c) rs) (hx:Row .u64 w (.slice xo N1 xc) xs) (hy:Row .u64 w (.slice eo L a) ys) (h:Digs ms) (j:Digs rs) (f:Digs xs) (g:Digs ys) (hK:K<18446744073709551616) (i:n≤300) :
  Calls Tryz.prog 32 #[.agg #[.slice ao n b,.int .u64 (K:Nat),.slice bo l c],.slice xo N1 xc,.slice eo L a] w fun e w'=>∃ v',e=.returned (.tuple #[v',.int .i64 ((E:Nat):Int)])∧Row .u64 w' v' RL∧Kept af w w':=
 (xi ao bo xo eo n l K b c N1 xc L a ms rs xs ys E hE RL d w hm hr hx hy h j f g hK i).mono fun _ _ ⟨v',h1,h2,h3⟩=>⟨v',h1,h2.1,h3⟩

theorem pY {X t n p:Nat} (hp:p<n):dig X p=dig (X+t*18446744073709551616^n) p:=by
 unfold dig;have e:t*18446744073709551616^n=18446744073709551616^p*(t*18446744073709551616^(n-p-1)*18446744073709551616):=by
  rw [show n=p+((n-p-1)+1) by omega,Nat.pow_add,Nat.pow_succ,show p+(n-p-1+1)-p-1=n-p-1 by omega];simp only [Nat.mul_left_comm,Nat.mul_comm]
 rw [e,Nat.add_mul_div_left _ _ (Nat.pow_pos (by omega)),Nat.add_mul_mod_self_right]

theorem qM (Z p:Nat):dig (Z/2) p=dig Z p/2+9223372036854775808*(Z/18446744073709551616^(p+1)%2):=by
 unfold dig;rw [Nat.pow_succ,← Nat.div_div_eq_div_mul,Nat.div_div_eq_div_mul Z 2,Nat.mul_comm 2,← Nat.div_div_eq_div_mul];generalize Z/18446744073709551616^p=T;omega

theorem zQ (x c:Nat) (hx:x<18446744073709551616) (hc:c≤1):bits .or .u64 ((x/2:Nat):Int) ((9223372036854775808*c:Nat):Int)=((x/2+9223372036854775808*c:Nat):Int):=by
 rw [u64_or_nat _ _ (by omega) (by omega)]
 congr 1
 rw [Nat.or_comm,Nat.add_comm,show 9223372036854775808*c=2^63*c from rfl,← Nat.two_pow_add_eq_or_of_lt (by omega:x/2<2^63)]

theorem xq (D:List Nat) (n k m:Nat) (hl:D.length=n) (hk:k<n) (hm:m=n-1-k):(List.replicate (n-k) 0 ++ D.drop (n-k)).set m (D.getD m 0)=List.replicate (n-(k+1)) 0 ++ D.drop (n-(k+1)):=by
 rw [show n-(k+1)=m by omega,show n-k=m+1 by omega,List.replicate_succ',List.append_assoc,List.set_append_right _ _ (by simp),List.length_replicate,Nat.sub_self,List.drop_eq_getElem_cons (show m<D.length by omega),List.getD_eq_getElem?_getD,List.getElem?_eq_getElem (show m<D.length by omega)];simp

theorem tT {w:World} {base g n k m:Nat} {t:TypeId} {D:List Nat} (h:OwnN .u64 t w base (.slice (some ⟨g,0,none⟩) n n) n (List.replicate (n-k) 0 ++ D)) (hk:k<n) (hm:m=n-1-k):w.cell? ⟨g,m,none⟩=some (.int .u64 0):=by
 rw [World.ownsRow.cellAt h m (by omega),List.getElem?_map,List.getElem?_append_left (by simp;omega),List.getElem?_replicate,if_pos (by omega)];rfl

theorem yY (o:Tr) (u:Value) (xs:List Nat) (bit:Nat) (M:bit<18446744073709551616) (w:World) (ht:TrRoom w o 1) (hu:RowT w o u xs) (q:Digs xs) (hL:xs.length≤100000000) :
  Calls Tryz.prog 254 #[aB o,u,.int .u64 (bit:Nat)] w fun e w'=>∃ v',e=.returned (.tuple #[v',.int .u64 ((val xs+bit%2*18446744073709551616^xs.length)%2:Nat)]) ∧
   OwnN .u64 24 w' w.heap.size v' xs.length (digs ((val xs+bit%2*18446744073709551616^xs.length)/2) xs.length)∧∃ o',Did w o [(1,(xs.length:Nat),0)] w' o':=by
 obtain ⟨i0,N,Q,R,S⟩:=info_parts Tryz.info24;have l:=and_one_u64 (bit:Int) (by omega) (by omega);obtain ⟨bt,t⟩:∃ bt,bt=bit%2:=⟨_,rfl⟩
 rw [show (bit:Int)%2=(bt:Int) by omega] at l;rw [← t];have L:bt≤1:=by omega
 clear t;have a:=aa (ft q);have hX:Hid (val xs<18446744073709551616^xs.length):=cf q (leR _);obtain ⟨ao,n,H,rfl,j,_,_,_,_⟩:=hu.1.open;have ac:n≤100000000:=by rw [← j.out];exact hL
 rw [j.out] at hX a ⊢;have HU:Hid (RowT w o (.slice ao n H) xs):=hu;have HT:Hid (TrRoom w o 1):=ht;have hS:=dM o n w ht.1;obtain ⟨tp,B⟩:∃ tp,tp=aB o:=⟨_,rfl⟩
 rw [← B] at hS ⊢;clear hu ht j q B hL;generalize val xs=X at *;have hD:Hid (∀ p,p<n→dig X p=dig (X+bt*18446744073709551616^n) p):=fun p hp=>pY hp
 have I:Hid (bt=(X+bt*18446744073709551616^n)/18446744073709551616^n%2):=by
  unfold Hid;rw [Nat.add_mul_div_right _ _ (Nat.pow_pos (by omega)),Nat.div_eq_of_lt hX.out];omega
 generalize X+bt*18446744073709551616^n=Z at *;obtain ⟨C,hC⟩:∃ C,C=Z%2:=⟨_,rfl⟩
 rw [← hC];have HC:=aa hC;clear hC;go_enter Tryz.func254,Tryz.ntmps254;go_wp2_with fail;refine hS.mono ?_;rintro e w4 ⟨rfl,o2,d2⟩;have d4:=aa d2;have y:=HU.out.did d2;obtain ⟨a1,n1,c1,e1,J,_,_,_,f⟩:=y.1.open;simp only [Value.slice.injEq] at e1;obtain ⟨rfl,rfl,rfl⟩:=e1;have P:Hid (w.heap.size≤w4.heap.size):=d2.size;rw [← a.out] at f;clear hS d2 y J;go_wp2_with (at_make;refine wpList_make_full _ rfl _ _ 23 rfl w4.heap.size 24 i0 _ 1 Tryz.underlying23 N Q R _ _ _ _ n rfl rfl rfl rfl (by rw [S];omega) (by unfold maxLen;omega) (leR _) ?_;intro w5 g v);rw [aG] at g;have k5:=aC v;clear v
 go_loopw [10,23] (fun c i wr=>∃ (k c':Nat),k≤n∧c'≤1∧i=.int .i64 (k:Int)∧c=.int .u64 (c':Int)∧OwnN .u64 24 wr w4.heap.size (.slice (some ⟨w4.heap.size,0,none⟩) n n) n (List.replicate (n-k) 0 ++ (digs (Z/2) n).drop (n-k))∧Kept af w4 wr ∧
   Hid (c'=Z/18446744073709551616^(n-k)%2)) (fun _ i _=>n-(intOf i).toNat)
 case atStart=>exact ⟨0,bt,Nat.zero_le _,L,rfl,rfl,by rw [Nat.sub_zero,List.drop_eq_nil_of_le (by rw [ag];exact leR _),List.append_nil];exact g,k5,I⟩
 case round=>
  obtain ⟨k,c,hk,hc,rfl,rfl,ho,r,d⟩:=hrel;by_cases hkn:k<n
  ·have W:(0:Int)≤(k:Int):=Int.natCast_nonneg _;have O:(k:Int)<(n:Int):=by omega
   obtain ⟨m,hm⟩:∃ m,m=n-1-k:=⟨_,rfl⟩
   obtain ⟨b1,T,rfl,V⟩:=cD ((f m (by omega)).grew r) (by omega);have U:=tT ho hkn hm;have hf:=World.ownsRow.frozenAt ho m;have A:=fun u=>(World.ownsRow.stored ho m u).1
   have hx:dig X m<18446744073709551616:=Nat.mod_lt _ (by omega);obtain ⟨z,hz⟩:∃ z:Nat,z=dig X m/2+9223372036854775808*c:=⟨_,rfl⟩
   have D:z=dig (Z/2) m:=by
    rw [hz,qM,hD.out m (by omega),d.out,show m+1=n-k by omega]
   have G:Hid (OwnN .u64 24 (wr.setCell ⟨w4.heap.size,m,none⟩ (.int .u64 (z:Int))) w4.heap.size (.slice (some ⟨w4.heap.size,0,none⟩) n n) n (List.replicate (n-(k+1)) 0 ++ (digs (Z/2) n).drop (n-(k+1)))):=by
    have:=A (.int .u64 (z:Int));unfold Hid OwnN;rw [← xq _ n k m (ag _ _ _) hkn hm,eW _ _ _ _ (by omega),← D,List.map_set];exact this
   have E:Hid (dig X m%2=Z/18446744073709551616^(n-(k+1))%2):=by
    unfold Hid;rw [hD.out m (by omega),show n-(k+1)=m by omega];unfold dig;omega
   have ad:(n:Int)-1-(k:Int)=(m:Int):=by omega
   have Y:(0:Int)≤(m:Int):=Int.natCast_nonneg _;have ab:(m:Int)<(n:Int):=by omega
   have HM:Hid (m=n-1-k):=hm;clear f d A g k5 D hm;generalize dig X m=x at *;have F:Hid (bits .or .u64 ((x:Int)/2) ((c:Int)*9223372036854775808)=(z:Int)):=by
    unfold Hid;rw [show ((c:Int)*9223372036854775808)=((9223372036854775808*c:Nat):Int) by omega,show (x:Int)/2=((x/2:Nat):Int) by omega,zQ x c hx hc,hz]
   have s:=and_one_u64 (x:Int) (by omega) (by omega);clear hz;go_wp2_with fail;go_region
   all_goals
    go_wp2_with fail;rw [F.out];go_roundw
    case rel=>exact ⟨k+1,x%2,by omega,by omega,by go_num,rfl,G.out,(r.setCell _ (fun h=>by simp at h) _).drew,E⟩
    case measure=>simp [intOf];omega
  ·have O:¬ (k:Int)<(n:Int):=by omega
   have e:k=n:=by omega
   subst e;rw [Nat.sub_self,List.replicate_zero,List.nil_append,List.drop_zero] at ho;have E2:Hid (C=c):=by
    have:=d.out;rw [Nat.sub_self,Nat.pow_zero,Nat.div_one] at this;exact HC.out.trans this.symm
   clear f d g k5;go_wp2_with fail;go_ret2;rw [E2.out];exact ⟨_,rfl,aR ho (fun b hb=>Nat.le_trans P.out (ho.lt b hb).1),o2,d4.out.grew r⟩

theorem mV (w:World):Kept af w w:=ah af w

theorem mU {a w:World} (h:Kept af a w):Kept af a w.drew:=h.drew

theorem iJ {a w:World} (o:Obj) (h:Kept af a w):Kept af a (w.alloc o):=h.alloc o

def fi (x y V:Nat):Nat:=if y≤x then x-y else x+V-y

def si (x V:Nat):Nat:=(if x%2=1 then x+V else x)/2

theorem oL (b:Bool):aX b≤1:=by unfold aX;split <;> omega

theorem kt {a b n:Nat} (h:a%18446744073709551616^n=b%18446744073709551616^n):digs a n=digs b n:=
 aN (by omega) (ai (by omega) _ _) (ag _ _ _) (by rw [al];exact h)

theorem xy {X Z V n:Nat} (_:X<V) (hZ:Z<V) (hV:V<18446744073709551616^n):digs (aO (aX (decide (X<Z))) (dm X Z n%18446744073709551616^n+V) (dm X Z n%18446744073709551616^n)) n=digs (fi X Z V) n:=by
 apply kt;unfold dm fi aO aX;rw [← B64];generalize 18446744073709551616^n=P at *;by_cases h:X<Z
 ·rw [aU h,if_pos rfl,if_pos rfl,if_pos h,if_neg (by omega),ak (show X+P-Z<P by omega),show X+P-Z+V=X+V-Z+P by omega,Nat.add_mod_right]
 ·rw [if_neg h,if_pos (show Z≤X by omega)];simp [h]

theorem xu {X Z V:Nat} (hX:X<V) (hZ:Z<V):fi X Z V<V:=by
 unfold fi
 split <;> omega

theorem Ap (o:Tr) (ao bo xo yo:Option Addr) (n n1 a rl f xc yc:Nat) (K:Int) (xs ys ms:List Nat) (w:World) (ht:TrRoom w o 2) (hx:RowT w o (.slice xo n1 xc) xs) (hy:RowT w o (.slice yo n yc) ys) (hm:RowT w o (.slice ao n a) ms) (s:Digs xs) (t:Digs ys) (q:Digs ms) (hn:n≤100000) (v:n1≤n) :
  Calls Tryz.prog 203 #[aB o,.agg #[.slice ao n a,.int .u64 K,.slice bo rl f],.slice xo n1 xc,.slice yo n yc] w fun e w'=>∃ v',e=.returned v'∧gO w o (List.replicate 2 (1,(n:Int),0)) n (fun Y=>val xs<val ms→val ys<val ms→digs Y n=digs (fi (val xs) (val ys) (val ms)) n) w' v':=by
 obtain ⟨_,_,_,e1,l,_,_,_,_⟩:=hx.1.open;cases e1
 obtain ⟨_,_,_,e1,m,_,_,_,_⟩:=hy.1.open;cases e1
 obtain ⟨_,_,_,e1,j,_,_,_,_⟩:=hm.1.open;cases e1
 have p:val ms<18446744073709551616^n:=by rw [← j.out];exact ap (by omega) q
 have k0:Kept af w (w.alloc (.cells #[.slice ao n a,.int .u64 K,.slice bo rl f] 70)):=(ah af w).alloc _;have h:(w.alloc (.cells #[.slice ao n a,.int .u64 K,.slice bo rl f] 70)).heap[w.heap.size]? = some (.cells #[.slice ao n a,.int .u64 K,.slice bo rl f] 70 (0,0)):=heap_alloc_new _ _;obtain ⟨X,hX⟩:∃ X,X=val xs:=⟨_,rfl⟩
 obtain ⟨Z,hZ⟩:∃ Z,Z=val ys:=⟨_,rfl⟩
 obtain ⟨V,hV⟩:∃ V,V=val ms:=⟨_,rfl⟩
 rw [← hX,← hZ,← hV];rw [← hV] at p;have g:=sB o _ _ xs ys _ ((ht.less (by omega)).grew k0) (hx.grew k0) (hy.grew k0) s t (by rw [l.out];omega) (by rw [m.out];omega);rw [l.out,m.out,Nat.max_eq_right v,← hX,← hZ] at g;have HN:=aa (fun h1 h2=>xy (X:=X) (Z:=Z) (V:=V) (n:=n) h1 h2 p);obtain ⟨c,hc⟩:∃ c,c=aX (decide (X<Z)):=⟨_,rfl⟩
 have F:c≤1:=by rw [hc];exact oL _
 rw [← hc] at g HN;have r:Hid (∀ (W:World) (o1:Tr) (m1:List Ev) (v1:Value),Did w o m1 W o1→m1.length=1→RowT W o1 v1 (digs (dm X Z n) n)→Calls Tryz.prog 204 #[aB o,.int .u64 (c:Nat),v1,.slice ao n a] W fun e w'=>∃ v' c',e=.returned (.tuple #[v',.int .u64 c'])∧OwnN .u64 24 w' W.heap.size v' n (digs (aO c (dm X Z n%18446744073709551616^n+V) (dm X Z n%18446744073709551616^n)) n)∧∃ o',Did W o1 [(1,(n:Nat),0)] w' o'):=fun W o1 m1 v1 d hl hr=>by
  have:=oC o1 c (by omega) v1 _ _ ms W (d.room (by rw [hl];exact ht.less (by omega))) hr (hm.did d) (ai (by omega) _ _) q (by rw [ag];omega) (by rw [j.out];omega);rw [ag,j.out,Nat.max_self,al,← hV,d.ptr] at this;refine this.mono ?_;rintro e w' ⟨v',rfl,h1,h2⟩;exact ⟨v',_,rfl,h1,h2⟩
 have HT:=aa ht.1;have z:=aa ht;obtain ⟨po,y⟩:=aF o;rw [y] at g r ⊢;have K0:=aa k0;clear hm hx hy ht l m j s t q k0 hX hZ hV p hc y v;obtain ⟨p0,p1,p2⟩:=aw h;go_enter Tryz.func203,Tryz.ntmps203;go_wp2_with fail;refine g.mono ?_;rintro e w1 ⟨v1,rfl,B,o1,d1⟩;have i:=Did.after K0.out d1;have D:=(d1.kept.block _ (lt_of_block h) (ay h (HT.out.grew K0.out) (by decide) (by decide))).trans h;have E:=(i.room (k:=0) (z.out.less (by simp))).1;have C:=dK B (ag _ _ _) E;obtain ⟨q0,q1,q2⟩:=aw D;have A:=r.out w1 o1 _ v1 i rfl C;clear g p0 p1 p2 h;go_wp2_with fail;refine A.mono ?_
 rintro e w2 ⟨v2,c2,rfl,x,o2,d2⟩;go_wp2_with fail;go_ret;refine ⟨_,rfl,_,o2,aR x (fun b hb=>?_),(fun h1 h2=>HN.out h1 h2),i.trans d2⟩;have:=(x.lt b hb).1;have:=i.size;omega

theorem xW (ao bo lo:Option Addr) (n l a b c g:Nat) (K:Int) (A:Nat→Option Addr) (N C:Nat→Nat) (R:Bool) (hR:R=true↔(∀ i,i<c→N i=n)∧n≤130) (w:World) (hs:Slots w lo c A N C) (p:c≤1000) (hN:∀ i,i<c→N i≤1000000000) (hn:n≤1000000000) :
  Calls Tryz.prog 200 #[.agg #[.slice ao n a,.int .u64 K,.slice bo l b],.slice lo c g] w fun e w'=>e=.returned (.bool R)∧Kept af w w':=by
 have k0:Kept af w (w.alloc (.cells #[.slice ao n a,.int .u64 K,.slice bo l b] 70)):=(ah af w).alloc _;have m:(w.alloc (.cells #[.slice ao n a,.int .u64 K,.slice bo l b] 70)).heap[w.heap.size]? = some (.cells #[.slice ao n a,.int .u64 K,.slice bo l b] 70 (0,0)):=heap_alloc_new _ _;obtain ⟨p0,p1,p2⟩:=aw m;have HS:Hid (Slots (w.alloc (.cells #[.slice ao n a,.int .u64 K,.slice bo l b] 70)) lo c A N C):=hs.grew k0;have HR:=aa hR;have HN:=aa hN;clear hs m hR hN;generalize hW:w.alloc (.cells #[.slice ao n a,.int .u64 K,.slice bo l b] 70)=W at *;have HW:=aa hW;clear hW;go_enter Tryz.func200,Tryz.ntmps200;go_wp2_with (rw [HW.out])
 go_loopw [13] (fun i wr=>∃ (k:Nat),k≤c∧i=.int .i64 (k:Int)∧Hid (∀ j,j<k→N j=n)∧Kept af W wr) (fun i _=>c-(intOf i).toNat)
 case atStart=>exact ⟨0,Nat.zero_le _,rfl,fun j hj=>by omega,ah _ _⟩
 case round=>
  obtain ⟨k,hk,rfl,d,f⟩:=hrel;by_cases hkc:k<c
  ·have r:(0:Int)≤(k:Int):=Int.natCast_nonneg _;have gk:(k:Int)<(c:Int):=by omega
   obtain ⟨b2,q,rfl,o⟩:=(HS.out.grew f) k hkc;have s:=HN.out k hkc;by_cases he:N k=n
   ·have HA:Hid (∀ j,j<k+1→N j=n):=fun j hj=>by
     by_cases e:j=k
     ·subst e;exact he
     ·exact d.out j (by omega)
    generalize A k=a0 at *;generalize C k=c0 at *;rw [he] at o;clear he;go_wp2_with fail;go_roundw
    case rel=>exact ⟨k+1,by omega,by go_num,HA,f⟩
    case measure=>simp [intOf];omega
   ·have HF:Hid (R=false):=by
     unfold Hid;cases h:R with
     | false=>rfl
     | true=>exact absurd ((HR.out.1 h).1 k hkc) he
    have ge:¬ ((N k:Nat):Int)=(n:Int):=by omega
    generalize A k=a0 at *;generalize C k=c0 at *;generalize N k=n0 at *;go_wp2_with fail;go_ret;exact ⟨by rw [HF.out];rfl,k0.trans f⟩
  ·have gk:¬ (k:Int)<(c:Int):=by omega
   obtain rfl:k=c:=by omega
   have HB:Hid (R=decide ((n:Int)≤130)):=by
    unfold Hid;by_cases h:n≤130
    ·rw [aU (by omega)];exact HR.out.2 ⟨d.out,h⟩
    ·rw [aI (by omega)];cases h2:R with
     | false=>rfl
     | true=>exact absurd (HR.out.1 h2).2 h
   go_wp2_with fail;go_ret;exact ⟨by rw [HB.out];rfl,k0.trans f⟩

def Lies (u:Bool) (w w':World) (v:Value):Prop:=u=true→Fresh w v∧U64s w' v

theorem Lies.grew {u:Bool} {w w' w2:World} {v:Value} (h:Lies u w w' v) (k:Kept af w' w2):Lies u w w2 v:=fun e=>⟨(h e).1,(h e).2.grew k⟩

theorem Lies.nil (u:Bool) (w w':World):Lies u w w' (.slice none 0 0):=fun _=>⟨(fun b hb=>by cases hb),U64s.nil _⟩

theorem Lies.after {u:Bool} {w W w':World} {v:Value} (h:Lies u W w' v) (hs:w.heap.size≤W.heap.size):Lies u w w' v:=fun e=>⟨fun b hb=>Nat.le_trans hs ((h e).1 b hb),(h e).2⟩

def Asked (w:World) (o:Tr) (u:Bool) (P:Prop) (R:List Nat→Nat→Prop) (dE:List Ev) (w':World) (v':Value) (c:Nat):Prop:=
 ∃ (zs:List Nat) (m:List Ev) (o':Tr),Row .u64 w' v' zs∧Lies u w w' v'∧Did w o m w' o'∧(P→R zs c∧m=dE)∧(¬ P→zs=[]∧c=1)

theorem r8 (o:Tr) (ao bo lo:Option Addr) (n l K b g a r f:Nat) (s:Array Value) (A:Nat→Option Addr) (N C:Nat→Nat) (j:Nat→List Nat) (ms rs:List Nat) (rm:Nat) (dE:List Ev) (u:Bool) (R:List Nat→Nat→Prop) (w:World)
  (ht:TrRoom w o (a+rm)) (hm:RowT w o (.slice ao n b) ms) (hr:RowT w o (.slice bo l g) rs) (E:Digs ms) (H:Digs rs) (hK:K<18446744073709551616) (al:n≤1000000) (D:a≤1000) (F:∀ i,i<a→N i≤1000000000)
  (hs:∀ W m o',Did w o m W o'→Slots W lo a A N C) (q:∀ i,i<a→RowT w o (.slice (A i) (N i) (C i)) (j i)) (t:∀ i,i<a→Digs (j i))
  (hf:∀ args w,(callFunc f args).run Tryz.prog w=.ok (.enter f args) w)
  (G:n≤130→(∀ i,i<a→N i=n)→∀ W m o',Did w o m W o'→TrRoom W o' rm→Calls Tryz.prog f s W fun e w'=>∃ v' c,e=.returned (.tuple #[v',.int .i64 ((c:Nat):Int)])∧∃ zs m' o2,Row .u64 w' v' zs∧Lies u W w' v'∧Did W o' m' w' o2∧(okMod ms K rs→e8 a n (val ms) N j→R zs c∧m'=dE)) :
  Calls Tryz.prog 142 #[aB o,.agg #[.slice ao n b,.int .u64 (K:Nat),.slice bo l g],.func (.func f) #[] s,.slice lo a r] w fun e w'=>∃ v' c,e=.returned (.tuple #[v',.int .i64 ((c:Nat):Int)]) ∧
   Asked w o u (okMod ms K rs∧e8 a n (val ms) N j) R (List.replicate a (1,(n:Int),0) ++ dE) w' v' c:=by
 obtain ⟨_,_,_,e1,B,_,_,_,_⟩:=hm.1.open;cases e1
 obtain ⟨po,I⟩:=aF o;obtain ⟨V,hV⟩:∃ V,V=val ms:=⟨_,rfl⟩
 rw [← hV];rw [← hV] at G;have x:=ht.1;obtain ⟨W,hW⟩:∃ W,W=w.alloc (.cells #[.slice ao n b,.int .u64 (K:Nat),.slice bo l g] 70):=⟨_,rfl⟩
 have k0:Kept af w W:=by rw [hW];exact (ah af w).alloc _
 have y:W.heap[w.heap.size]? = some (.cells #[.slice ao n b,.int .u64 (K:Nat),.slice bo l g] 70 (0,0)):=by rw [hW];exact heap_alloc_new _ _
 have JM:Hid (∀ W' m o',Did W o m W' o'→W'.cell? ⟨w.heap.size,0,none⟩=some (.slice ao n b)∧W'.cell? ⟨w.heap.size,1,none⟩=some (.int .u64 (K:Nat))∧W'.cell? ⟨w.heap.size,2,none⟩=some (.slice bo l g)):=fun W' m o' d=>aw ((d.kept.block _ (lt_of_block y) (ay y (x.grew k0) (by decide) (by decide))).trans y)
 obtain ⟨p0,p1,p2⟩:=aw y;have K0:=aa k0;have HW:=aa hW;have M:=aa x;by_cases hlen:(∀ i,i<a→N i=n)∧n≤130
 ·have hH:=xW ao bo lo n l b g a r K A N C true (by simp only [true_iff];exact hlen) W (hs W _ _ (Did.of_kept k0 x)) D F (by omega);have JB:Hid (∀ W' m o' i,Did W o m W' o'→TrRoom W' o' 1→i<a→Calls Tryz.prog 133 #[.pointer po,.slice (A i) (N i) (C i),.slice ao n b] W' fun e w'=>e=.returned (.int .u64 ((lK (N i) n (val (j i)) V:Nat):Int))∧∃ o2,Did W' o' [(1,(n:Int),0)] w' o2):=fun W' m o' i d L hi=>by
   have Q:=Did.after k0 d;obtain ⟨_,_,_,e1,O,_,_,_,_⟩:=(q i hi).1.open;cases e1
   have P:=hlen.1 i hi;have:=kI o' _ _ (j i) ms W' L ((q i hi).did Q) (hm.did Q) (t i hi) E (by rw [O.out];omega) (by rw [B.out];omega);rw [O.out,B.out,P,Nat.max_self,d.ptr,I,← hV] at this;rw [P];refine this.mono ?_;rintro e w' ⟨rfl,h2⟩;refine ⟨?_,h2⟩;unfold lK aX;by_cases hlt:val (j i)<V
   ·rw [aU hlt,if_pos rfl,if_pos ⟨rfl,hlt⟩]
   ·rw [aI hlt,if_neg (by decide),if_neg (fun h=>hlt h.2)]
  have JD:Hid (∀ W' m o',Did W o m W' o'→TrRoom W' o' rm→Calls Tryz.prog f s W' fun e w'=>∃ v' c,e=.returned (.tuple #[v',.int .i64 ((c:Nat):Int)])∧∃ zs m' o2,Row .u64 w' v' zs∧Lies u W' w' v'∧Did W' o' m' w' o2∧(okMod ms K rs→e8 a n V N j→R zs c∧m'=dE)):=fun W' m o' d L=>G hlen.2 hlen.1 W' m o' (Did.after k0 d) L
  have JK:Hid (∀ W' m o' (R:Bool),Did W o m W' o'→(R=true↔okMod ms K rs)→Calls Tryz.prog 135 #[.agg #[.slice ao n b,.int .u64 (K:Nat),.slice bo l g]] W' fun e w'=>e=.returned (.bool R)∧Kept af W' w'):=fun W' m o' R d hR=>iM ao bo n l K b g ms rs R hR W' (hm.did (Did.after k0 d)).1 (hr.did (Did.after k0 d)).1 E H hK (by omega)
  have JS:Hid (∀ W' m o',Did W o m W' o'→Slots W' lo a A N C):=fun W' m o' d=>hs W' m o' (Did.after k0 d)
  have HT:=aa ht;clear hm hr E H hK hs q t G x ht B hV hW y hlen F k0;rw [I];go_enter Tryz.func142,Tryz.ntmps142;go_wp2_with (rw [← HW.out]);refine hH.mono ?_;rintro e w1 ⟨rfl,k1⟩;have H1:Hid (Did W o [] w1 o):=Did.of_kept k1 (M.out.grew K0.out);clear hH k1 p0 p1 p2;go_wp2_with fail;go_loopw [10,21] (fun mv i wr=>∃ (k:Nat) (o1:Tr),k≤a∧i=.int .i64 (k:Int)∧mv=.int .u64 ((inN a n V N j k:Nat):Int)∧Hid (Did W o (List.replicate k (1,(n:Int),0)) wr o1)) (fun _ i _=>a-(intOf i).toNat)
  case atStart=>exact ⟨0,o,Nat.zero_le _,rfl,rfl,H1.out⟩
  case round=>
   obtain ⟨k,o1,hk,rfl,rfl,HD⟩:=hrel;by_cases hkc:k<a
   ·have aj:(0:Int)≤(k:Int):=Int.natCast_nonneg _;have gk:(k:Int)<(a:Int):=by omega
    obtain ⟨q0,q1,q2⟩:=JM.out _ _ _ HD.out;obtain ⟨b2,ai,rfl,ag⟩:=JS.out _ _ _ HD.out k hkc;have p:TrRoom wr o1 1:=HD.out.room (by rw [List.length_replicate];exact (HT.out.less (by omega)).grew K0.out);have hB:=JB.out wr _ o1 k HD.out p hkc;have ae:=mP a n V N j k;have T:=aa HD;clear HD p;generalize lK (N k) n (val (j k)) V=mm at *;generalize hm2:inN a n V N j (k+1)=m2 at *;have ab:=aa hm2;clear hm2;generalize inN a n V N j k=m1 at *;go_wp2_with fail;refine hB.mono ?_;rintro e w2 ⟨rfl,o2,d2⟩;have U:=aa (T.out.out.trans d2);clear hB d2 q0 q1 q2 ag;go_wp2_with fail;go_roundw
    case rel=>exact ⟨k+1,o2,by omega,by go_num,by rw [ab.out],by unfold Hid;rw [List.replicate_succ'];exact U.out⟩
    case measure=>simp [intOf];omega
   ·have gk:¬ (k:Int)<(a:Int):=by omega
    obtain rfl:k=a:=by omega
    have p:TrRoom wr o1 rm:=HD.out.room (by rw [List.length_replicate];exact HT.out.grew K0.out);have hD:=JD.out wr _ o1 HD.out p;have HI:=aa (lw k n V N j k);have X:=aa (ot k n V N j k);generalize inN k n V N j k=mem at *;go_wp2_with fail;refine hD.mono ?_;rintro e w3 ⟨v3,c3,rfl,zs,m3,o3,J,S,d3,hG⟩;have D3:=aa (HD.out.trans d3);obtain ⟨ap,an,am,rfl,_,_,_,_,_⟩:=J.open;have ac:=aa J;have Y:=aa (S.after (Nat.le_trans K0.out.size HD.out.size));have HG:=aa hG;obtain ⟨q0,q1,q2⟩:=JM.out _ _ _ D3.out;clear hD d3 J S hG p;by_cases hall:e8 k n V N j
    ·have v:mem=1:=HI.out.2 hall;subst v;by_cases hok:okMod ms K rs
     ·go_wp2_with fail;refine (JK.out w3 _ o3 true D3.out (by simp [hok])).mono ?_;rintro e w4 ⟨rfl,k4⟩;have z:=aa (Did.after K0.out (D3.out.grew k4));have ad:=aa (ac.out.grew k4);have Z:=aa (Y.out.grew k4);clear k4;go_wp2_with fail;go_ret2;exact ⟨_,c3,rfl,zs,_,o3,ad.out,Z.out,z.out,fun _=>⟨(HG.out hok hall).1,by rw [(HG.out hok hall).2]⟩,fun h=>absurd ⟨hok,hall⟩ h⟩
     ·go_wp2_with fail;refine (JK.out w3 _ o3 false D3.out (by simp [hok])).mono ?_;rintro e w4 ⟨rfl,k4⟩;have z:=aa (Did.after K0.out (D3.out.grew k4));clear k4;go_wp2_with fail;go_ret2;exact ⟨_,1,rfl,[],_,o3,Row.nil _ _,Lies.nil _ _ _,z.out,fun h=>absurd h.1 hok,fun _=>⟨rfl,rfl⟩⟩
    ·have v:mem=0:=by
      have h1:mem≠1:=fun h=>hall (HI.out.1 h)
      have h2:=X.out;omega
     subst v;have z:=aa (Did.after K0.out D3.out);go_wp2_with fail;go_ret2;exact ⟨_,1,rfl,[],_,o3,Row.nil _ _,Lies.nil _ _ _,z.out,fun h=>absurd h.2 hall,fun _=>⟨rfl,rfl⟩⟩
 ·have HP:Hid (¬ (okMod ms K rs∧e8 a n V N j)):=fun h=>by
   refine hlen ⟨fun i hi=>(h.2 i hi).1,?_⟩;obtain ⟨_,_,_,e1,ak,_,_,_,_⟩:=hr.1.open;cases e1
   have h2:=(jf (K:=K) B.out rfl E H hK).1 h.1;have h3:=h2.1;unfold rfn at h3;by_cases h4:130<n
   ·rw [if_pos (by omega)] at h3;omega
   ·omega
  have hH:=xW ao bo lo n l b g a r K A N C false (by simp only [Bool.false_eq_true,false_iff];exact hlen) W (hs W _ _ (Did.of_kept k0 x)) D F (by omega);clear hm hr E H hK hs q t G x ht B hV hW y hlen F k0;rw [I];go_enter Tryz.func142,Tryz.ntmps142;go_wp2_with (rw [← HW.out]);refine hH.mono ?_;rintro e w1 ⟨rfl,k1⟩;go_wp2_with fail;go_ret2;exact ⟨_,1,rfl,[],[],o,Row.nil _ _,Lies.nil _ _ _,Did.of_kept (K0.out.trans k1) M.out,fun h=>absurd h HP.out,fun _=>⟨rfl,rfl⟩⟩

theorem Asked.after {w W:World} {o:Tr} {u:Bool} {P:Prop} {R:List Nat→Nat→Prop} {dE:List Ev} {w':World} {v':Value} {c:Nat} (k:Kept af w W) (h:Asked W o u P R dE w' v' c):Asked w o u P R dE w' v' c:=by
 obtain ⟨zs,m,o',h1,h2,h3,h4⟩:=h;exact ⟨zs,m,o',h1,h2.after k.size,Did.after k h3,h4⟩

end Go.Proofs.YtkaojflnghfmcaaGreatDoor
