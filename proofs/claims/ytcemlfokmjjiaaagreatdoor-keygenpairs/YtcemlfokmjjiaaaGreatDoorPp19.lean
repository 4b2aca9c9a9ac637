/- Put together of: Sho2 Sho3 Mir4 Mir6. -/
import Derived.Test.YtcemlfokmjjiaaaGreatDoorPp18

namespace Go.Proofs.YtcemlfokmjjiaaaGreatDoor
set_option maxRecDepth 100000
set_option maxHeartbeats 4000000
open Go.RowKit Go.Shelf

attribute [local go_sem] Oper.semAt_some

def MonR (w:World) (v:Value) (n V P:Nat):Prop:=Row .u64 w v (ag (mon n V P) n)

theorem MonR.grew {w w':World} {v:Value} {n V P:Nat} (h:MonR w v n V P) (k:Kept ae w w'):MonR w' v n V P:=Row.grew h k

theorem MonR.shape {w:World} {v:Value} {n V P:Nat} (h:MonR w v n V P):∃ xo xc,v=.slice xo n xc:=by
 obtain ⟨xo,xn,xc,rfl,hl,_⟩:=Row.open h;have:=hl.out;rw [af] at this;subst this;exact ⟨_,_,rfl⟩

theorem BM (ao bo xo yo:Option Addr) (n l K a b xc yc P Q:Nat) (ms rs:List Nat) (w:World) (hM:Mod8 w none ao bo n l K a b ms rs) (hx:MonR w (.slice xo n xc) n (val ms) P) (hy:MonR w (.slice yo n yc) n (val ms) Q) :
  Calls Tryz.prog 176 #[.pointer none,.agg #[.slice ao n a,.int .u64 (K:Nat),.slice bo l b],.slice xo n xc,.slice yo n yc] w fun e w'=>∃ zo zc,e=.returned (.tuple #[.slice zo n zc,.int .i64 0])∧MonR w' (.slice zo n zc) n (val ms) (P*Q)∧Fresh w (.slice zo n zc)∧Kept ae w w':=by
 obtain ⟨⟨f0,f1⟩,f2,f3,f4,f5⟩:=hM.facts;have hV:0<val ms:=by omega
 have ex:=gI (P:=P) hV f5;have ey:=gI (P:=Q) hV f5;refine (Cd none ao bo xo yo n l K a b n n xc yc 0 ms rs _ _ w (TrRoom.none w _ (by omega)) hM.hm hM.hr (RowT.none hx) (RowT.none hy) hM.hmd hM.hrd (ai (by omega) _ _) (ai (by omega) _ _) hM.hK (by omega) ⟨fun _=>⟨hM.ok,⟨rfl,by rw [ex];exact ir hV⟩,rfl,by rw [ey];exact ir hV⟩,fun _=>rfl⟩ (by omega)).mono ?_;rintro e w' ⟨v',rfl,⟨Y,hR,hG⟩,⟨hF,hU⟩,o',d⟩;rw [if_pos rfl] at hR;have c:=hG rfl;rw [ex,ey] at c;rw [vu f3 c.1 c.2] at hR;have hA:MonR w' v' n (val ms) (P*Q):=hR;obtain ⟨zo,zc,rfl⟩:=hA.shape;exact ⟨zo,zc,rfl,hA,hF,d.none.2⟩

theorem BV (ao bo xo:Option Addr) (n l K a b xc P:Nat) (ms rs:List Nat) (w:World) (hM:Mod8 w none ao bo n l K a b ms rs) (hx:MonR w (.slice xo n xc) n (val ms) P) :
  Calls Tryz.prog 210 #[.pointer none,.agg #[.slice ao n a,.int .u64 (K:Nat),.slice bo l b],.slice xo n xc] w fun e w'=>∃ v',e=.returned (.tuple #[v',.int .i64 0])∧Row .u64 w' v' (ag (P%val ms) n)∧Kept ae w w':=by
 obtain ⟨⟨f0,f1⟩,f2,f3,f4,f5⟩:=hM.facts;have hV:0<val ms:=by omega
 have ex:=gI (P:=P) hV f5;refine (zC none ao bo xo n l K a b n xc 0 ms rs _ w (TrRoom.none w _ (by omega)) hM.hm hM.hr (RowT.none hx) hM.hmd hM.hrd (ai (by omega) _ _) hM.hK (by omega) ⟨fun _=>⟨hM.ok,rfl,by rw [ex];exact ir hV⟩,fun _=>rfl⟩ (by omega)).mono ?_;rintro e w' ⟨v',rfl,⟨Y,hR,hG⟩,⟨hF,hU⟩,o',d⟩;rw [if_pos rfl] at hR;have c:=hG rfl;rw [ex] at c;rw [kn f3 c.1 c.2] at hR;exact ⟨v',rfl,hR,d.none.2⟩

theorem AS (ao bo:Option Addr) (n l K a b:Nat) (ms rs:List Nat) (w:World) (hM:Mod8 w none ao bo n l K a b ms rs) :
  Calls Tryz.prog 174 #[.agg #[.slice ao n a,.int .u64 (K:Nat),.slice bo l b]] w fun e w'=>∃ zo zc,e=.returned (.slice zo n zc)∧MonR w' (.slice zo n zc) n (val ms) 1∧Kept ae w w':=by
 obtain ⟨⟨f0,f1⟩,f2,f3,f4,f5⟩:=hM.facts;refine (Cc ao bo n l K a b ms rs (ag (mon n (val ms) 1) n) w hM.hm.1 hM.hr.1 hM.hmd hM.hrd hM.hK (by omega) (fun _=>by unfold mon;rw [Nat.mul_one]) (fun h=>absurd hM.ok h)).mono ?_;rintro e w' ⟨v',rfl,hR,k⟩;have hA:MonR w' v' n (val ms) 1:=hR;obtain ⟨zo,zc,rfl⟩:=hA.shape;exact ⟨zo,zc,rfl,hA,k⟩

structure RS9 (W1 W w:World) (bP n V P:Nat) (qv:Value):Prop where
 box:Box w bP qv 32
 num:MonR w qv n V P
 ne:∀ b,qv.ownBlock=some b→b≠bP
 old:Kept ae W1 w
 kept:Kept (fun b=>b=bP) W w

theorem RS9.step {W1 W w w':World} {bP n V P:Nat} {qv:Value} (h:RS9 W1 W w bP n V P qv) (k:Kept ae w w'):RS9 W1 W w' bP n V P qv:=
 ⟨h.box.grew k,h.num.grew k,h.ne,h.old.trans k,h.kept.next k (fun _ _ f=>f.elim)⟩

theorem RS9.put {W1 W w:World} {bP n V P Q:Nat} {qv zv:Value} (h:RS9 W1 W w bP n V P qv) (hz:MonR w zv n V Q) (a:∀ b,zv.ownBlock=some b→b≠bP) (hb:W1.heap.size≤bP):RS9 W1 W (w.setCell ⟨bP,0,none⟩ zv) bP n V Q zv:=by
 have kb:=ar w bP zv;exact ⟨h.box.set zv,Row.kept hz kb a,a,cG h.old kb hb,h.kept.next kb (fun _ _ f=>f)⟩

def iA {N:Nat} (g:Nat→Nat) (pre:List (Fin N)):Nat:=oL (pre.map fun x=>g x.val)

theorem kx {N:Nat} (g:Nat→Nat) (a:List (Fin N)) (x:Fin N):iA g (a ++ [x])=2*iA g a+g x.val:=by
 unfold iA;rw [List.map_append,List.map_cons,List.map_nil,kr]

theorem rU {N:Nat} {g:Nat→Nat} {ys:List (Fin N)} (h:ys.map Fin.val=List.range N):iA g ys=oL ((List.range N).map g):=by
 unfold iA;rw [← h,List.map_map];rfl

def Btw9 (W1:World) (bP n V X:Nat) (ev:Value) {N:Nat} (g:Nat→Nat) (pre:List (Fin N)) (W:World):Prop:=
 ∃ (qo:Option Addr) (qc:Nat),RS9 W1 W W bP n V (X^iA g pre) (.slice qo n qc)∧Box W (bP+1) ev 32

theorem Btw9.turn {W1:World} {bP n V X N B:Nat} {ev:Value} {g:Nat→Nat} {a:List (Fin N)} {W W':World} (h:Btw9 W1 bP n V X ev g a W) (t:Turn B W W') (hB:W1.heap.size≤B):Btw9 W1 bP n V X ev g a W':=by
 obtain ⟨qo,qc,h1,h2⟩:=h;exact ⟨qo,qc,⟨t.cells h1.box,t.row h1.num,h1.ne,t.kept h1.old hB,ah _ _⟩,t.cells h2⟩

theorem xW (ao bo xo eo:Option Addr) (n l0 K d i xc L a X:Nat) (ms rs ys:List Nat) (w:World) (hM:Mod8 w none ao bo n l0 K d i ms rs) (hx:MonR w (.slice xo n xc) n (val ms) X)
  (he:Row .u64 w (.slice eo L a) ys) (ar:Digs ys) (hL:L≤300) :
  Calls Tryz.prog 211 #[.agg #[.slice ao n d,.int .u64 (K:Nat),.slice bo l0 i],.slice xo n xc,.slice eo L a] w fun e w'=>∃ zo zc,e=.returned (.slice zo n zc)∧MonR w' (.slice zo n zc) n (val ms) (X^val ys)∧Kept ae w w':=by
 obtain ⟨⟨f0,f1⟩,f2,f3,f4,f5⟩:=hM.facts;obtain ⟨V,hV⟩:∃ V,V=val ms:=⟨_,rfl⟩
 rw [← hV] at f3 f4 f5 hx ⊢;obtain ⟨W0,E⟩:∃ W0,W0=(w.alloc (.cells #[.slice ao n d,.int .u64 (K:Nat),.slice bo l0 i] 130)).alloc (.cells #[.slice xo n xc] 32):=⟨_,rfl⟩
 have k0:Kept ae w W0:=by rw [E];exact ((ah ae w).alloc _).alloc _
 have T:W0.heap[w.heap.size]? = some (.cells #[.slice ao n d,.int .u64 (K:Nat),.slice bo l0 i] 130 (0,0)):=by
  rw [E];exact am (heap_alloc_new w _)
 have ai:Box W0 (w.heap.size+1) (.slice xo n xc) 32:=by
  rw [E];have:=Box.new (w.alloc (.cells #[.slice ao n d,.int .u64 (K:Nat),.slice bo l0 i] 130)) (.slice xo n xc) 32
  rwa [show (w.alloc (.cells #[.slice ao n d,.int .u64 (K:Nat),.slice bo l0 i] 130)).heap.size=w.heap.size+1 by simp] at this
 have JC:Hid (∀ W,Kept ae W0 W→W.cell? ⟨w.heap.size,0,none⟩=some (.slice ao n d)∧W.cell? ⟨w.heap.size,1,none⟩=some (.int .u64 (K:Nat))∧W.cell? ⟨w.heap.size,2,none⟩=some (.slice bo l0 i)∧W.cell? ⟨w.heap.size+1,0,none⟩=some (.slice xo n xc)):=fun W k=>by
  obtain ⟨q0,q1,q2⟩:=ay ((k.block _ (lt_of_block T) (fun f=>f)).trans T);exact ⟨q0,q1,q2,(ai.grew k).cell⟩
 have G:Hid (Calls Tryz.prog 174 #[.agg #[.slice ao n d,.int .u64 (K:Nat),.slice bo l0 i]] W0 fun e w'=>∃ zo zc,e=.returned (.slice zo n zc)∧MonR w' (.slice zo n zc) n V 1∧Kept ae W0 w'):=by
  have:=AS ao bo n l0 K d i ms rs W0 (hM.grew k0);rw [← hV] at this;exact this
 have I:Hid (∀ W yo yc zo zc P Q,Kept ae W0 W→MonR W (.slice yo n yc) n V P→MonR W (.slice zo n zc) n V Q→Calls Tryz.prog 176 #[.pointer none,.agg #[.slice ao n d,.int .u64 (K:Nat),.slice bo l0 i],.slice yo n yc,.slice zo n zc] W fun e w'=>∃ ro rc,e=.returned (.tuple #[.slice ro n rc,.int .i64 0])∧MonR w' (.slice ro n rc) n V (P*Q)∧Fresh W (.slice ro n rc)∧Kept ae W w'):=fun W yo yc zo zc P Q k hA hB=>by
  rw [hV] at hA hB ⊢;exact BM ao bo yo zo n l0 K d i yc zc P Q ms rs W (hM.grew (k0.trans k)) hA hB
 have JX:Hid (∀ W,Kept ae W0 W→MonR W (.slice xo n xc) n V X):=fun W k=>hx.grew (k0.trans k)
 have M:Hid (∀ W,Kept ae W0 W→Row .u64 W (.slice eo L a) ys):=fun W k=>he.grew (k0.trans k)
 obtain ⟨_,_,_,e1,p,_⟩:=he.open;cases e1
 have U:=aa p;have q:Hid (∀ b,(Value.slice eo L a).ownBlock=some b→0<L→b<w.heap.size):=fun b hb hp=>he.lt (by intro e;rw [e] at p;have:=p.out;simp at this;omega) b hb
 have aw:=aa E;have r:=aa k0;have an:=aa f0;obtain ⟨c0,c1,c2,c3⟩:=JC.out _ (ah ae W0);have hO:=G.out;clear E k0 T ai hM hx he p hV f0 f2 f3 G;refine (callsIn_wide (n:=9)).1 ?_;refine callsIn_of_wp_marks Tryz.func211 rfl trivial ?_ rfl;simp only [Tryz.ntmps211,List.size_toArray,List.length_cons,List.length_nil,Nat.reduceAdd,Nat.reduceSub,Array.replicate_succ,Array.replicate_zero,List.push_toArray,List.append_toArray,List.nil_append,List.cons_append];refine wpIn_wide.2 ?_;go_wp2_with (rw [← aw.out]);refine hO.mono ?_;rintro e W1 ⟨po,pc,rfl,R,k1⟩;clear hO c0 c1 c2 c3;go_wp2_with fail;have ak:=zO eo L a (W1.alloc (.cells #[.slice po n pc] 32))
 refine ak.mono ?_;rintro e W3 ⟨rfl,rfl⟩;have kP:Kept ae W1 (W1.alloc (.cells #[.slice po n pc] 32)):=(ah ae W1).alloc _;have kE:=kP.alloc (.cells #[.slice eo L a] 32);have Y:=(Box.new W1 (.slice po n pc) 32).alloc (.cells #[.slice eo L a] 32);have O:=Box.new (W1.alloc (.cells #[.slice po n pc] 32)) (.slice eo L a) 32;have aq:((W1.alloc (.cells #[.slice po n pc] 32)).alloc (.cells #[.slice eo L a] 32)).heap.size=W1.heap.size+2:=by simp
 rw [World.size_alloc] at O;have S:=M.out _ (k1.trans kE);have C:∀ b,(Value.slice po n pc).ownBlock=some b→b≠W1.heap.size:=fun b hb e=>by
  have:=Row.lt R (by intro h;have h1:=congrArg List.length h;rw [af] at h1;have h2:n=0:=h1;have:=an.out;omega) b hb;omega
 have R0:Hid (RS9 W1 _ _ W1.heap.size n V 1 (.slice po n pc)):=aa ⟨Y,R.grew kE,C,kE,ah _ _⟩;obtain ⟨N,hN⟩:∃ N,au (val ys)=N:=⟨_,rfl⟩
 obtain ⟨g,hg⟩:∃ g:Nat→Nat,∀ j,val ys/2^(N-1-j)%2=g j:=⟨_,fun _=>rfl⟩
 have HG:=aa hg;have HN:=aa hN;have K1:=aa k1;clear ak kP Y R C;go_wp2_with fail;generalize (W1.alloc (.cells #[.slice po n pc] 32)).alloc (.cells #[.slice eo L a] 32)=W3 at *;refine (wpIn_wide (n:=9)).1 ?_;refine wpIn_rangeFunc_ownG (F:=Fence.wide) (n:=9) rfl (by omega) (gf:=254) (lb:=#[.pointer (some ⟨W1.heap.size+1,0,none⟩)]) rfl trivial (enters_of Tryz.func254 (by kernel_rfl) rfl)
  (sS 8 (by omega) (W1.heap.size+1) L N g (.slice eo L a) ys ar U.out.out hN (by omega) hg (fun k=>k=W1.heap.size+1∨((Value.slice eo L a).ownBlock=some k∧0<L)) (.inl rfl) (fun b hb hp=>.inr ⟨hb,hp⟩) _ ?hsw O.cell S) KeepB.trans (KeepB.put ?hsw2) (Below.refl _ _) (fun _=>rfl)
  (Btw9 W1 W1.heap.size n V X (.slice eo L a) g) (fun _ _ _=>False)
  (kX (fun s A B hs t=>hs.turn t (by rw [aq];omega))) (fun _ _ _ _ _ hs _ _=>hs)
  ⟨po,pc,by have:=R0.out;exact this,O⟩
  ?act ?assign ?body ?done ?stop
 case hsw=>
  rintro k (rfl | ⟨hk,hp⟩)
  ·omega
  ·have:=q.out k hk hp;have:=r.out.size;have:=K1.out.size;omega
 case hsw2=>
  rintro k (rfl | ⟨hk,hp⟩)
  ·omega
  ·have:=q.out k hk hp;have:=r.out.size;have:=K1.out.size;omega
 case assign=>
  intro l x W K hK
  gi_wp2
  exact hK
 case body=>
  rintro l o x W ⟨qo,qc,R1,J⟩ hlt;have ag:=aa J;have HX:Hid (g x.val<2):=by rw [← HG.out];exact Nat.mod_lt _ (by omega)
  have HR:=aa R1;have y:Hid (∀ (wE:World) (H:Option Addr) (tc:Nat),RS9 W1 W wE W1.heap.size n V (X^iA g (o ++ [x])) (.slice H n tc)→KeepsFrom W3.heap.size W wE∧KeepB (fun k=>k=W1.heap.size+1∨((Value.slice eo L a).ownBlock=some k∧0<L)) W wE∧Btw9 W1 W1.heap.size n V X (.slice eo L a) g (o ++ [x]) wE):=fun wE H tc RE=>by
   have al:Box wE (W1.heap.size+1) (.slice eo L a) 32:=ag.out.kept RE.kept (by omega);refine ⟨jF RE.kept (fun b hb _=>?_),?_,H,tc,⟨RE.box,RE.num,RE.ne,RE.old,ah _ _⟩,al⟩
   ·subst hb;exact ⟨_,_,_,HR.out.box⟩
   ·rintro k (rfl | ⟨hk,hp⟩)
    ·exact (show wE.heap[_]? = _ from al).trans (show W.heap[_]? = _ from ag.out).symm
    ·have h1:=q.out k hk hp;have h2:=r.out.size;have h3:=K1.out.size;have h4:=HR.out.old.size;exact RE.kept.block k (by omega) (by omega)
  obtain ⟨q0,q1,q2,q3⟩:=JC.out _ (K1.out.trans R1.old);have qP:=R1.box.cell;have fP:=R1.box.free;have m:=I.out W qo qc qo qc _ _ (K1.out.trans R1.old) R1.num R1.num;rw [← Nat.pow_add] at m;clear R1 J
  gi_wp2_with fail
  refine ⟨trivial,?_⟩;refine (CallsIn.inRound l (callsIn_wide.2 m)).mono ?_;rintro e w7 ⟨so,sc,rfl,ac,aj,d7⟩;have R7:=HR.out.step d7;have z:∀ b,(Value.slice so n sc).ownBlock=some b→b≠W1.heap.size:=fun b hb e=>by
   have h1:=aj b hb;have h2:=HR.out.box.lt;omega
  have R8:=aa (R7.put ac z (leR _));have aB:=R7.box.cell;have aA:=R7.box.free;clear m ac aj d7 z R7 q0 q1 q2 q3 qP fP;by_cases h1:g x.val=1
  ·obtain ⟨q0,q1,q2,q3⟩:=JC.out _ (K1.out.trans R8.out.old);have qP:=R8.out.box.cell;have fP:=R8.out.box.free;have m:=I.out _ so sc xo xc _ _ (K1.out.trans R8.out.old) R8.out.num (JX.out _ (K1.out.trans R8.out.old));rw [← Nat.pow_succ,show (iA g o+iA g o).succ=iA g (o ++ [x]) by rw [kx,h1];omega] at m;have gx:((g x.val:Nat):Int)=1:=by omega
   clear h1
   gi_wp2_with fail
   refine ⟨trivial,?_⟩;refine (CallsIn.inRound l (callsIn_wide.2 m)).mono ?_;rintro e w9 ⟨H,tc,rfl,Z,ab,d9⟩;have R9:=R8.out.step d9;have v:∀ b,(Value.slice H n tc).ownBlock=some b→b≠W1.heap.size:=fun b hb e=>by
    have h1:=ab b hb;have h2:=R8.out.box.lt;omega
   have ap:=aa (R9.put Z v (leR _));have az:=R9.box.cell;have ax:=R9.box.free;clear m Z ab d9 v R9 q0 q1 q2 q3 qP fP
   gi_wp2_with fail
   exact y.out _ _ _ ap.out
  ·have gx:¬ ((g x.val:Nat):Int)=1:=by omega
   have R9:=R8.out;rw [show iA g o+iA g o=iA g (o ++ [x]) by rw [kx];have:=HX.out;omega] at R9;have av:=aa R9;clear h1 R9
   gi_wp2_with fail
   exact y.out _ _ _ av.out
 case done=>
  rintro D zs W hD ad ⟨qo,qc,R1,J⟩ hK;have qP:=R1.box.cell;have hE:iA g zs=val ys:=by
   rw [rU ad,show g=fun j=>val ys/2^(N-1-j)%2 from funext (fun j=>(HG.out j).symm)];exact xE HN.out
  rw [hE] at R1;have HR:=aa R1;have HK:=aa hK;clear hE ad R1 J hg hN hK;go_wp2_with fail;refine ⟨by simp,.inl ⟨_,_,rfl,run_takeDeferred HK.out,?_⟩⟩;have tt:=uy (B:=W3.heap.size) hD HK.out rfl (.deferred none);exact ⟨_,results_tmp rfl _ _ _,qo,qc,rfl,tt.row HR.out.num,tt.kept (r.out.trans (K1.out.trans HR.out.old)) (by have h1:=r.out.size;have h2:=K1.out.size;omega)⟩
 case stop=>
  rintro D c o W _ _ h _;exact h.elim

open Go.RowKit

theorem A7 (ao bo xo:Option Addr) (n l K a b xc:Nat) (ms rs xs:List Nat) (w:World) (hM:Mod8 w none ao bo n l K a b ms rs) (hx:Row .u64 w (.slice xo n xc) xs) (f:Digs xs) (hlt:val xs<val ms) :
  Calls Tryz.prog 173 #[.pointer none,.agg #[.slice ao n a,.int .u64 (K:Nat),.slice bo l b],.slice xo n xc] w fun e w'=>∃ zo zc,e=.returned (.tuple #[.slice zo n zc,.int .i64 0])∧MonR w' (.slice zo n zc) n (val ms) (val xs)∧Kept ae w w':=by
 obtain ⟨⟨f0,f1⟩,f2,f3,f4,f5⟩:=hM.facts;refine (sD none ao bo xo n l K a b n xc 0 ms rs xs w (TrRoom.none w _ (by omega)) hM.hm hM.hr (RowT.none hx) hM.hmd hM.hrd f hM.hK (by omega) ⟨fun _=>⟨hM.ok,rfl,hlt⟩,fun _=>rfl⟩ (by omega)).mono ?_;rintro e w' ⟨v',rfl,⟨Y,hR,hG⟩,_,o',d⟩;rw [if_pos rfl] at hR;have c:Y=mon n (val ms) (val xs):=hG rfl;rw [c] at hR;have hA:MonR w' v' n (val ms) (val xs):=hR;obtain ⟨zo,zc,rfl⟩:=hA.shape;exact ⟨zo,zc,rfl,hA,d.none.2⟩

theorem zE (ao bo xo eo:Option Addr) (n l K a b N1 xc L g:Nat) (ms rs xs ys:List Nat) (E:Nat)
  (hE:(E=0∧(okMod ms K rs∧(N1=n∧val xs<val ms))∧L≤300)∨(E=2∧(okMod ms K rs∧(N1=n∧val xs<val ms))∧300<L)∨(E=1∧¬ (okMod ms K rs∧(N1=n∧val xs<val ms))))
  (RL:List Nat) (c:RL=if E=0 then ag (val xs^val ys%val ms) n else []) (w:World)
  (hm:Row .u64 w (.slice ao n a) ms) (hr:Row .u64 w (.slice bo l b) rs) (hx:Row .u64 w (.slice xo N1 xc) xs) (hy:Row .u64 w (.slice eo L g) ys) (o:Digs ms) (p:Digs rs) (m:Digs xs) (r:Digs ys) (hK:K<18446744073709551616) (s:n≤300) :
  Calls Tryz.prog 172 #[.agg #[.slice ao n a,.int .u64 (K:Nat),.slice bo l b],.slice xo N1 xc,.slice eo L g] w fun e w'=>∃ v',e=.returned (.tuple #[v',.int .i64 ((E:Nat):Int)])∧Row .u64 w' v' RL∧Kept ae w w':=by
 obtain ⟨W,hW⟩:∃ W,W=w.alloc (.cells #[.slice ao n a,.int .u64 (K:Nat),.slice bo l b] 130):=⟨_,rfl⟩
 have k0:Kept ae w W:=by rw [hW];exact (ah ae w).alloc _
 have q:W.heap[w.heap.size]? = some (.cells #[.slice ao n a,.int .u64 (K:Nat),.slice bo l b] 130 (0,0)):=by rw [hW];exact heap_alloc_new _ _
 have JC:Hid (∀ W',Kept ae W W'→W'.cell? ⟨w.heap.size,0,none⟩=some (.slice ao n a)∧W'.cell? ⟨w.heap.size,1,none⟩=some (.int .u64 (K:Nat))∧W'.cell? ⟨w.heap.size,2,none⟩=some (.slice bo l b)):=fun W' k=>ay ((k.block _ (lt_of_block q) (fun f=>f)).trans q)
 have HW:=aa hW;have t:=aa k0;obtain ⟨p0,p1,p2⟩:=JC.out _ (ah ae W);by_cases hP:okMod ms K rs∧(N1=n∧val xs<val ms)
 ·obtain ⟨j,rfl,hlt⟩:=hP;have hM:Mod8 w none ao bo N1 l K a b ms rs:=⟨RowT.none hm,RowT.none hr,o,p,hK,j⟩
  have i:=A7 ao bo xo N1 l K a b xc ms rs xs W (hM.grew k0) (hx.grew k0) m hlt;by_cases hL:L≤300
  ·obtain rfl:E=0:=by
    rcases hE with h | h | h
    ·exact h.1
    ·omega
    ·exact absurd ⟨j,rfl,hlt⟩ h.2
   rw [if_pos rfl] at c;have gL:¬ (L:Int) > 300:=by omega
   have JR:Hid (∀ W' zo zc,Kept ae W W'→MonR W' (.slice zo N1 zc) N1 (val ms) (val xs)→Calls Tryz.prog 211 #[.agg #[.slice ao N1 a,.int .u64 (K:Nat),.slice bo l b],.slice zo N1 zc,.slice eo L g] W' fun e w'=>∃ yo yc,e=.returned (.slice yo N1 yc)∧MonR w' (.slice yo N1 yc) N1 (val ms) (val xs^val ys)∧Kept ae W w'):=fun W' zo zc k h=>by
    refine (xW ao bo zo eo N1 l K a b zc L g _ ms rs ys W' (hM.grew (k0.trans k)) h (hy.grew (k0.trans k)) r hL).mono ?_;rintro e w' ⟨yo,yc,rfl,h1,h2⟩;exact ⟨yo,yc,rfl,h1,k.trans h2⟩
   have JL:Hid (∀ W' zo zc,Kept ae W W'→MonR W' (.slice zo N1 zc) N1 (val ms) (val xs^val ys)→Calls Tryz.prog 210 #[.pointer none,.agg #[.slice ao N1 a,.int .u64 (K:Nat),.slice bo l b],.slice zo N1 zc] W' fun e w'=>∃ v',e=.returned (.tuple #[v',.int .i64 0])∧Row .u64 w' v' RL∧Kept ae W w'):=fun W' zo zc k h=>by
    refine (BV ao bo zo N1 l K a b zc _ ms rs W' (hM.grew (k0.trans k)) h).mono ?_;rintro e w' ⟨v',rfl,h1,h2⟩;rw [← c] at h1;exact ⟨v',rfl,h1,k.trans h2⟩
   clear hE c hm hr hx hy o p m r hK hW k0 q j hlt hM hL s;generalize val ms=V at *;generalize val xs=X at *;generalize X^val ys=Y at *;go_enter Tryz.func172,Tryz.ntmps172;go_wp2_with (rw [← HW.out]);refine i.mono ?_;rintro e w1 ⟨zo,zc,rfl,y,k1⟩;obtain ⟨q0,q1,q2⟩:=JC.out _ k1;have kd:Kept ae W w1.drew:=k1.drew;have x:=y.grew (ah ae w1).drew;clear i p0 p1 p2;go_wp2_with fail;go_region_held3 (fun w'=>w'.cell? ⟨w.heap.size,0,none⟩=some (.slice ao N1 a)∧w'.cell? ⟨w.heap.size,1,none⟩=some (.int .u64 (K:Int))∧w'.cell? ⟨w.heap.size,2,none⟩=some (.slice bo l b))
    (((try dsimp only);(repeat' apply And.intro) <;> first | (go_keep;done) | assumption))
    (first
    | (go_at_call 211;refine (JR.out _ zo zc kd x).mono ?_;rintro e w2 ⟨yo,yc,rfl,z,k2⟩;obtain ⟨s0,s1,s2⟩:=JC.out _ k2)
    | (go_at_call 210;refine (JL.out _ yo yc k2 z).mono ?_;rintro e w4 ⟨v4,rfl,A,k4⟩;obtain ⟨t0,t1,t2⟩:=JC.out _ k4))
   all_goals
    go_wp2_with fail;go_ret2;exact ⟨_,rfl,A,t.out.trans k4⟩
  ·obtain rfl:E=2:=by
    rcases hE with h | h | h
    ·exact absurd h.2.2 hL
    ·exact h.1
    ·exact absurd ⟨j,rfl,hlt⟩ h.2
   rw [if_neg (by omega)] at c;have gL:(L:Int) > 300:=by omega
   have v:=aa c;clear hE c hm hr hx hy o p m r hK hW k0 q j hlt hM hL s;go_enter Tryz.func172,Tryz.ntmps172;go_wp2_with (rw [← HW.out]);refine i.mono ?_;rintro e w1 ⟨zo,zc,rfl,y,k1⟩;clear i p0 p1 p2 y;go_wp2_with fail;go_ret2;exact ⟨_,rfl,by rw [v.out];exact Row.nil _ _,t.out.trans k1⟩
 ·obtain rfl:E=1:=by
   rcases hE with h | h | h
   ·exact absurd h.2.1 hP
   ·exact absurd h.2.1 hP
   ·exact h.1
  rw [if_neg (by omega)] at c;have v:=aa c;have i:Calls Tryz.prog 173 #[.pointer none,.agg #[.slice ao n a,.int .u64 (K:Nat),.slice bo l b],.slice xo N1 xc] W fun e w'=>∃ v',e=.returned (.tuple #[v',.int .i64 1])∧Kept ae W w':=by
   refine (sD none ao bo xo n l K a b N1 xc 1 ms rs xs W (TrRoom.none W _ (by omega)) (RowT.none (hm.grew k0)) (RowT.none (hr.grew k0)) (RowT.none (hx.grew k0)) o p m hK s ⟨fun h=>absurd h (by omega),fun h=>absurd h hP⟩ (by omega)).mono ?_;rintro e w' ⟨v',rfl,_,_,o',d⟩;exact ⟨v',rfl,d.none.2⟩
  clear hE c hm hr hx hy o p m r hK hW k0 q hP s;go_enter Tryz.func172,Tryz.ntmps172;go_wp2_with (rw [← HW.out]);refine i.mono ?_;rintro e w1 ⟨v1,rfl,k1⟩;clear i p0 p1 p2;go_wp2_with fail;go_ret2;exact ⟨_,rfl,by rw [v.out];exact Row.nil _ _,t.out.trans k1⟩

theorem BH {A n:Nat} (h:A<18446744073709551616^n) (hn:n≤300):aP A (n:Int)=0∧bh A (n:Int)=ag A n:=by
 have h1:aP A (n:Int)=0:=by
  unfold aP;rw [if_neg (by omega),if_neg];rintro (h2 | h2)
  ·omega
  ·have:=(ap A n).2 h;rw [Int.toNat_natCast] at h2;omega
 refine ⟨h1,?_⟩;unfold bh;rw [if_pos h1,Int.toNat_natCast]

theorem mO {w:World} {xo yo:Option Addr} {n xc yc X P Q:Nat} (hX:3<X) (hp:X%2=1) (hf:X<18446744073709551616^n) (hn:n≤130) (hx:MonR w (.slice xo n xc) n X P) (hy:MonR w (.slice yo n yc) n X Q) (R:Bool) (hR:R=decide (P%X=Q%X)) :
  Calls Tryz.prog 175 #[.slice xo n xc,.slice yo n yc] w fun e w'=>e=.returned (.bool R)∧Kept ae w w':=by
 refine Ao _ _ _ _ R ?_ w hx hy (ai (by omega) _ _) (ai (by omega) _ _) (by rw [af];omega) (by rw [af];omega);rw [gI (by omega) hf,gI (by omega) hf,hR];exact decide_eq_decide.2 (tF hp).symm

theorem vv (ao bo lo oo vo:Option Addr) (n mc rc lc oc K s X M vc A:Nat) (ys:List Nat) (R:Bool) (hA:A=val ys) (Z:A<X) (hR:R=true↔it X A) (w:World) (h:Num17 w X ao bo lo oo n mc rc lc oc K s) (hv:Row .u64 w (.slice vo M vc) ys) (hd:Digs ys) :
  Calls Tryz.prog 128 #[.agg (fi ao bo lo oo n mc rc lc oc K s),.slice vo M vc] w fun e w'=>e=.returned (.bool R)∧Kept ae w w':=by
 obtain ⟨W,hW⟩:∃ W,W=w.alloc (.cells (fi ao bo lo oo n mc rc lc oc K s) 150):=⟨_,rfl⟩
 have k0:Kept ae w W:=by rw [hW];exact (ah ae w).alloc _
 have ar:W.heap[w.heap.size]? = some (.cells (fi ao bo lo oo n mc rc lc oc K s) 150 (0,0)):=by rw [hW];exact heap_alloc_new _ _
 have JC:Hid (∀ W',Kept ae W W'→W'.cell? ⟨w.heap.size,0,none⟩=some (.slice ao n mc)∧W'.cell? ⟨w.heap.size,1,none⟩=some (.int .u64 (K:Nat))∧W'.cell? ⟨w.heap.size,2,none⟩=some (.slice bo n rc)∧W'.cell? ⟨w.heap.size,3,none⟩=some (.slice lo n lc)∧W'.cell? ⟨w.heap.size,4,none⟩=some (.slice oo n oc)∧W'.cell? ⟨w.heap.size,5,none⟩=some (.int .i64 (s:Nat))):=fun W' k=>fm ((k.block _ (lt_of_block ar) (fun f=>f)).trans ar)
 have p:=h.big;have g:=h.par;have a:=h.fit;have aT:=h.n0;have r:=h.nb;have aU:=h.sb;have aP:=Ag h.tz p g;have l:val (ag X n)=X:=by rw [ak,al a]
 obtain ⟨D,hD⟩:∃ D,D=(X-1)/2^s:=⟨_,rfl⟩
 have ax:D<18446744073709551616^n:=by rw [hD];exact Nat.lt_of_le_of_lt (Nat.le_trans (Nat.div_le_self _ _) (Nat.sub_le _ _)) a
 have v:=h.odd;rw [← hD] at v;have am:=qS (A:=A) h.tz;rw [← hD] at am;have hM:=h.mod;have C:Hid (R=true↔(A^D%X=1∨∃ i,i<s∧(A^D)^2^i%X=X-1)):=hR.trans am;have O:Hid (∀ W',Kept ae W W'→Calls Tryz.prog 107 #[.slice vo M vc,.int .i64 (n:Int)] W' fun e w'=>∃ zo zc,e=.returned (.tuple #[.slice zo n zc,.int .i64 0])∧Row .u64 w' (.slice zo n zc) (ag A n)∧Kept ae W w'):=fun W' k=>by
  obtain ⟨r1,r2⟩:=BH (Nat.lt_trans Z a) (show n≤300 by omega);have h1:=pt _ ys (n:Int) W' (hv.grew (k0.trans k)) hd;rw [← hA,r1,r2] at h1;refine h1.mono ?_;rintro e w' ⟨v',rfl,h2,h3⟩;obtain ⟨zo,zn,zc,rfl,hl,_⟩:=h2.open;obtain rfl:zn=n:=by have:=hl.out;rw [af] at this;exact this.symm
  exact ⟨zo,zc,rfl,h2,k.trans h3⟩
 have JQ:Hid (∀ W' zo zc,Kept ae W W'→Row .u64 W' (.slice zo n zc) (ag A n)→Calls Tryz.prog 172 #[.agg #[.slice ao n mc,.int .u64 (K:Nat),.slice bo n rc],.slice zo n zc,.slice oo n oc] W' fun e w'=>∃ yo yc,e=.returned (.tuple #[.slice yo n yc,.int .i64 0])∧Row .u64 w' (.slice yo n yc) (ag (A^D%X) n)∧Kept ae W w'):=fun W' zo zc k h1=>by
  have kk:=k0.trans k;have ay:val (ag A n)=A:=by rw [ak,al (Nat.lt_trans Z a)]
  have aQ:val (ag D n)=D:=by rw [ak,al ax]
  have o:=hM.grew kk;have h2:=zE ao bo zo oo n n K mc rc n zc n oc _ _ _ _ 0 (.inl ⟨rfl,⟨o.ok,rfl,by rw [ay,l];exact Z⟩,by omega⟩) _ rfl W' o.hm.1 o.hr.1 h1 (v.grew kk) o.hmd o.hrd (ai (by omega) _ _) (ai (by omega) _ _) o.hK (by omega);rw [if_pos rfl,ay,aQ,l] at h2;refine h2.mono ?_;rintro e w' ⟨v',rfl,h3,h4⟩;obtain ⟨yo,yn,yc,rfl,hl,_⟩:=h3.open;obtain rfl:yn=n:=by have:=hl.out;rw [af] at this;exact this.symm
  exact ⟨yo,yc,rfl,h3,k.trans h4⟩
 have JE:Hid (∀ W' zo zc,Kept ae W W'→Row .u64 W' (.slice zo n zc) (ag (A^D%X) n)→Calls Tryz.prog 173 #[.pointer none,.agg #[.slice ao n mc,.int .u64 (K:Nat),.slice bo n rc],.slice zo n zc] W' fun e w'=>∃ yo yc,e=.returned (.tuple #[.slice yo n yc,.int .i64 0])∧MonR w' (.slice yo n yc) n X ((A^D)^2^0)∧Kept ae W w'):=fun W' zo zc k h1=>by
  have hlt:A^D%X<X:=Nat.mod_lt _ (by omega);have aB:val (ag (A^D%X) n)=A^D%X:=by rw [ak,al (Nat.lt_trans hlt a)]
  have h2:=A7 ao bo zo n n K mc rc zc _ _ _ W' (hM.grew (k0.trans k)) h1 (ai (by omega) _ _) (by rw [aB,l];exact hlt);rw [aB,l] at h2;refine h2.mono ?_;rintro e w' ⟨yo,yc,rfl,h3,h4⟩;refine ⟨yo,yc,rfl,?_,k.trans h4⟩;unfold MonR at h3 ⊢;rw [lO] at h3;rw [Nat.pow_zero,Nat.pow_one];exact h3
 have JO:Hid (∀ W',Kept ae W W'→Calls Tryz.prog 174 #[.agg #[.slice ao n mc,.int .u64 (K:Nat),.slice bo n rc]] W' fun e w'=>∃ zo zc,e=.returned (.slice zo n zc)∧MonR w' (.slice zo n zc) n X 1∧Kept ae W' w'):=fun W' k=>by
  have h2:=AS ao bo n n K mc rc _ _ W' (hM.grew (k0.trans k));rw [l] at h2;exact h2
 have JS:Hid (∀ W' zo zc,Kept ae W W'→MonR W' (.slice zo n zc) n X 1→Calls Tryz.prog 78 #[.pointer none,.slice ao n mc,.slice zo n zc] W' fun e w'=>∃ yo yc c,e=.returned (.tuple #[.slice yo n yc,.int .u64 (c:Nat)])∧MonR w' (.slice yo n yc) n X (X-1)∧Kept ae W' w'):=fun W' zo zc k h1=>by
  have o:=hM.grew (k0.trans k);have h2:=oA none _ _ _ _ W' (TrRoom.none _ _ (by omega)) o.hm (RowT.none h1) o.hmd (ai (by omega) _ _) (by rw [af];omega) (by rw [af];omega);rw [af,af,Nat.max_self,l,gI (by omega) a,xz g (by omega)] at h2;refine h2.mono ?_;rintro e w' ⟨v',rfl,ho,o',d⟩;have hr:=aS ho (af _ _ _);obtain ⟨yo,yn,yc,rfl,hl,_⟩:=hr.open;obtain rfl:yn=n:=by have:=hl.out;rw [af] at this;exact this.symm
  exact ⟨yo,yc,_,rfl,hr,d.none.2⟩
 have an:Hid (∀ W' yo yc P,Kept ae W W'→MonR W' (.slice yo n yc) n X P→Calls Tryz.prog 176 #[.pointer none,.agg #[.slice ao n mc,.int .u64 (K:Nat),.slice bo n rc],.slice yo n yc,.slice yo n yc] W' fun e w'=>∃ ro E,e=.returned (.tuple #[.slice ro n E,.int .i64 0])∧MonR w' (.slice ro n E) n X (P*P)∧Kept ae W' w'):=fun W' yo yc P k h1=>by
  have h2:=BM ao bo yo yo n n K mc rc yc yc P P _ _ W' (hM.grew (k0.trans k)) (by rw [l];exact h1) (by rw [l];exact h1);rw [l] at h2;refine h2.mono ?_;rintro e w' ⟨zo,zc,rfl,h3,_,h4⟩;exact ⟨zo,zc,rfl,h3,h4⟩
 have HW:=aa hW;have G:=aa k0;obtain ⟨p0,p1,p2,p3,p4,p5⟩:=JC.out _ (ah ae W);unfold fi at HW ⊢;clear hW k0 ar hR h hv hd am hM v ax l hA Z;go_enter Tryz.func128,Tryz.ntmps128;go_wp2_with (rw [← HW.out]);go_step3
 go_wp2_with fail;go_region_held3 (fun w'=>w'.cell? ⟨w.heap.size,0,none⟩=some (.slice ao n mc)∧w'.cell? ⟨w.heap.size,1,none⟩=some (.int .u64 (K:Int))∧w'.cell? ⟨w.heap.size,2,none⟩=some (.slice bo n rc)∧w'.cell? ⟨w.heap.size,4,none⟩=some (.slice oo n oc))
  (((try dsimp only);(repeat' apply And.intro) <;> first | (go_keep;done) | assumption))
  (first
  | (go_at_call 171;refine (pS yo n yc w3).mono ?_;rintro e w4 ⟨rfl,rfl⟩)
  | (go_at_call 172;refine (JQ.out _ zo zc k2 aw).mono ?_;rintro e w3 ⟨yo,yc,rfl,aG,k3⟩;obtain ⟨t0,t1,t2,t3,t4,t5⟩:=JC.out _ k3)
  | (go_at_call 171;refine (pS zo n zc w2).mono ?_;rintro e aX ⟨rfl,rfl⟩)
  | (go_at_call 107;refine (O.out _ (ah ae W).drew).mono ?_;rintro e w2 ⟨zo,zc,rfl,aw,k2⟩;obtain ⟨s0,s1,s2,s3,s4,s5⟩:=JC.out _ k2))
 have hE:=JE.out _ yo yc k3 aG;clear O JQ JE aw k2 aG p0 p1 p2 p3 p4 p5 s0 s1 s2 s3 s4 s5 hD;go_wp2_with fail;refine hE.mono ?_;rintro e w5 ⟨xo,xc,rfl,aH,k5⟩;have H:=pS xo n xc w5;clear hE k3 t0 t1 t2 t3 t4 t5;go_wp2_with fail;refine H.mono ?_;rintro e w6 ⟨rfl,rfl⟩;obtain ⟨p0,p1,p2,p3,p4,p5⟩:=JC.out _ k5;have aI:=JO.out _ k5;clear H JO;go_wp2_with fail;refine aI.mono ?_;rintro e w7 ⟨io,ic,rfl,ap,k7⟩;have K7:=k5.trans k7;have aD:=aH.grew k7;have au:=JS.out _ io ic K7 ap;obtain ⟨q0,q1,q2,q3,q4,q5⟩:=JC.out _ K7;clear aI JS p0 p1 p2 p3 p4 p5 aH k5 k7;go_wp2_with fail;refine au.mono ?_;rintro e w8 ⟨eo,ec,c8,rfl,az,k8⟩;have K8:=K7.trans k8;have F:=aD.grew k8
 have ab:=ap.grew k8;obtain ⟨B,hB⟩:∃ B,B=A^D:=⟨_,rfl⟩
 rw [← hB] at C F;clear au q0 q1 q2 q3 q4 q5 aD ap k8 K7 hB;have e1:1%X=1:=al (by omega);have eL:(X-1)%X=X-1:=al (by omega);have V:=aa e1;have Y:=aa eL;clear e1 eL;by_cases h1:B^2^0%X=1
 ·have b:=mO p g a r F ab true (by rw [V.out];exact (bd h1).symm);have HT:Hid (R=true):=C.out.2 (.inl (by rw [Nat.pow_zero,Nat.pow_one] at h1;exact h1));clear h1;go_wp2_with fail;refine b.mono ?_;rintro e w9 ⟨rfl,k9⟩;go_wp2_with fail;try rw [Exit.noGoto_ret]
  go_ret;exact ⟨by rw [HT.out];rfl,G.out.trans (K8.trans k9)⟩
 have b:=mO p g a r F ab false (by rw [V.out];exact (aF h1).symm);have aE:=aa h1;clear h1;go_wp2_with fail;refine b.mono ?_;rintro e w9 ⟨rfl,k9⟩;have K9:=K8.trans k9;have T:=F.grew k9;have aC:=ab.grew k9;have U:=az.grew k9;clear b F ab az K8 k9;by_cases h2:B^2^0%X=X-1
 ·have b:=mO p g a r T U true (by rw [Y.out];exact (bd h2).symm);have HT:Hid (R=true):=C.out.2 (.inr ⟨0,aP,h2⟩);clear h2;go_wp2_with fail;refine b.mono ?_;rintro e aA ⟨rfl,y⟩;go_wp2_with fail;try rw [Exit.noGoto_ret]
  go_ret;exact ⟨by rw [HT.out];rfl,G.out.trans (K9.trans y)⟩
 have b:=mO p g a r T U false (by rw [Y.out];exact (aF h2).symm);have aO:Hid (∀ j,j≤0→B^2^j%X≠X-1):=fun j hj=>by
  have e:j=0:=Nat.le_zero.1 hj;rw [e];exact h2
 clear h2;go_wp2_with fail;refine b.mono ?_;rintro e aA ⟨rfl,y⟩;have J:=aa (K9.trans y);have HP:=aa (T.grew y);have HO:=aa (aC.grew y);have HL:=aa (U.grew y);obtain ⟨p0,p1,p2,p3,p4,p5⟩:=JC.out _ J.out;clear b T aC U K9 y;go_wp2_with fail;go_step3
 go_wp2_with fail;clear p0 p1 p2 p3 p4 p5;go_loopw [5,9,56] (fun pv fv iv wr=>∃ (i:Nat) (po:Option Addr) (pc:Nat),i+1≤s∧fv=.bool false∧iv=.int .i64 (i:Int)∧pv=.slice po n pc∧Hid (MonR wr (.slice po n pc) n X (B^2^i))∧Hid (∀ j,j≤i→B^2^j%X≠X-1)∧Hid (Kept ae aA wr)) (fun _ _ iv _=>s-(intOf iv).toNat)
 case atStart=>exact ⟨0,xo,xc,by omega,rfl,rfl,rfl,HP.out,aO.out,ah _ _⟩
 case round=>
  clear HP;obtain ⟨i,po,pc,aV,rfl,rfl,rfl,aM,N,aj⟩:=hrel;have KI:=J.out.trans aj.out;obtain ⟨p0,p1,p2,p3,p4,p5⟩:=JC.out _ KI;by_cases hin:i+1<s
  ·have g1:(i:Int)<(s:Int)-1:=by omega
   have aL:=an.out wr po pc _ KI aM.out;go_wp2_with fail;refine aL.mono ?_;rintro e av ⟨ro,E,rfl,L,aK⟩;have q:MonR av (.slice ro n E) n X (B^2^(i+1)):=by unfold MonR;rw [← zL];exact L
   have H:=pS ro n E av;clear aL L;go_wp2_with fail;refine H.mono ?_;rintro e aW ⟨rfl,rfl⟩;have Q:=aj.out.trans aK;have x:=HL.out.grew Q;have I:=HO.out.grew Q;clear H aK;by_cases h3:B^2^(i+1)%X=X-1
   ·have b:=mO p g a r q x true (by rw [Y.out];exact (bd h3).symm);have HT:Hid (R=true):=C.out.2 (.inr ⟨i+1,hin,h3⟩);clear h3;go_wp2_with fail;refine b.mono ?_;rintro e aN ⟨rfl,z⟩;go_wp2_with fail;try rw [Exit.noGoto_ret]
    go_ret;exact ⟨by rw [HT.out];rfl,G.out.trans (J.out.trans (Q.trans z))⟩
   ·have b:=mO p g a r q x false (by rw [Y.out];exact (aF h3).symm);have aJ:Hid (∀ j,j≤i+1→B^2^j%X≠X-1):=fun j hj=>by
     by_cases e:j=i+1
     ·subst e;exact h3
     ·exact N.out j (by omega)
    clear h3;go_wp2_with fail;refine b.mono ?_;rintro e aN ⟨rfl,z⟩;have ad:=Q.trans z;have m:=q.grew z;have t:=I.grew z;clear b z Q q I x;by_cases h4:B^2^(i+1)%X=1
    ·have b:=mO p g a r m t true (by rw [V.out];exact (bd h4).symm);have HT:Hid (R=false):=by
      unfold Hid;cases hb:R with
      | false=>rfl
      | true=>
       rcases C.out.1 hb with h5 | ⟨j,hj,h5⟩
       ·exact absurd (by rw [Nat.pow_zero,Nat.pow_one];exact h5) aE.out
       ·by_cases hji:j≤i+1
        ·exact absurd h5 (aJ.out j hji)
        ·have:=zK (show 1<X by omega) h4 j (by omega);omega
     clear h4;go_wp2_with fail;refine b.mono ?_;rintro e aR ⟨rfl,S⟩;go_wp2_with fail;try rw [Exit.noGoto_ret]
     go_ret;exact ⟨by rw [HT.out];rfl,G.out.trans (J.out.trans (ad.trans S))⟩
    ·have b:=mO p g a r m t false (by rw [V.out];exact (aF h4).symm);clear h4;go_wp2_with fail;refine b.mono ?_;rintro e aR ⟨rfl,S⟩;have aq:=aa (m.grew S);have ac:=aa (ad.trans S);clear b m t ad S;go_wp2_with fail;go_roundw
     case rel=>exact ⟨i+1,ro,E,by omega,rfl,by go_num,rfl,aq,aJ,ac⟩
     case measure=>simp [intOf];omega
  ·have g1:¬ (i:Int)<(s:Int)-1:=by omega
   have HT:Hid (R=false):=by
    unfold Hid;cases hb:R with
    | false=>rfl
    | true=>
     rcases C.out.1 hb with h5 | ⟨j,hj,h5⟩
     ·exact absurd (by rw [Nat.pow_zero,Nat.pow_one];exact h5) aE.out
     ·exact absurd h5 (N.out j (by omega))
   go_wp2_with fail;try rw [Exit.noGoto_ret]
   go_ret;exact ⟨by rw [HT.out];rfl,G.out.trans (J.out.trans aj.out)⟩

theorem Num17.scr {w w':World} {X:Nat} {ao bo lo oo:Option Addr} {n mc rc lc oc K s:Nat} {p:Option Addr} {B:Nat} {cs:List Nat} (h:Num17 w X ao bo lo oo n mc rc lc oc K s) (hs:Lsc w p B cs) (k:Kept (ofP p) w w'):Num17 w' X ao bo lo oo n mc rc lc oc K s:=
 ⟨⟨RowT.none (h.mod.hm.1.kept' k (fun a=>hs.apart h.mod.hm.1 a)),RowT.none (h.mod.hr.1.kept' k (fun a=>hs.apart h.mod.hr.1 a)),h.mod.hmd,h.mod.hrd,h.mod.hK,h.mod.ok⟩,h.last.kept' k (fun a=>hs.apart h.last a),h.odd.kept' k (fun a=>hs.apart h.odd a),h.tz,h.big,h.par,h.fit,h.n0,h.nb,h.sb⟩

def RndNext (xs:List Nat) (X k i:Nat) (acc:List (List Nat)) (r:Bool × List (List Nat) × Nat × List Nat) (x cs:List Nat):Prop:=
 (x.length=xs.length∧Digs x∧1<val x∧val x<X-1)∧∃ f,cs.length<f∧(if et X (val x) then iF xs k f (i+1) cs (acc ++ [x]) else (false,acc ++ [x],0,cs))=r

def zy (xs:List Nat) (X k i:Nat) (acc:List (List Nat)) (r:Bool × List (List Nat) × Nat × List Nat) (p:Option Addr) (B:Nat) (cs:List Nat) (w:World) (e:Ending) (w':World):Prop:=
 (∃ v x ds,e=.returned v∧(Row .u64 w' v x∧∀ b,v.ownBlock=some b→w.heap.size≤b)∧RndNext xs X k i acc r x ds∧Lsc w' p B ds∧Digs ds 256∧ds.length<cs.length∧Kept (ofP p) w w') ∨
 (∃ (E:Nat) (ds:List Nat),e=.panicked [refusal (E:Nat)]∧E≠0∧(false,[],E,ds)=r∧Lsc w' p B ds∧Kept (ofP p) w w')

theorem AG (ao bo lo oo co p:Option Addr) (n mc rc lc oc K s X L cap B k i f:Nat) (xs cs:List Nat) (y:List (List Nat)) (r:Bool × List (List Nat) × Nat × List Nat) (hX:X=val xs) (aB:i<k) (hf:cs.length<f) (hr:iF xs k f i cs y=r) (w:World)
  (h:Num17 w X ao bo lo oo n mc rc lc oc K s) (hu:Row .u64 w (.slice co L cap) xs) (hd:Digs xs) (hL:L≤1000000) (hs:Lsc w p B cs) (hB:B≤w.heap.size) (S:Digs cs 256) :
  Calls Tryz.prog 127 #[.agg (fi ao bo lo oo n mc rc lc oc K s),.pointer p,.slice co L cap] w fun e w'=>zy xs X k i y r p B cs w e w':=by
 obtain ⟨W,hW⟩:∃ W,W=w.alloc (.cells (fi ao bo lo oo n mc rc lc oc K s) 150):=⟨_,rfl⟩
 have k0:Kept ae w W:=by rw [hW];exact (ah ae w).alloc _
 have O:W.heap[w.heap.size]? = some (.cells (fi ao bo lo oo n mc rc lc oc K s) 150 (0,0)):=by rw [hW];exact heap_alloc_new _ _
 have au:Hid (∀ x,ofP p x→x<B):=fun x hx=>(hs.inP hx).1
 have U:¬ ofP p w.heap.size:=fun e=>by have:=au.out _ e;omega
 have JC:Hid (∀ W',Kept (ofP p) W W'→W'.cell? ⟨w.heap.size,0,none⟩=some (.slice ao n mc)∧W'.cell? ⟨w.heap.size,1,none⟩=some (.int .u64 (K:Nat))∧W'.cell? ⟨w.heap.size,2,none⟩=some (.slice bo n rc)∧W'.cell? ⟨w.heap.size,3,none⟩=some (.slice lo n lc)∧W'.cell? ⟨w.heap.size,4,none⟩=some (.slice oo n oc)∧W'.cell? ⟨w.heap.size,5,none⟩=some (.int .i64 (s:Nat))):=fun W' k=>fm ((k.block _ (lt_of_block O) U).trans O)
 obtain ⟨_,_,_,e1,ad,_⟩:=hu.open;cases e1
 have av:=aa ad.out;have aC:=h.big;have ag:xs≠[]:=fun e=>by
  rw [e] at hX;have h9:val []=0:=rfl;omega
 have N:=aa (hs.grew k0);have af:=aa (hs.grew k0);have Q:=aa (h.grew k0);have G:=aa (hu.grew k0);have aq:Hid (∀ W',Kept (ofP p) W W'→Row .u64 W' (.slice co L cap) xs):=fun W' k=>G.out.kept' k (fun aw=>N.out.apart G.out aw)
 have ax:Hid (∀ W',Kept (ofP p) W W'→Num17 W' X ao bo lo oo n mc rc lc oc K s):=fun W' k=>Q.out.scr N.out k
 have HW:=aa hW;have F:=aa k0;have ap:Hid (B≤W.heap.size):=Nat.le_trans hB k0.size;have HR:=aa hr;have HX:=aa hX;have an:=aa S;have HF:=aa hf;unfold fi at HW ⊢;clear hW k0 O U ad h hu hs hr hX S hf N Q G;go_enter Tryz.func127,Tryz.ntmps127;go_wp2_with (rw [← HW.out]);go_loopw [] (fun wr=>∃ (ds:List Nat) (g:Nat),Hid (ds.length<g)∧ds.length≤cs.length∧Hid (iF xs k g i ds y=r)∧Hid (Lsc wr p B ds)∧Hid (Digs ds 256)∧Hid (Kept (ofP p) W wr)) (fun wr=>eG p wr)
 case atStart=>exact ⟨cs,f,HF.out,leR _,HR.out,af.out,an.out,ah _ _⟩
 case round=>
  clear HF HR;obtain ⟨ds,g,J,aD,heq,V,R,q⟩:=hrel;obtain ⟨g',rfl⟩:∃ g',g=g'+1:=⟨g-1,by have:=J.out;omega⟩
  have H:=aa V.out.left;have c:=heq.out;unfold iF at c;rw [if_neg (by omega)] at c;have l:=qw p B ds xs (.slice co L cap) wr V.out (Nat.le_trans ap.out q.out.size) R.out (aq.out _ q.out) hd (by rw [av.out];exact hL);by_cases hE0:bj xs ds=0
  ·rw [if_neg (by omega)] at c;have hlt:=mP hE0;have ab:=oX hE0;have P:Digs (de xs ds):=by unfold de;rw [if_pos hE0];exact ai (by omega) _ _
   have Y:Hid (Digs (dg xs ds) 256):=by
    obtain ⟨m,hm⟩:=jU xs ds;unfold Hid;rw [hm];exact R.out.drop m
   have d:=pC hd hE0;rw [← HX.out] at d c;rw [hE0] at l;generalize eZ xs ds=kk at *;generalize de xs ds=x at *;generalize dg xs ds=ds' at *;clear hE0 heq;have ay:=aa ab;have v:=aa d;have t:=aa c;have z:=aa hlt;have T:=aa P;clear ab d c hlt P;go_wp2_with fail;refine l.mono ?_;rintro e w1 ⟨u,rfl,⟨j,D⟩,A,k1⟩;obtain ⟨uo,un,uc,rfl,_⟩:=j.open;have K1:=q.out.trans k1;have o:=eN 0 w1;have C:=aa A;have Z:=aa j;have az:Hid (∀ b,(Value.slice uo un uc).ownBlock=some b→w.heap.size≤b):=fun b hb=>by have h1:=D b hb;have h2:=F.out.size;have h3:=q.out.size;omega
   clear l A j D k1;go_wp2_with fail;refine o.mono ?_;rintro e w2 ⟨rfl,rfl⟩;obtain ⟨p0,p1,p2,p3,p4,p5⟩:=JC.out _ K1;have hM:=BZ ao bo lo oo uo n mc rc lc oc K s X un uc x _ rfl w2 (ax.out _ K1) Z.out T.out;unfold fi at hM;obtain ⟨a,ha⟩:∃ a,a=val x:=⟨_,rfl⟩
   rw [← ha] at hM v t;have HA:=aa ha;clear o ha;have d:=v.out;by_cases hin:1<a∧a<X-1
   ·rw [bd hin] at hM;have am:Hid (RndNext xs X k i y r x ds'):=by
     refine ⟨⟨ay.out,T.out,by rw [← HA.out];exact hin.1,by rw [← HA.out];exact hin.2⟩,g',by have:=J.out;have:=z.out;omega,?_⟩;have h1:=t.out;rw [if_neg (by omega)] at h1;rw [← HA.out];exact h1
    clear hin d;go_wp2_with fail;refine hM.mono ?_;rintro e w3 ⟨rfl,k3⟩;have K3:=aa (K1.trans k3.any);have E:=aa (C.out.grew k3);have ar:=aa (Z.out.grew k3);clear hM k3 p0 p1 p2 p3 p4 p5 K1;go_wp2_with fail;go_ret;exact .inl ⟨_,x,ds',rfl,⟨ar.out,az.out⟩,am.out,E.out,Y.out,by have:=z.out;omega,F.out.any.trans K3.out⟩
   ·rw [aF hin] at hM;have I:Hid (iF xs k g' i ds' y=r):=by
     have h1:=t.out;rw [if_pos (by omega)] at h1;exact h1
    clear hin d;go_wp2_with fail;refine hM.mono ?_;rintro e w3 ⟨rfl,k3⟩;have K3:=aa (K1.trans k3.any);have E:=aa (C.out.grew k3);have al:Hid (eG p w3<eG p wr):=by unfold Hid;rw [E.out.left,H.out];exact z.out
    have ak:Hid (ds'.length<g'):=by unfold Hid;have:=J.out;have:=z.out;omega
    have M:ds'.length≤cs.length:=by have:=z.out;omega
    clear hM k3 p0 p1 p2 p3 p4 p5 K1;go_wp2_with fail;go_roundw
    case rel=>exact ⟨ds',g',ak,M,I,E,Y,K3⟩
    case measure=>exact al.out
  ·rw [if_pos hE0] at c;have aA:¬ ((bj xs ds:Nat):Int)=0:=by omega
   generalize hEE:bj xs ds=EE at *;generalize eZ xs ds=kk at *;generalize de xs ds=x at *;generalize dg xs ds=ds' at *;clear hEE;have t:=aa c;have ac:=aa hE0;have o:∀ W,Calls Tryz.prog 125 #[.bool true,.int .i64 (EE:Int)] W fun e w'=>e=.panicked [refusal (EE:Nat)]∧w'=W:=fun W=>eS (EE:Int) W
   clear c heq hE0;go_wp2_with fail;refine l.mono ?_;rintro e w1 ⟨u,rfl,⟨j,D⟩,A,k1⟩;obtain ⟨uo,un,uc,rfl,_⟩:=j.open;have K1:=aa (q.out.trans k1);have C:=aa A;have aj:=o w1;clear l A j D k1 o;go_wp2_with fail;rw [show ((EE:Int) != 0)=true by have:=ac.out;simp;omega];refine aj.mono ?_;rintro e w2 ⟨rfl,rfl⟩;exact ⟨rfl,.inr ⟨EE,ds',rfl,ac.out,t.out,C.out,F.out.any.trans K1.out⟩⟩

end Go.Proofs.YtcemlfokmjjiaaaGreatDoor
