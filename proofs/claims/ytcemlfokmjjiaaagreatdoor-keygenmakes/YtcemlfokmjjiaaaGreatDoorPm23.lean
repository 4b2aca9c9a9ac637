/- Put together of: Sho2 Sho3 Mir4 Mir6. -/
import Derived.Test.YtcemlfokmjjiaaaGreatDoorPm13
import Derived.Test.YtcemlfokmjjiaaaGreatDoorPm22

namespace Go.Proofs.YtcemlfokmjjiaaaGreatDoor
set_option maxRecDepth 100000
set_option maxHeartbeats 4000000
open Go.RowKit Go.Shelf

attribute [local go_sem] Oper.semAt_some

def MonR (w:World) (v:Value) (n V P:Nat):Prop:=Row .u64 w v (ai (mon n V P) n)

theorem MonR.grew {w w':World} {v:Value} {n V P:Nat} (h:MonR w v n V P) (k:Kept af w w'):MonR w' v n V P:=Row.grew h k

theorem MonR.shape {w:World} {v:Value} {n V P:Nat} (h:MonR w v n V P):∃ xo xc,v=.slice xo n xc:=by
 obtain ⟨xo,xn,xc,rfl,hl,_⟩:=Row.open h;have:=hl.out;rw [ag] at this;subst this;exact ⟨_,_,rfl⟩

theorem BB (ao bo xo yo:Option Addr) (n l K b a xc yc P Q:Nat) (ms rs:List Nat) (w:World) (hM:Mod8 w none ao bo n l K b a ms rs) (hx:MonR w (.slice xo n xc) n (val ms) P) (hy:MonR w (.slice yo n yc) n (val ms) Q) :
  Calls Tryz.prog 176 #[.pointer none,.agg #[.slice ao n b,.int .u64 (K:Nat),.slice bo l a],.slice xo n xc,.slice yo n yc] w fun e w'=>∃ zo zc,e=.returned (.tuple #[.slice zo n zc,.int .i64 0])∧MonR w' (.slice zo n zc) n (val ms) (P*Q)∧Fresh w (.slice zo n zc)∧Kept af w w':=by
 obtain ⟨⟨f0,f1⟩,f2,f3,f4,f5⟩:=hM.facts;have hV:0<val ms:=by omega
 have ex:=ii (P:=P) hV f5;have ey:=ii (P:=Q) hV f5;refine (CO none ao bo xo yo n l K b a n n xc yc 0 ms rs _ _ w (TrRoom.none w _ (by omega)) hM.hm hM.hr (RowT.none hx) (RowT.none hy) hM.hmd hM.hrd (aj (by omega) _ _) (aj (by omega) _ _) hM.hK (by omega) ⟨fun _=>⟨hM.ok,⟨rfl,by rw [ex];exact iH hV⟩,rfl,by rw [ey];exact iH hV⟩,fun _=>rfl⟩ (by omega)).mono ?_;rintro e w' ⟨v',rfl,⟨Y,hR,hG⟩,⟨hF,hU⟩,o',d⟩;rw [if_pos rfl] at hR;have c:=hG rfl;rw [ex,ey] at c;rw [xf f3 c.1 c.2] at hR;have hA:MonR w' v' n (val ms) (P*Q):=hR;obtain ⟨zo,zc,rfl⟩:=hA.shape;exact ⟨zo,zc,rfl,hA,hF,d.none.2⟩

theorem C3 (ao bo xo:Option Addr) (n l K b a xc P:Nat) (ms rs:List Nat) (w:World) (hM:Mod8 w none ao bo n l K b a ms rs) (hx:MonR w (.slice xo n xc) n (val ms) P) :
  Calls Tryz.prog 210 #[.pointer none,.agg #[.slice ao n b,.int .u64 (K:Nat),.slice bo l a],.slice xo n xc] w fun e w'=>∃ v',e=.returned (.tuple #[v',.int .i64 0])∧Row .u64 w' v' (ai (P%val ms) n)∧Kept af w w':=by
 obtain ⟨⟨f0,f1⟩,f2,f3,f4,f5⟩:=hM.facts;have hV:0<val ms:=by omega
 have ex:=ii (P:=P) hV f5;refine (AX none ao bo xo n l K b a n xc 0 ms rs _ w (TrRoom.none w _ (by omega)) hM.hm hM.hr (RowT.none hx) hM.hmd hM.hrd (aj (by omega) _ _) hM.hK (by omega) ⟨fun _=>⟨hM.ok,rfl,by rw [ex];exact iH hV⟩,fun _=>rfl⟩ (by omega)).mono ?_;rintro e w' ⟨v',rfl,⟨Y,hR,hG⟩,⟨hF,hU⟩,o',d⟩;rw [if_pos rfl] at hR;have c:=hG rfl;rw [ex] at c;rw [lG f3 c.1 c.2] at hR;exact ⟨v',rfl,hR,d.none.2⟩

theorem BG (ao bo:Option Addr) (n l K b a:Nat) (ms rs:List Nat) (w:World) (hM:Mod8 w none ao bo n l K b a ms rs) :
  Calls Tryz.prog 174 #[.agg #[.slice ao n b,.int .u64 (K:Nat),.slice bo l a]] w fun e w'=>∃ zo zc,e=.returned (.slice zo n zc)∧MonR w' (.slice zo n zc) n (val ms) 1∧Kept af w w':=by
 obtain ⟨⟨f0,f1⟩,f2,f3,f4,f5⟩:=hM.facts;refine (C1 ao bo n l K b a ms rs (ai (mon n (val ms) 1) n) w hM.hm.1 hM.hr.1 hM.hmd hM.hrd hM.hK (by omega) (fun _=>by unfold mon;rw [Nat.mul_one]) (fun h=>absurd hM.ok h)).mono ?_;rintro e w' ⟨v',rfl,hR,k⟩;have hA:MonR w' v' n (val ms) 1:=hR;obtain ⟨zo,zc,rfl⟩:=hA.shape;exact ⟨zo,zc,rfl,hA,k⟩

structure RS9 (W1 W w:World) (bP n V P:Nat) (qv:Value):Prop where
 box:Box w bP qv 32
 num:MonR w qv n V P
 ne:∀ b,qv.ownBlock=some b→b≠bP
 old:Kept af W1 w
 kept:Kept (fun b=>b=bP) W w

theorem RS9.step {W1 W w w':World} {bP n V P:Nat} {qv:Value} (h:RS9 W1 W w bP n V P qv) (k:Kept af w w'):RS9 W1 W w' bP n V P qv:=
 ⟨h.box.grew k,h.num.grew k,h.ne,h.old.trans k,h.kept.next k (fun _ _ f=>f.elim)⟩

theorem RS9.put {W1 W w:World} {bP n V P Q:Nat} {qv zv:Value} (h:RS9 W1 W w bP n V P qv) (hz:MonR w zv n V Q) (a:∀ b,zv.ownBlock=some b→b≠bP) (hb:W1.heap.size≤bP):RS9 W1 W (w.setCell ⟨bP,0,none⟩ zv) bP n V Q zv:=by
 have kb:=au w bP zv;exact ⟨h.box.set zv,Row.kept hz kb a,a,cZ h.old kb hb,h.kept.next kb (fun _ _ f=>f)⟩

def iW {N:Nat} (g:Nat→Nat) (pre:List (Fin N)):Nat:=oK (pre.map fun x=>g x.val)

theorem lh {N:Nat} (g:Nat→Nat) (a:List (Fin N)) (x:Fin N):iW g (a ++ [x])=2*iW g a+g x.val:=by
 unfold iW;rw [List.map_append,List.map_cons,List.map_nil,kU]

theorem sZ {N:Nat} {g:Nat→Nat} {ys:List (Fin N)} (h:ys.map Fin.val=List.range N):iW g ys=oK ((List.range N).map g):=by
 unfold iW;rw [← h,List.map_map];rfl

def Btw9 (W1:World) (bP n V X:Nat) (ev:Value) {N:Nat} (g:Nat→Nat) (pre:List (Fin N)) (W:World):Prop:=
 ∃ (qo:Option Addr) (qc:Nat),RS9 W1 W W bP n V (X^iW g pre) (.slice qo n qc)∧Box W (bP+1) ev 32

theorem Btw9.turn {W1:World} {bP n V X N B:Nat} {ev:Value} {g:Nat→Nat} {a:List (Fin N)} {W W':World} (h:Btw9 W1 bP n V X ev g a W) (t:Turn B W W') (hB:W1.heap.size≤B):Btw9 W1 bP n V X ev g a W':=by
 obtain ⟨qo,qc,h1,h2⟩:=h;exact ⟨qo,qc,⟨t.cells h1.box,t.row h1.num,h1.ne,t.kept h1.old hB,ah _ _⟩,t.cells h2⟩

theorem yd (ao bo xo eo:Option Addr) (n l0 K i d xc L a X:Nat) (ms rs ys:List Nat) (w:World) (hM:Mod8 w none ao bo n l0 K i d ms rs) (hx:MonR w (.slice xo n xc) n (val ms) X)
  (he:Row .u64 w (.slice eo L a) ys) (an:Digs ys) (hL:L≤300) :
  Calls Tryz.prog 211 #[.agg #[.slice ao n i,.int .u64 (K:Nat),.slice bo l0 d],.slice xo n xc,.slice eo L a] w fun e w'=>∃ zo zc,e=.returned (.slice zo n zc)∧MonR w' (.slice zo n zc) n (val ms) (X^val ys)∧Kept af w w':=by
 obtain ⟨⟨f0,f1⟩,f2,f3,f4,f5⟩:=hM.facts;obtain ⟨V,hV⟩:∃ V,V=val ms:=⟨_,rfl⟩
 rw [← hV] at f3 f4 f5 hx ⊢;obtain ⟨W0,I⟩:∃ W0,W0=(w.alloc (.cells #[.slice ao n i,.int .u64 (K:Nat),.slice bo l0 d] 130)).alloc (.cells #[.slice xo n xc] 32):=⟨_,rfl⟩
 have k0:Kept af w W0:=by rw [I];exact ((ah af w).alloc _).alloc _
 have T:W0.heap[w.heap.size]? = some (.cells #[.slice ao n i,.int .u64 (K:Nat),.slice bo l0 d] 130 (0,0)):=by
  rw [I];exact aq (heap_alloc_new w _)
 have ac:Box W0 (w.heap.size+1) (.slice xo n xc) 32:=by
  rw [I];have:=Box.new (w.alloc (.cells #[.slice ao n i,.int .u64 (K:Nat),.slice bo l0 d] 130)) (.slice xo n xc) 32
  rwa [show (w.alloc (.cells #[.slice ao n i,.int .u64 (K:Nat),.slice bo l0 d] 130)).heap.size=w.heap.size+1 by simp] at this
 have JC:Hid (∀ W,Kept af W0 W→W.cell? ⟨w.heap.size,0,none⟩=some (.slice ao n i)∧W.cell? ⟨w.heap.size,1,none⟩=some (.int .u64 (K:Nat))∧W.cell? ⟨w.heap.size,2,none⟩=some (.slice bo l0 d)∧W.cell? ⟨w.heap.size+1,0,none⟩=some (.slice xo n xc)):=fun W k=>by
  obtain ⟨q0,q1,q2⟩:=ay ((k.block _ (lt_of_block T) (fun f=>f)).trans T);exact ⟨q0,q1,q2,(ac.grew k).cell⟩
 have E:Hid (Calls Tryz.prog 174 #[.agg #[.slice ao n i,.int .u64 (K:Nat),.slice bo l0 d]] W0 fun e w'=>∃ zo zc,e=.returned (.slice zo n zc)∧MonR w' (.slice zo n zc) n V 1∧Kept af W0 w'):=by
  have:=BG ao bo n l0 K i d ms rs W0 (hM.grew k0);rw [← hV] at this;exact this
 have z:Hid (∀ W yo yc zo zc P Q,Kept af W0 W→MonR W (.slice yo n yc) n V P→MonR W (.slice zo n zc) n V Q→Calls Tryz.prog 176 #[.pointer none,.agg #[.slice ao n i,.int .u64 (K:Nat),.slice bo l0 d],.slice yo n yc,.slice zo n zc] W fun e w'=>∃ ro rc,e=.returned (.tuple #[.slice ro n rc,.int .i64 0])∧MonR w' (.slice ro n rc) n V (P*Q)∧Fresh W (.slice ro n rc)∧Kept af W w'):=fun W yo yc zo zc P Q k hA hB=>by
  rw [hV] at hA hB ⊢;exact BB ao bo yo zo n l0 K i d yc zc P Q ms rs W (hM.grew (k0.trans k)) hA hB
 have JX:Hid (∀ W,Kept af W0 W→MonR W (.slice xo n xc) n V X):=fun W k=>hx.grew (k0.trans k)
 have R:Hid (∀ W,Kept af W0 W→Row .u64 W (.slice eo L a) ys):=fun W k=>he.grew (k0.trans k)
 obtain ⟨_,_,_,e1,o,_⟩:=he.open;cases e1
 have M:=aa o;have q:Hid (∀ b,(Value.slice eo L a).ownBlock=some b→0<L→b<w.heap.size):=fun b hb hp=>he.lt (by intro e;rw [e] at o;have:=o.out;simp at this;omega) b hb
 have au:=aa I;have C:=aa k0;have ap:=aa f0;obtain ⟨c0,c1,c2,c3⟩:=JC.out _ (ah af W0);have hO:=E.out;clear I k0 T ac hM hx he o hV f0 f2 f3 E;refine (callsIn_wide (n:=9)).1 ?_;refine callsIn_of_wp_marks Tryz.func211 rfl trivial ?_ rfl;simp only [Tryz.ntmps211,List.size_toArray,List.length_cons,List.length_nil,Nat.reduceAdd,Nat.reduceSub,Array.replicate_succ,Array.replicate_zero,List.push_toArray,List.append_toArray,List.nil_append,List.cons_append];refine wpIn_wide.2 ?_;go_wp2_with (rw [← au.out]);refine hO.mono ?_;rintro e W1 ⟨po,pc,rfl,U,k1⟩;clear hO c0 c1 c2 c3;go_wp2_with fail;have ab:=Az eo L a (W1.alloc (.cells #[.slice po n pc] 32))
 refine ab.mono ?_;rintro e W3 ⟨rfl,rfl⟩;have kP:Kept af W1 (W1.alloc (.cells #[.slice po n pc] 32)):=(ah af W1).alloc _;have kE:=kP.alloc (.cells #[.slice eo L a] 32);have ak:=(Box.new W1 (.slice po n pc) 32).alloc (.cells #[.slice eo L a] 32);have O:=Box.new (W1.alloc (.cells #[.slice po n pc] 32)) (.slice eo L a) 32;have am:((W1.alloc (.cells #[.slice po n pc] 32)).alloc (.cells #[.slice eo L a] 32)).heap.size=W1.heap.size+2:=by simp
 rw [World.size_alloc] at O;have S:=R.out _ (k1.trans kE);have H:∀ b,(Value.slice po n pc).ownBlock=some b→b≠W1.heap.size:=fun b hb e=>by
  have:=Row.lt U (by intro h;have h1:=congrArg List.length h;rw [ag] at h1;have h2:n=0:=h1;have:=ap.out;omega) b hb;omega
 have R0:Hid (RS9 W1 _ _ W1.heap.size n V 1 (.slice po n pc)):=aa ⟨ak,U.grew kE,H,kE,ah _ _⟩;obtain ⟨N,hN⟩:∃ N,aw (val ys)=N:=⟨_,rfl⟩
 obtain ⟨g,hg⟩:∃ g:Nat→Nat,∀ j,val ys/2^(N-1-j)%2=g j:=⟨_,fun _=>rfl⟩
 have HG:=aa hg;have HN:=aa hN;have K1:=aa k1;clear ab kP ak U H;go_wp2_with fail;generalize (W1.alloc (.cells #[.slice po n pc] 32)).alloc (.cells #[.slice eo L a] 32)=W3 at *;refine (wpIn_wide (n:=9)).1 ?_;refine wpIn_rangeFunc_ownG (F:=Fence.wide) (n:=9) rfl (by omega) (gf:=254) (lb:=#[.pointer (some ⟨W1.heap.size+1,0,none⟩)]) rfl trivial (enters_of Tryz.func254 (by kernel_rfl) rfl)
  (sN 8 (by omega) (W1.heap.size+1) L N g (.slice eo L a) ys an M.out.out hN (by omega) hg (fun k=>k=W1.heap.size+1∨((Value.slice eo L a).ownBlock=some k∧0<L)) (.inl rfl) (fun b hb hp=>.inr ⟨hb,hp⟩) _ ?hsw O.cell S) KeepB.trans (KeepB.put ?hsw2) (Below.refl _ _) (fun _=>rfl)
  (Btw9 W1 W1.heap.size n V X (.slice eo L a) g) (fun _ _ _=>False)
  (lV (fun s A B hs t=>hs.turn t (by rw [am];omega))) (fun _ _ _ _ _ hs _ _=>hs)
  ⟨po,pc,by have:=R0.out;exact this,O⟩
  ?act ?assign ?body ?done ?stop
 case hsw=>
  rintro k (rfl | ⟨hk,hp⟩)
  ·omega
  ·have:=q.out k hk hp;have:=C.out.size;have:=K1.out.size;omega
 case hsw2=>
  rintro k (rfl | ⟨hk,hp⟩)
  ·omega
  ·have:=q.out k hk hp;have:=C.out.size;have:=K1.out.size;omega
 case assign=>
  intro l x W K hK
  gi_wp2
  exact hK
 case body=>
  rintro l p x W ⟨qo,qc,R1,J⟩ hlt;have ai:=aa J;have HX:Hid (g x.val<2):=by rw [← HG.out];exact Nat.mod_lt _ (by omega)
  have HR:=aa R1;have G:Hid (∀ (wE:World) (r:Option Addr) (tc:Nat),RS9 W1 W wE W1.heap.size n V (X^iW g (p ++ [x])) (.slice r n tc)→KeepsFrom W3.heap.size W wE∧KeepB (fun k=>k=W1.heap.size+1∨((Value.slice eo L a).ownBlock=some k∧0<L)) W wE∧Btw9 W1 W1.heap.size n V X (.slice eo L a) g (p ++ [x]) wE):=fun wE r tc RE=>by
   have ae:Box wE (W1.heap.size+1) (.slice eo L a) 32:=ai.out.kept RE.kept (by omega);refine ⟨j8 RE.kept (fun b hb _=>?_),?_,r,tc,⟨RE.box,RE.num,RE.ne,RE.old,ah _ _⟩,ae⟩
   ·subst hb;exact ⟨_,_,_,HR.out.box⟩
   ·rintro k (rfl | ⟨hk,hp⟩)
    ·exact (show wE.heap[_]? = _ from ae).trans (show W.heap[_]? = _ from ai.out).symm
    ·have h1:=q.out k hk hp;have h2:=C.out.size;have h3:=K1.out.size;have h4:=HR.out.old.size;exact RE.kept.block k (by omega) (by omega)
  obtain ⟨q0,q1,q2,q3⟩:=JC.out _ (K1.out.trans R1.old);have qP:=R1.box.cell;have fP:=R1.box.free;have m:=z.out W qo qc qo qc _ _ (K1.out.trans R1.old) R1.num R1.num;rw [← Nat.pow_add] at m;clear R1 J
  gi_wp2_with fail
  refine ⟨trivial,?_⟩;refine (CallsIn.inRound l (callsIn_wide.2 m)).mono ?_;rintro e w7 ⟨so,sc,rfl,Y,aj,d7⟩;have R7:=HR.out.step d7;have v:∀ b,(Value.slice so n sc).ownBlock=some b→b≠W1.heap.size:=fun b hb e=>by
   have h1:=aj b hb;have h2:=HR.out.box.lt;omega
  have R8:=aa (R7.put Y v (leR _));have az:=R7.box.cell;have ax:=R7.box.free;clear m Y aj d7 v R7 q0 q1 q2 q3 qP fP;by_cases h1:g x.val=1
  ·obtain ⟨q0,q1,q2,q3⟩:=JC.out _ (K1.out.trans R8.out.old);have qP:=R8.out.box.cell;have fP:=R8.out.box.free;have m:=z.out _ so sc xo xc _ _ (K1.out.trans R8.out.old) R8.out.num (JX.out _ (K1.out.trans R8.out.old));rw [← Nat.pow_succ,show (iW g p+iW g p).succ=iW g (p ++ [x]) by rw [lh,h1];omega] at m;have gx:((g x.val:Nat):Int)=1:=by omega
   clear h1
   gi_wp2_with fail
   refine ⟨trivial,?_⟩;refine (CallsIn.inRound l (callsIn_wide.2 m)).mono ?_;rintro e w9 ⟨r,tc,rfl,Z,ad,d9⟩;have R9:=R8.out.step d9;have y:∀ b,(Value.slice r n tc).ownBlock=some b→b≠W1.heap.size:=fun b hb e=>by
    have h1:=ad b hb;have h2:=R8.out.box.lt;omega
   have av:=aa (R9.put Z y (leR _));have aB:=R9.box.cell;have aA:=R9.box.free;clear m Z ad d9 y R9 q0 q1 q2 q3 qP fP
   gi_wp2_with fail
   exact G.out _ _ _ av.out
  ·have gx:¬ ((g x.val:Nat):Int)=1:=by omega
   have R9:=R8.out;rw [show iW g p+iW g p=iW g (p ++ [x]) by rw [lh];have:=HX.out;omega] at R9;have ar:=aa R9;clear h1 R9
   gi_wp2_with fail
   exact G.out _ _ _ ar.out
 case done=>
  rintro D zs W hD al ⟨qo,qc,R1,J⟩ hK;have qP:=R1.box.cell;have hE:iW g zs=val ys:=by
   rw [sZ al,show g=fun j=>val ys/2^(N-1-j)%2 from funext (fun j=>(HG.out j).symm)];exact xJ HN.out
  rw [hE] at R1;have HR:=aa R1;have HK:=aa hK;clear hE al R1 J hg hN hK;go_wp2_with fail;refine ⟨by simp,.inl ⟨_,_,rfl,run_takeDeferred HK.out,?_⟩⟩;have tt:=tO (B:=W3.heap.size) hD HK.out rfl (.deferred none);exact ⟨_,results_tmp rfl _ _ _,qo,qc,rfl,tt.row HR.out.num,tt.kept (C.out.trans (K1.out.trans HR.out.old)) (by have h1:=C.out.size;have h2:=K1.out.size;omega)⟩
 case stop=>
  rintro D c p W _ _ h _;exact h.elim

open Go.RowKit

theorem Bq (ao bo xo:Option Addr) (n l K a b xc:Nat) (ms rs xs:List Nat) (w:World) (hM:Mod8 w none ao bo n l K a b ms rs) (hx:Row .u64 w (.slice xo n xc) xs) (c:Digs xs) (hlt:val xs<val ms) :
  Calls Tryz.prog 173 #[.pointer none,.agg #[.slice ao n a,.int .u64 (K:Nat),.slice bo l b],.slice xo n xc] w fun e w'=>∃ zo zc,e=.returned (.tuple #[.slice zo n zc,.int .i64 0])∧MonR w' (.slice zo n zc) n (val ms) (val xs)∧Kept af w w':=by
 obtain ⟨⟨f0,f1⟩,f2,f3,f4,f5⟩:=hM.facts;refine (vM none ao bo xo n l K a b n xc 0 ms rs xs w (TrRoom.none w _ (by omega)) hM.hm hM.hr (RowT.none hx) hM.hmd hM.hrd c hM.hK (by omega) ⟨fun _=>⟨hM.ok,rfl,hlt⟩,fun _=>rfl⟩ (by omega)).mono ?_;rintro e w' ⟨v',rfl,⟨Y,hR,hG⟩,_,o',d⟩;rw [if_pos rfl] at hR;have f:Y=mon n (val ms) (val xs):=hG rfl;rw [f] at hR;have hA:MonR w' v' n (val ms) (val xs):=hR;obtain ⟨zo,zc,rfl⟩:=hA.shape;exact ⟨zo,zc,rfl,hA,d.none.2⟩

theorem Aj (ao bo xo eo:Option Addr) (n l K b a N1 xc L c:Nat) (ms rs xs ys:List Nat) (E:Nat)
  (hE:(E=0∧(okMod ms K rs∧(N1=n∧val xs<val ms))∧L≤300)∨(E=2∧(okMod ms K rs∧(N1=n∧val xs<val ms))∧300<L)∨(E=1∧¬ (okMod ms K rs∧(N1=n∧val xs<val ms))))
  (RL:List Nat) (g:RL=if E=0 then ai (val xs^val ys%val ms) n else []) (w:World)
  (hm:Row .u64 w (.slice ao n b) ms) (hr:Row .u64 w (.slice bo l a) rs) (hx:Row .u64 w (.slice xo N1 xc) xs) (hy:Row .u64 w (.slice eo L c) ys) (p:Digs ms) (j:Digs rs) (m:Digs xs) (s:Digs ys) (hK:K<18446744073709551616) (r:n≤300) :
  Calls Tryz.prog 172 #[.agg #[.slice ao n b,.int .u64 (K:Nat),.slice bo l a],.slice xo N1 xc,.slice eo L c] w fun e w'=>∃ v',e=.returned (.tuple #[v',.int .i64 ((E:Nat):Int)])∧Row .u64 w' v' RL∧Kept af w w':=by
 obtain ⟨W,hW⟩:∃ W,W=w.alloc (.cells #[.slice ao n b,.int .u64 (K:Nat),.slice bo l a] 130):=⟨_,rfl⟩
 have k0:Kept af w W:=by rw [hW];exact (ah af w).alloc _
 have o:W.heap[w.heap.size]? = some (.cells #[.slice ao n b,.int .u64 (K:Nat),.slice bo l a] 130 (0,0)):=by rw [hW];exact heap_alloc_new _ _
 have JC:Hid (∀ W',Kept af W W'→W'.cell? ⟨w.heap.size,0,none⟩=some (.slice ao n b)∧W'.cell? ⟨w.heap.size,1,none⟩=some (.int .u64 (K:Nat))∧W'.cell? ⟨w.heap.size,2,none⟩=some (.slice bo l a)):=fun W' k=>ay ((k.block _ (lt_of_block o) (fun f=>f)).trans o)
 have HW:=aa hW;have y:=aa k0;obtain ⟨p0,p1,p2⟩:=JC.out _ (ah af W);by_cases hP:okMod ms K rs∧(N1=n∧val xs<val ms)
 ·obtain ⟨q,rfl,hlt⟩:=hP;have hM:Mod8 w none ao bo N1 l K b a ms rs:=⟨RowT.none hm,RowT.none hr,p,j,hK,q⟩
  have i:=Bq ao bo xo N1 l K b a xc ms rs xs W (hM.grew k0) (hx.grew k0) m hlt;by_cases hL:L≤300
  ·obtain rfl:E=0:=by
    rcases hE with h | h | h
    ·exact h.1
    ·omega
    ·exact absurd ⟨q,rfl,hlt⟩ h.2
   rw [if_pos rfl] at g;have gL:¬ (L:Int) > 300:=by omega
   have JR:Hid (∀ W' zo zc,Kept af W W'→MonR W' (.slice zo N1 zc) N1 (val ms) (val xs)→Calls Tryz.prog 211 #[.agg #[.slice ao N1 b,.int .u64 (K:Nat),.slice bo l a],.slice zo N1 zc,.slice eo L c] W' fun e w'=>∃ yo yc,e=.returned (.slice yo N1 yc)∧MonR w' (.slice yo N1 yc) N1 (val ms) (val xs^val ys)∧Kept af W w'):=fun W' zo zc k h=>by
    refine (yd ao bo zo eo N1 l K b a zc L c _ ms rs ys W' (hM.grew (k0.trans k)) h (hy.grew (k0.trans k)) s hL).mono ?_;rintro e w' ⟨yo,yc,rfl,h1,h2⟩;exact ⟨yo,yc,rfl,h1,k.trans h2⟩
   have JL:Hid (∀ W' zo zc,Kept af W W'→MonR W' (.slice zo N1 zc) N1 (val ms) (val xs^val ys)→Calls Tryz.prog 210 #[.pointer none,.agg #[.slice ao N1 b,.int .u64 (K:Nat),.slice bo l a],.slice zo N1 zc] W' fun e w'=>∃ v',e=.returned (.tuple #[v',.int .i64 0])∧Row .u64 w' v' RL∧Kept af W w'):=fun W' zo zc k h=>by
    refine (C3 ao bo zo N1 l K b a zc _ ms rs W' (hM.grew (k0.trans k)) h).mono ?_;rintro e w' ⟨v',rfl,h1,h2⟩;rw [← g] at h1;exact ⟨v',rfl,h1,k.trans h2⟩
   clear hE g hm hr hx hy p j m s hK hW k0 o q hlt hM hL r;generalize val ms=V at *;generalize val xs=X at *;generalize X^val ys=Y at *;go_enter Tryz.func172,Tryz.ntmps172;go_wp2_with (rw [← HW.out]);refine i.mono ?_;rintro e w1 ⟨zo,zc,rfl,t,k1⟩;obtain ⟨q0,q1,q2⟩:=JC.out _ k1;have kd:Kept af W w1.drew:=k1.drew;have v:=t.grew (ah af w1).drew;clear i p0 p1 p2;go_wp2_with fail;go_region_held3 (fun w'=>w'.cell? ⟨w.heap.size,0,none⟩=some (.slice ao N1 b)∧w'.cell? ⟨w.heap.size,1,none⟩=some (.int .u64 (K:Int))∧w'.cell? ⟨w.heap.size,2,none⟩=some (.slice bo l a))
    (((try dsimp only);(repeat' apply And.intro) <;> first | (go_keep;done) | assumption))
    (first
    | (go_at_call 211;refine (JR.out _ zo zc kd v).mono ?_;rintro e w2 ⟨yo,yc,rfl,z,k2⟩;obtain ⟨s0,s1,s2⟩:=JC.out _ k2)
    | (go_at_call 210;refine (JL.out _ yo yc k2 z).mono ?_;rintro e w4 ⟨v4,rfl,A,k4⟩;obtain ⟨t0,t1,t2⟩:=JC.out _ k4))
   all_goals
    go_wp2_with fail;go_ret2;exact ⟨_,rfl,A,y.out.trans k4⟩
  ·obtain rfl:E=2:=by
    rcases hE with h | h | h
    ·exact absurd h.2.2 hL
    ·exact h.1
    ·exact absurd ⟨q,rfl,hlt⟩ h.2
   rw [if_neg (by omega)] at g;have gL:(L:Int) > 300:=by omega
   have x:=aa g;clear hE g hm hr hx hy p j m s hK hW k0 o q hlt hM hL r;go_enter Tryz.func172,Tryz.ntmps172;go_wp2_with (rw [← HW.out]);refine i.mono ?_;rintro e w1 ⟨zo,zc,rfl,t,k1⟩;clear i p0 p1 p2 t;go_wp2_with fail;go_ret2;exact ⟨_,rfl,by rw [x.out];exact Row.nil _ _,y.out.trans k1⟩
 ·obtain rfl:E=1:=by
   rcases hE with h | h | h
   ·exact absurd h.2.1 hP
   ·exact absurd h.2.1 hP
   ·exact h.1
  rw [if_neg (by omega)] at g;have x:=aa g;have i:Calls Tryz.prog 173 #[.pointer none,.agg #[.slice ao n b,.int .u64 (K:Nat),.slice bo l a],.slice xo N1 xc] W fun e w'=>∃ v',e=.returned (.tuple #[v',.int .i64 1])∧Kept af W w':=by
   refine (vM none ao bo xo n l K b a N1 xc 1 ms rs xs W (TrRoom.none W _ (by omega)) (RowT.none (hm.grew k0)) (RowT.none (hr.grew k0)) (RowT.none (hx.grew k0)) p j m hK r ⟨fun h=>absurd h (by omega),fun h=>absurd h hP⟩ (by omega)).mono ?_;rintro e w' ⟨v',rfl,_,_,o',d⟩;exact ⟨v',rfl,d.none.2⟩
  clear hE g hm hr hx hy p j m s hK hW k0 o hP r;go_enter Tryz.func172,Tryz.ntmps172;go_wp2_with (rw [← HW.out]);refine i.mono ?_;rintro e w1 ⟨v1,rfl,k1⟩;clear i p0 p1 p2;go_wp2_with fail;go_ret2;exact ⟨_,rfl,by rw [x.out];exact Row.nil _ _,y.out.trans k1⟩

theorem BM {A n:Nat} (h:A<18446744073709551616^n) (hn:n≤300):aV A (n:Int)=0∧bH A (n:Int)=ai A n:=by
 have h1:aV A (n:Int)=0:=by
  unfold aV;rw [if_neg (by omega),if_neg];rintro (h2 | h2)
  ·omega
  ·have:=(ap A n).2 h;rw [Int.toNat_natCast] at h2;omega
 refine ⟨h1,?_⟩;unfold bH;rw [if_pos h1,Int.toNat_natCast]

theorem nD {w:World} {xo yo:Option Addr} {n xc yc X P Q:Nat} (hX:3<X) (hp:X%2=1) (hf:X<18446744073709551616^n) (hn:n≤130) (hx:MonR w (.slice xo n xc) n X P) (hy:MonR w (.slice yo n yc) n X Q) (R:Bool) (hR:R=decide (P%X=Q%X)) :
  Calls Tryz.prog 175 #[.slice xo n xc,.slice yo n yc] w fun e w'=>e=.returned (.bool R)∧Kept af w w':=by
 refine Al _ _ _ _ R ?_ w hx hy (aj (by omega) _ _) (aj (by omega) _ _) (by rw [ag];omega) (by rw [ag];omega);rw [ii (by omega) hf,ii (by omega) hf,hR];exact decide_eq_decide.2 (vx hp).symm

theorem yB (ao bo lo oo vo:Option Addr) (n mc rc lc oc K s X M vc A:Nat) (ys:List Nat) (R:Bool) (hA:A=val ys) (U:A<X) (hR:R=true↔iO X A) (w:World) (h:Num17 w X ao bo lo oo n mc rc lc oc K s) (hv:Row .u64 w (.slice vo M vc) ys) (hd:Digs ys) :
  Calls Tryz.prog 128 #[.agg (fH ao bo lo oo n mc rc lc oc K s),.slice vo M vc] w fun e w'=>e=.returned (.bool R)∧Kept af w w':=by
 obtain ⟨W,hW⟩:∃ W,W=w.alloc (.cells (fH ao bo lo oo n mc rc lc oc K s) 150):=⟨_,rfl⟩
 have k0:Kept af w W:=by rw [hW];exact (ah af w).alloc _
 have ac:W.heap[w.heap.size]? = some (.cells (fH ao bo lo oo n mc rc lc oc K s) 150 (0,0)):=by rw [hW];exact heap_alloc_new _ _
 have JC:Hid (∀ W',Kept af W W'→W'.cell? ⟨w.heap.size,0,none⟩=some (.slice ao n mc)∧W'.cell? ⟨w.heap.size,1,none⟩=some (.int .u64 (K:Nat))∧W'.cell? ⟨w.heap.size,2,none⟩=some (.slice bo n rc)∧W'.cell? ⟨w.heap.size,3,none⟩=some (.slice lo n lc)∧W'.cell? ⟨w.heap.size,4,none⟩=some (.slice oo n oc)∧W'.cell? ⟨w.heap.size,5,none⟩=some (.int .i64 (s:Nat))):=fun W' k=>fL ((k.block _ (lt_of_block ac) (fun f=>f)).trans ac)
 have m:=h.big;have g:=h.par;have a:=h.fit;have aX:=h.n0;have r:=h.nb;have aU:=h.sb;have aM:=Bk h.tz m g;have l:val (ai X n)=X:=by rw [al,am a]
 obtain ⟨D,hD⟩:∃ D,D=(X-1)/2^s:=⟨_,rfl⟩
 have aL:D<18446744073709551616^n:=by rw [hD];exact Nat.lt_of_le_of_lt (Nat.le_trans (Nat.div_le_self _ _) (Nat.sub_le _ _)) a
 have t:=h.odd;rw [← hD] at t;have ar:=rU (A:=A) h.tz;rw [← hD] at ar;have hM:=h.mod;have z:Hid (R=true↔(A^D%X=1∨∃ i,i<s∧(A^D)^2^i%X=X-1)):=hR.trans ar;have Q:Hid (∀ W',Kept af W W'→Calls Tryz.prog 107 #[.slice vo M vc,.int .i64 (n:Int)] W' fun e w'=>∃ zo zc,e=.returned (.tuple #[.slice zo n zc,.int .i64 0])∧Row .u64 w' (.slice zo n zc) (ai A n)∧Kept af W w'):=fun W' k=>by
  obtain ⟨r1,r2⟩:=BM (Nat.lt_trans U a) (show n≤300 by omega);have h1:=qd _ ys (n:Int) W' (hv.grew (k0.trans k)) hd;rw [← hA,r1,r2] at h1;refine h1.mono ?_;rintro e w' ⟨v',rfl,h2,h3⟩;obtain ⟨zo,zn,zc,rfl,hl,_⟩:=h2.open;obtain rfl:zn=n:=by have:=hl.out;rw [ag] at this;exact this.symm
  exact ⟨zo,zc,rfl,h2,k.trans h3⟩
 have JQ:Hid (∀ W' zo zc,Kept af W W'→Row .u64 W' (.slice zo n zc) (ai A n)→Calls Tryz.prog 172 #[.agg #[.slice ao n mc,.int .u64 (K:Nat),.slice bo n rc],.slice zo n zc,.slice oo n oc] W' fun e w'=>∃ yo yc,e=.returned (.tuple #[.slice yo n yc,.int .i64 0])∧Row .u64 w' (.slice yo n yc) (ai (A^D%X) n)∧Kept af W w'):=fun W' zo zc k h1=>by
  have kk:=k0.trans k;have aF:val (ai A n)=A:=by rw [al,am (Nat.lt_trans U a)]
  have aO:val (ai D n)=D:=by rw [al,am aL]
  have p:=hM.grew kk;have h2:=Aj ao bo zo oo n n K mc rc n zc n oc _ _ _ _ 0 (.inl ⟨rfl,⟨p.ok,rfl,by rw [aF,l];exact U⟩,by omega⟩) _ rfl W' p.hm.1 p.hr.1 h1 (t.grew kk) p.hmd p.hrd (aj (by omega) _ _) (aj (by omega) _ _) p.hK (by omega);rw [if_pos rfl,aF,aO,l] at h2;refine h2.mono ?_;rintro e w' ⟨v',rfl,h3,h4⟩;obtain ⟨yo,yn,yc,rfl,hl,_⟩:=h3.open;obtain rfl:yn=n:=by have:=hl.out;rw [ag] at this;exact this.symm
  exact ⟨yo,yc,rfl,h3,k.trans h4⟩
 have JE:Hid (∀ W' zo zc,Kept af W W'→Row .u64 W' (.slice zo n zc) (ai (A^D%X) n)→Calls Tryz.prog 173 #[.pointer none,.agg #[.slice ao n mc,.int .u64 (K:Nat),.slice bo n rc],.slice zo n zc] W' fun e w'=>∃ yo yc,e=.returned (.tuple #[.slice yo n yc,.int .i64 0])∧MonR w' (.slice yo n yc) n X ((A^D)^2^0)∧Kept af W w'):=fun W' zo zc k h1=>by
  have hlt:A^D%X<X:=Nat.mod_lt _ (by omega);have az:val (ai (A^D%X) n)=A^D%X:=by rw [al,am (Nat.lt_trans hlt a)]
  have h2:=Bq ao bo zo n n K mc rc zc _ _ _ W' (hM.grew (k0.trans k)) h1 (aj (by omega) _ _) (by rw [az,l];exact hlt);rw [az,l] at h2;refine h2.mono ?_;rintro e w' ⟨yo,yc,rfl,h3,h4⟩;refine ⟨yo,yc,rfl,?_,k.trans h4⟩;unfold MonR at h3 ⊢;rw [mj] at h3;rw [Nat.pow_zero,Nat.pow_one];exact h3
 have JO:Hid (∀ W',Kept af W W'→Calls Tryz.prog 174 #[.agg #[.slice ao n mc,.int .u64 (K:Nat),.slice bo n rc]] W' fun e w'=>∃ zo zc,e=.returned (.slice zo n zc)∧MonR w' (.slice zo n zc) n X 1∧Kept af W' w'):=fun W' k=>by
  have h2:=BG ao bo n n K mc rc _ _ W' (hM.grew (k0.trans k));rw [l] at h2;exact h2
 have JS:Hid (∀ W' zo zc,Kept af W W'→MonR W' (.slice zo n zc) n X 1→Calls Tryz.prog 78 #[.pointer none,.slice ao n mc,.slice zo n zc] W' fun e w'=>∃ yo yc c,e=.returned (.tuple #[.slice yo n yc,.int .u64 (c:Nat)])∧MonR w' (.slice yo n yc) n X (X-1)∧Kept af W' w'):=fun W' zo zc k h1=>by
  have p:=hM.grew (k0.trans k);have h2:=pq none _ _ _ _ W' (TrRoom.none _ _ (by omega)) p.hm (RowT.none h1) p.hmd (aj (by omega) _ _) (by rw [ag];omega) (by rw [ag];omega);rw [ag,ag,Nat.max_self,l,ii (by omega) a,ze g (by omega)] at h2;refine h2.mono ?_;rintro e w' ⟨v',rfl,ho,o',d⟩;have hr:=bf ho (ag _ _ _);obtain ⟨yo,yn,yc,rfl,hl,_⟩:=hr.open;obtain rfl:yn=n:=by have:=hl.out;rw [ag] at this;exact this.symm
  exact ⟨yo,yc,_,rfl,hr,d.none.2⟩
 have ad:Hid (∀ W' yo yc P,Kept af W W'→MonR W' (.slice yo n yc) n X P→Calls Tryz.prog 176 #[.pointer none,.agg #[.slice ao n mc,.int .u64 (K:Nat),.slice bo n rc],.slice yo n yc,.slice yo n yc] W' fun e w'=>∃ ro C,e=.returned (.tuple #[.slice ro n C,.int .i64 0])∧MonR w' (.slice ro n C) n X (P*P)∧Kept af W' w'):=fun W' yo yc P k h1=>by
  have h2:=BB ao bo yo yo n n K mc rc yc yc P P _ _ W' (hM.grew (k0.trans k)) (by rw [l];exact h1) (by rw [l];exact h1);rw [l] at h2;refine h2.mono ?_;rintro e w' ⟨zo,zc,rfl,h3,_,h4⟩;exact ⟨zo,zc,rfl,h3,h4⟩
 have HW:=aa hW;have H:=aa k0;obtain ⟨p0,p1,p2,p3,p4,p5⟩:=JC.out _ (ah af W);unfold fH at HW ⊢;clear hW k0 ac hR h hv hd ar hM t aL l hA U;go_enter Tryz.func128,Tryz.ntmps128;go_wp2_with (rw [← HW.out]);go_step3
 go_wp2_with fail;go_region_held3 (fun w'=>w'.cell? ⟨w.heap.size,0,none⟩=some (.slice ao n mc)∧w'.cell? ⟨w.heap.size,1,none⟩=some (.int .u64 (K:Int))∧w'.cell? ⟨w.heap.size,2,none⟩=some (.slice bo n rc)∧w'.cell? ⟨w.heap.size,4,none⟩=some (.slice oo n oc))
  (((try dsimp only);(repeat' apply And.intro) <;> first | (go_keep;done) | assumption))
  (first
  | (go_at_call 171;refine (pJ yo n yc w3).mono ?_;rintro e w4 ⟨rfl,rfl⟩)
  | (go_at_call 172;refine (JQ.out _ zo zc k2 aG).mono ?_;rintro e w3 ⟨yo,yc,rfl,av,k3⟩;obtain ⟨t0,t1,t2,t3,t4,t5⟩:=JC.out _ k3)
  | (go_at_call 171;refine (pJ zo n zc w2).mono ?_;rintro e aW ⟨rfl,rfl⟩)
  | (go_at_call 107;refine (Q.out _ (ah af W).drew).mono ?_;rintro e w2 ⟨zo,zc,rfl,aG,k2⟩;obtain ⟨s0,s1,s2,s3,s4,s5⟩:=JC.out _ k2))
 have hE:=JE.out _ yo yc k3 av;clear Q JQ JE aG k2 av p0 p1 p2 p3 p4 p5 s0 s1 s2 s3 s4 s5 hD;go_wp2_with fail;refine hE.mono ?_;rintro e w5 ⟨xo,xc,rfl,aI,k5⟩;have F:=pJ xo n xc w5;clear hE k3 t0 t1 t2 t3 t4 t5;go_wp2_with fail;refine F.mono ?_;rintro e w6 ⟨rfl,rfl⟩;obtain ⟨p0,p1,p2,p3,p4,p5⟩:=JC.out _ k5;have aH:=JO.out _ k5;clear F JO;go_wp2_with fail;refine aH.mono ?_;rintro e w7 ⟨io,ic,rfl,an,k7⟩;have K7:=k5.trans k7;have ax:=aI.grew k7;have aA:=JS.out _ io ic K7 an;obtain ⟨q0,q1,q2,q3,q4,q5⟩:=JC.out _ K7;clear aH JS p0 p1 p2 p3 p4 p5 aI k5 k7;go_wp2_with fail;refine aA.mono ?_;rintro e w8 ⟨eo,ec,c8,rfl,aK,k8⟩;have K8:=K7.trans k8;have S:=ax.grew k8
 have T:=an.grew k8;obtain ⟨B,hB⟩:∃ B,B=A^D:=⟨_,rfl⟩
 rw [← hB] at z S;clear aA q0 q1 q2 q3 q4 q5 ax an k8 K7 hB;have e1:1%X=1:=am (by omega);have eL:(X-1)%X=X-1:=am (by omega);have Y:=aa e1;have V:=aa eL;clear e1 eL;by_cases h1:B^2^0%X=1
 ·have b:=nD m g a r S T true (by rw [Y.out];exact (aQ h1).symm);have HT:Hid (R=true):=z.out.2 (.inl (by rw [Nat.pow_zero,Nat.pow_one] at h1;exact h1));clear h1;go_wp2_with fail;refine b.mono ?_;rintro e w9 ⟨rfl,k9⟩;go_wp2_with fail;try rw [Exit.noGoto_ret]
  go_ret;exact ⟨by rw [HT.out];rfl,H.out.trans (K8.trans k9)⟩
 have b:=nD m g a r S T false (by rw [Y.out];exact (aD h1).symm);have aJ:=aa h1;clear h1;go_wp2_with fail;refine b.mono ?_;rintro e w9 ⟨rfl,k9⟩;have K9:=K8.trans k9;have ab:=S.grew k9;have au:=T.grew k9;have Z:=aK.grew k9;clear b S T aK K8 k9;by_cases h2:B^2^0%X=X-1
 ·have b:=nD m g a r ab Z true (by rw [V.out];exact (aQ h2).symm);have HT:Hid (R=true):=z.out.2 (.inr ⟨0,aM,h2⟩);clear h2;go_wp2_with fail;refine b.mono ?_;rintro e aw ⟨rfl,y⟩;go_wp2_with fail;try rw [Exit.noGoto_ret]
  go_ret;exact ⟨by rw [HT.out];rfl,H.out.trans (K9.trans y)⟩
 have b:=nD m g a r ab Z false (by rw [V.out];exact (aD h2).symm);have aN:Hid (∀ j,j≤0→B^2^j%X≠X-1):=fun j hj=>by
  have e:j=0:=Nat.le_zero.1 hj;rw [e];exact h2
 clear h2;go_wp2_with fail;refine b.mono ?_;rintro e aw ⟨rfl,y⟩;have J:=aa (K9.trans y);have HP:=aa (ab.grew y);have HO:=aa (au.grew y);have HL:=aa (Z.grew y);obtain ⟨p0,p1,p2,p3,p4,p5⟩:=JC.out _ J.out;clear b ab au Z K9 y;go_wp2_with fail;go_step3
 go_wp2_with fail;clear p0 p1 p2 p3 p4 p5;go_loopw [5,9,56] (fun pv fv iv wr=>∃ (i:Nat) (po:Option Addr) (pc:Nat),i+1≤s∧fv=.bool false∧iv=.int .i64 (i:Int)∧pv=.slice po n pc∧Hid (MonR wr (.slice po n pc) n X (B^2^i))∧Hid (∀ j,j≤i→B^2^j%X≠X-1)∧Hid (Kept af aw wr)) (fun _ _ iv _=>s-(intOf iv).toNat)
 case atStart=>exact ⟨0,xo,xc,by omega,rfl,rfl,rfl,HP.out,aN.out,ah _ _⟩
 case round=>
  clear HP;obtain ⟨i,po,pc,aV,rfl,rfl,rfl,aR,N,ak⟩:=hrel;have KI:=J.out.trans ak.out;obtain ⟨p0,p1,p2,p3,p4,p5⟩:=JC.out _ KI;by_cases hin:i+1<s
  ·have g1:(i:Int)<(s:Int)-1:=by omega
   have ay:=ad.out wr po pc _ KI aR.out;go_wp2_with fail;refine ay.mono ?_;rintro e aB ⟨ro,C,rfl,O,aC⟩;have q:MonR aB (.slice ro n C) n X (B^2^(i+1)):=by unfold MonR;rw [← AT];exact O
   have F:=pJ ro n C aB;clear ay O;go_wp2_with fail;refine F.mono ?_;rintro e aT ⟨rfl,rfl⟩;have L:=ak.out.trans aC;have v:=HL.out.grew L;have I:=HO.out.grew L;clear F aC;by_cases h3:B^2^(i+1)%X=X-1
   ·have b:=nD m g a r q v true (by rw [V.out];exact (aQ h3).symm);have HT:Hid (R=true):=z.out.2 (.inr ⟨i+1,hin,h3⟩);clear h3;go_wp2_with fail;refine b.mono ?_;rintro e aP ⟨rfl,E⟩;go_wp2_with fail;try rw [Exit.noGoto_ret]
    go_ret;exact ⟨by rw [HT.out];rfl,H.out.trans (J.out.trans (L.trans E))⟩
   ·have b:=nD m g a r q v false (by rw [V.out];exact (aD h3).symm);have aE:Hid (∀ j,j≤i+1→B^2^j%X≠X-1):=fun j hj=>by
     by_cases e:j=i+1
     ·subst e;exact h3
     ·exact N.out j (by omega)
    clear h3;go_wp2_with fail;refine b.mono ?_;rintro e aP ⟨rfl,E⟩;have ae:=L.trans E;have o:=q.grew E;have x:=I.grew E;clear b E L q I v;by_cases h4:B^2^(i+1)%X=1
    ·have b:=nD m g a r o x true (by rw [Y.out];exact (aQ h4).symm);have HT:Hid (R=false):=by
      unfold Hid;cases hb:R with
      | false=>rfl
      | true=>
       rcases z.out.1 hb with h5 | ⟨j,hj,h5⟩
       ·exact absurd (by rw [Nat.pow_zero,Nat.pow_one];exact h5) aJ.out
       ·by_cases hji:j≤i+1
        ·exact absurd h5 (aE.out j hji)
        ·have:=zY (show 1<X by omega) h4 j (by omega);omega
     clear h4;go_wp2_with fail;refine b.mono ?_;rintro e aS ⟨rfl,G⟩;go_wp2_with fail;try rw [Exit.noGoto_ret]
     go_ret;exact ⟨by rw [HT.out];rfl,H.out.trans (J.out.trans (ae.trans G))⟩
    ·have b:=nD m g a r o x false (by rw [Y.out];exact (aD h4).symm);clear h4;go_wp2_with fail;refine b.mono ?_;rintro e aS ⟨rfl,G⟩;have aq:=aa (o.grew G);have ap:=aa (ae.trans G);clear b o x ae G;go_wp2_with fail;go_roundw
     case rel=>exact ⟨i+1,ro,C,by omega,rfl,by go_num,rfl,aq,aE,ap⟩
     case measure=>simp [intOf];omega
  ·have g1:¬ (i:Int)<(s:Int)-1:=by omega
   have HT:Hid (R=false):=by
    unfold Hid;cases hb:R with
    | false=>rfl
    | true=>
     rcases z.out.1 hb with h5 | ⟨j,hj,h5⟩
     ·exact absurd (by rw [Nat.pow_zero,Nat.pow_one];exact h5) aJ.out
     ·exact absurd h5 (N.out j (by omega))
   go_wp2_with fail;try rw [Exit.noGoto_ret]
   go_ret;exact ⟨by rw [HT.out];rfl,H.out.trans (J.out.trans ak.out)⟩

theorem Num17.scr {w w':World} {X:Nat} {ao bo lo oo:Option Addr} {n mc rc lc oc K s:Nat} {p:Option Addr} {B:Nat} {cs:List Nat} (h:Num17 w X ao bo lo oo n mc rc lc oc K s) (hs:Lsc w p B cs) (k:Kept (ofP p) w w'):Num17 w' X ao bo lo oo n mc rc lc oc K s:=
 ⟨⟨RowT.none (h.mod.hm.1.kept' k (fun a=>hs.apart h.mod.hm.1 a)),RowT.none (h.mod.hr.1.kept' k (fun a=>hs.apart h.mod.hr.1 a)),h.mod.hmd,h.mod.hrd,h.mod.hK,h.mod.ok⟩,h.last.kept' k (fun a=>hs.apart h.last a),h.odd.kept' k (fun a=>hs.apart h.odd a),h.tz,h.big,h.par,h.fit,h.n0,h.nb,h.sb⟩

def RndNext (xs:List Nat) (X k i:Nat) (acc:List (List Nat)) (r:Bool × List (List Nat) × Nat × List Nat) (x cs:List Nat):Prop:=
 (x.length=xs.length∧Digs x∧1<val x∧val x<X-1)∧∃ f,cs.length<f∧(if eJ X (val x) then iZ xs k f (i+1) cs (acc ++ [x]) else (false,acc ++ [x],0,cs))=r

def AG (xs:List Nat) (X k i:Nat) (acc:List (List Nat)) (r:Bool × List (List Nat) × Nat × List Nat) (p:Option Addr) (B:Nat) (cs:List Nat) (w:World) (e:Ending) (w':World):Prop:=
 (∃ v x ds,e=.returned v∧(Row .u64 w' v x∧∀ b,v.ownBlock=some b→w.heap.size≤b)∧RndNext xs X k i acc r x ds∧Lsc w' p B ds∧Digs ds 256∧ds.length<cs.length∧Kept (ofP p) w w') ∨
 (∃ (E:Nat) (ds:List Nat),e=.panicked [refusal (E:Nat)]∧E≠0∧(false,[],E,ds)=r∧Lsc w' p B ds∧Kept (ofP p) w w')

theorem At (ao bo lo oo co p:Option Addr) (n mc rc lc oc K s X L cap B k i f:Nat) (xs cs:List Nat) (y:List (List Nat)) (r:Bool × List (List Nat) × Nat × List Nat) (hX:X=val xs) (aE:i<k) (hf:cs.length<f) (hr:iZ xs k f i cs y=r) (w:World)
  (h:Num17 w X ao bo lo oo n mc rc lc oc K s) (hu:Row .u64 w (.slice co L cap) xs) (hd:Digs xs) (hL:L≤1000000) (hs:Lsc w p B cs) (hB:B≤w.heap.size) (ab:Digs cs 256) :
  Calls Tryz.prog 127 #[.agg (fH ao bo lo oo n mc rc lc oc K s),.pointer p,.slice co L cap] w fun e w'=>AG xs X k i y r p B cs w e w':=by
 obtain ⟨W,hW⟩:∃ W,W=w.alloc (.cells (fH ao bo lo oo n mc rc lc oc K s) 150):=⟨_,rfl⟩
 have k0:Kept af w W:=by rw [hW];exact (ah af w).alloc _
 have F:W.heap[w.heap.size]? = some (.cells (fH ao bo lo oo n mc rc lc oc K s) 150 (0,0)):=by rw [hW];exact heap_alloc_new _ _
 have ar:Hid (∀ x,ofP p x→x<B):=fun x hx=>(hs.inP hx).1
 have ac:¬ ofP p w.heap.size:=fun e=>by have:=ar.out _ e;omega
 have JC:Hid (∀ W',Kept (ofP p) W W'→W'.cell? ⟨w.heap.size,0,none⟩=some (.slice ao n mc)∧W'.cell? ⟨w.heap.size,1,none⟩=some (.int .u64 (K:Nat))∧W'.cell? ⟨w.heap.size,2,none⟩=some (.slice bo n rc)∧W'.cell? ⟨w.heap.size,3,none⟩=some (.slice lo n lc)∧W'.cell? ⟨w.heap.size,4,none⟩=some (.slice oo n oc)∧W'.cell? ⟨w.heap.size,5,none⟩=some (.int .i64 (s:Nat))):=fun W' k=>fL ((k.block _ (lt_of_block F) ac).trans F)
 obtain ⟨_,_,_,e1,Y,_⟩:=hu.open;cases e1
 have av:=aa Y.out;have aB:=h.big;have ag:xs≠[]:=fun e=>by
  rw [e] at hX;have h9:val []=0:=rfl;omega
 have H:=aa (hs.grew k0);have am:=aa (hs.grew k0);have T:=aa (h.grew k0);have M:=aa (hu.grew k0);have ay:Hid (∀ W',Kept (ofP p) W W'→Row .u64 W' (.slice co L cap) xs):=fun W' k=>M.out.kept' k (fun az=>H.out.apart M.out az)
 have ap:Hid (∀ W',Kept (ofP p) W W'→Num17 W' X ao bo lo oo n mc rc lc oc K s):=fun W' k=>T.out.scr H.out k
 have HW:=aa hW;have N:=aa k0;have aw:Hid (B≤W.heap.size):=Nat.le_trans hB k0.size;have HR:=aa hr;have HX:=aa hX;have al:=aa ab;have HF:=aa hf;unfold fH at HW ⊢;clear hW k0 F ac Y h hu hs hr hX ab hf H T M;go_enter Tryz.func127,Tryz.ntmps127;go_wp2_with (rw [← HW.out]);go_loopw [] (fun wr=>∃ (ds:List Nat) (g:Nat),Hid (ds.length<g)∧ds.length≤cs.length∧Hid (iZ xs k g i ds y=r)∧Hid (Lsc wr p B ds)∧Hid (Digs ds 256)∧Hid (Kept (ofP p) W wr)) (fun wr=>eY p wr)
 case atStart=>exact ⟨cs,f,HF.out,leR _,HR.out,am.out,al.out,ah _ _⟩
 case round=>
  clear HF HR;obtain ⟨ds,g,I,aA,heq,V,P,t⟩:=hrel;obtain ⟨g',rfl⟩:∃ g',g=g'+1:=⟨g-1,by have:=I.out;omega⟩
  have J:=aa V.out.left;have c:=heq.out;unfold iZ at c;rw [if_neg (by omega)] at c;have o:=rj p B ds xs (.slice co L cap) wr V.out (Nat.le_trans aw.out t.out.size) P.out (ay.out _ t.out) hd (by rw [av.out];exact hL);by_cases hE0:cf xs ds=0
  ·rw [if_neg (by omega)] at c;have hlt:=nX hE0;have ad:=qj hE0;have Z:Digs (dz xs ds):=by unfold dz;rw [if_pos hE0];exact aj (by omega) _ _
   have Q:Hid (Digs (dD xs ds) 256):=by
    obtain ⟨m,hm⟩:=j7 xs ds;unfold Hid;rw [hm];exact P.out.drop m
   have d:=qx hd hE0;rw [← HX.out] at d c;rw [hE0] at o;generalize fq xs ds=kk at *;generalize dz xs ds=x at *;generalize dD xs ds=ds' at *;clear hE0 heq;have ai:=aa ad;have z:=aa d;have v:=aa c;have A:=aa hlt;have R:=aa Z;clear ad d c hlt Z;go_wp2_with fail;refine o.mono ?_;rintro e w1 ⟨u,rfl,⟨j,E⟩,q,k1⟩;obtain ⟨uo,un,uc,rfl,_⟩:=j.open;have K1:=t.out.trans k1;have l:=fg 0 w1;have D:=aa q;have U:=aa j;have au:Hid (∀ b,(Value.slice uo un uc).ownBlock=some b→w.heap.size≤b):=fun b hb=>by have h1:=E b hb;have h2:=N.out.size;have h3:=t.out.size;omega
   clear o q j E k1;go_wp2_with fail;refine l.mono ?_;rintro e w2 ⟨rfl,rfl⟩;obtain ⟨p0,p1,p2,p3,p4,p5⟩:=JC.out _ K1;have hM:=CP ao bo lo oo uo n mc rc lc oc K s X un uc x _ rfl w2 (ap.out _ K1) U.out R.out;unfold fH at hM;obtain ⟨a,ha⟩:∃ a,a=val x:=⟨_,rfl⟩
   rw [← ha] at hM z v;have HA:=aa ha;clear l ha;have d:=z.out;by_cases hin:1<a∧a<X-1
   ·rw [aQ hin] at hM;have ak:Hid (RndNext xs X k i y r x ds'):=by
     refine ⟨⟨ai.out,R.out,by rw [← HA.out];exact hin.1,by rw [← HA.out];exact hin.2⟩,g',by have:=I.out;have:=A.out;omega,?_⟩;have h1:=v.out;rw [if_neg (by omega)] at h1;rw [← HA.out];exact h1
    clear hin d;go_wp2_with fail;refine hM.mono ?_;rintro e w3 ⟨rfl,k3⟩;have K3:=aa (K1.trans k3.any);have C:=aa (D.out.grew k3);have an:=aa (U.out.grew k3);clear hM k3 p0 p1 p2 p3 p4 p5 K1;go_wp2_with fail;go_ret;exact .inl ⟨_,x,ds',rfl,⟨an.out,au.out⟩,ak.out,C.out,Q.out,by have:=A.out;omega,N.out.any.trans K3.out⟩
   ·rw [aD hin] at hM;have G:Hid (iZ xs k g' i ds' y=r):=by
     have h1:=v.out;rw [if_pos (by omega)] at h1;exact h1
    clear hin d;go_wp2_with fail;refine hM.mono ?_;rintro e w3 ⟨rfl,k3⟩;have K3:=aa (K1.trans k3.any);have C:=aa (D.out.grew k3);have ax:Hid (eY p w3<eY p wr):=by unfold Hid;rw [C.out.left,J.out];exact A.out
    have aq:Hid (ds'.length<g'):=by unfold Hid;have:=I.out;have:=A.out;omega
    have O:ds'.length≤cs.length:=by have:=A.out;omega
    clear hM k3 p0 p1 p2 p3 p4 p5 K1;go_wp2_with fail;go_roundw
    case rel=>exact ⟨ds',g',aq,O,G,C,Q,K3⟩
    case measure=>exact ax.out
  ·rw [if_pos hE0] at c;have aC:¬ ((cf xs ds:Nat):Int)=0:=by omega
   generalize hEE:cf xs ds=EE at *;generalize fq xs ds=kk at *;generalize dz xs ds=x at *;generalize dD xs ds=ds' at *;clear hEE;have v:=aa c;have S:=aa hE0;have l:∀ W,Calls Tryz.prog 125 #[.bool true,.int .i64 (EE:Int)] W fun e w'=>e=.panicked [refusal (EE:Nat)]∧w'=W:=fun W=>fs (EE:Int) W
   clear c heq hE0;go_wp2_with fail;refine o.mono ?_;rintro e w1 ⟨u,rfl,⟨j,E⟩,q,k1⟩;obtain ⟨uo,un,uc,rfl,_⟩:=j.open;have K1:=aa (t.out.trans k1);have D:=aa q;have ae:=l w1;clear o q j E k1 l;go_wp2_with fail;rw [show ((EE:Int) != 0)=true by have:=S.out;simp;omega];refine ae.mono ?_;rintro e w2 ⟨rfl,rfl⟩;exact ⟨rfl,.inr ⟨EE,ds',rfl,S.out,v.out,D.out,N.out.any.trans K1.out⟩⟩

end Go.Proofs.YtcemlfokmjjiaaaGreatDoor
