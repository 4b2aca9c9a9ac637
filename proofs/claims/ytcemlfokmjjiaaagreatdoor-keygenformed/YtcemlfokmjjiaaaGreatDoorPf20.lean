/- Put together of: Sho2 Sho3 Mir4 Mir6. -/
import Derived.Test.YtcemlfokmjjiaaaGreatDoorPf10
import Derived.Test.YtcemlfokmjjiaaaGreatDoorPf19

namespace Go.Proofs.YtcemlfokmjjiaaaGreatDoor
set_option maxRecDepth 100000
set_option maxHeartbeats 4000000
open Go.RowKit Go.Shelf

attribute [local go_sem] Oper.semAt_some

def MonR (w:World) (v:Value) (n V P:Nat):Prop:=Row .u64 w v (digs (mon n V P) n)

theorem MonR.grew {w w':World} {v:Value} {n V P:Nat} (h:MonR w v n V P) (k:Kept af w w'):MonR w' v n V P:=Row.grew h k

theorem MonR.shape {w:World} {v:Value} {n V P:Nat} (h:MonR w v n V P):∃ xo xc,v=.slice xo n xc:=by
 obtain ⟨xo,xn,xc,rfl,hl,_⟩:=Row.open h;have:=hl.out;rw [ag] at this;subst this;exact ⟨_,_,rfl⟩

theorem Bp (ao bo xo yo:Option Addr) (n l K a b xc yc P Q:Nat) (ms rs:List Nat) (w:World) (hM:Mod8 w none ao bo n l K a b ms rs) (hx:MonR w (.slice xo n xc) n (val ms) P) (hy:MonR w (.slice yo n yc) n (val ms) Q) :
  Calls Tryz.prog 176 #[.pointer none,.agg #[.slice ao n a,.int .u64 (K:Nat),.slice bo l b],.slice xo n xc,.slice yo n yc] w fun e w'=>∃ zo zc,e=.returned (.tuple #[.slice zo n zc,.int .i64 0])∧MonR w' (.slice zo n zc) n (val ms) (P*Q)∧Fresh w (.slice zo n zc)∧Kept af w w':=by
 obtain ⟨⟨f0,f1⟩,f2,f3,f4,f5⟩:=hM.facts;have hV:0<val ms:=by omega
 have ex:=ie (P:=P) hV f5;have ey:=ie (P:=Q) hV f5;refine (CC none ao bo xo yo n l K a b n n xc yc 0 ms rs _ _ w (TrRoom.none w _ (by omega)) hM.hm hM.hr (RowT.none hx) (RowT.none hy) hM.hmd hM.hrd (ah (by omega) _ _) (ah (by omega) _ _) hM.hK (by omega) ⟨fun _=>⟨hM.ok,⟨rfl,by rw [ex];exact iy hV⟩,rfl,by rw [ey];exact iy hV⟩,fun _=>rfl⟩ (by omega)).mono ?_;rintro e w' ⟨v',rfl,⟨Y,hR,hG⟩,⟨hF,hU⟩,o',d⟩;rw [if_pos rfl] at hR;have c:=hG rfl;rw [ex,ey] at c;rw [yD f3 c.1 c.2] at hR;have hA:MonR w' v' n (val ms) (P*Q):=hR;obtain ⟨zo,zc,rfl⟩:=hA.shape;exact ⟨zo,zc,rfl,hA,hF,d.none.2⟩

theorem Cm (ao bo xo:Option Addr) (n l K a b xc P:Nat) (ms rs:List Nat) (w:World) (hM:Mod8 w none ao bo n l K a b ms rs) (hx:MonR w (.slice xo n xc) n (val ms) P) :
  Calls Tryz.prog 210 #[.pointer none,.agg #[.slice ao n a,.int .u64 (K:Nat),.slice bo l b],.slice xo n xc] w fun e w'=>∃ v',e=.returned (.tuple #[v',.int .i64 0])∧Row .u64 w' v' (digs (P%val ms) n)∧Kept af w w':=by
 obtain ⟨⟨f0,f1⟩,f2,f3,f4,f5⟩:=hM.facts;have hV:0<val ms:=by omega
 have ex:=ie (P:=P) hV f5;refine (zO none ao bo xo n l K a b n xc 0 ms rs _ w (TrRoom.none w _ (by omega)) hM.hm hM.hr (RowT.none hx) hM.hmd hM.hrd (ah (by omega) _ _) hM.hK (by omega) ⟨fun _=>⟨hM.ok,rfl,by rw [ex];exact iy hV⟩,fun _=>rfl⟩ (by omega)).mono ?_;rintro e w' ⟨v',rfl,⟨Y,hR,hG⟩,⟨hF,hU⟩,o',d⟩;rw [if_pos rfl] at hR;have c:=hG rfl;rw [ex] at c;rw [kY f3 c.1 c.2] at hR;exact ⟨v',rfl,hR,d.none.2⟩

theorem Cg (ao bo:Option Addr) (n l K a b:Nat) (ms rs:List Nat) (w:World) (hM:Mod8 w none ao bo n l K a b ms rs) :
  Calls Tryz.prog 174 #[.agg #[.slice ao n a,.int .u64 (K:Nat),.slice bo l b]] w fun e w'=>∃ zo zc,e=.returned (.slice zo n zc)∧MonR w' (.slice zo n zc) n (val ms) 1∧Kept af w w':=by
 obtain ⟨⟨f0,f1⟩,f2,f3,f4,f5⟩:=hM.facts;refine (Cl ao bo n l K a b ms rs (digs (mon n (val ms) 1) n) w hM.hm.1 hM.hr.1 hM.hmd hM.hrd hM.hK (by omega) (fun _=>by unfold mon;rw [Nat.mul_one]) (fun h=>absurd hM.ok h)).mono ?_;rintro e w' ⟨v',rfl,hR,k⟩;have hA:MonR w' v' n (val ms) 1:=hR;obtain ⟨zo,zc,rfl⟩:=hA.shape;exact ⟨zo,zc,rfl,hA,k⟩

structure RS9 (W1 W w:World) (bP n V P:Nat) (qv:Value):Prop where
 box:Box w bP qv 32
 num:MonR w qv n V P
 ne:∀ b,qv.ownBlock=some b→b≠bP
 old:Kept af W1 w
 kept:Kept (fun b=>b=bP) W w

theorem RS9.step {W1 W w w':World} {bP n V P:Nat} {qv:Value} (h:RS9 W1 W w bP n V P qv) (k:Kept af w w'):RS9 W1 W w' bP n V P qv:=
 ⟨h.box.grew k,h.num.grew k,h.ne,h.old.trans k,h.kept.next k (fun _ _ f=>f.elim)⟩

theorem RS9.put {W1 W w:World} {bP n V P Q:Nat} {qv zv:Value} (h:RS9 W1 W w bP n V P qv) (hz:MonR w zv n V Q) (a:∀ b,zv.ownBlock=some b→b≠bP) (hb:W1.heap.size≤bP):RS9 W1 W (w.setCell ⟨bP,0,none⟩ zv) bP n V Q zv:=by
 have kb:=ar w bP zv;exact ⟨h.box.set zv,Row.kept hz kb a,a,cP h.old kb hb,h.kept.next kb (fun _ _ f=>f)⟩

def iJ {N:Nat} (g:Nat→Nat) (pre:List (Fin N)):Nat:=pt (pre.map fun x=>g x.val)

theorem lC {N:Nat} (g:Nat→Nat) (a:List (Fin N)) (x:Fin N):iJ g (a ++ [x])=2*iJ g a+g x.val:=by
 unfold iJ;rw [List.map_append,List.map_cons,List.map_nil,kM]

theorem uj {N:Nat} {g:Nat→Nat} {ys:List (Fin N)} (h:ys.map Fin.val=List.range N):iJ g ys=pt ((List.range N).map g):=by
 unfold iJ;rw [← h,List.map_map];rfl

def Btw9 (W1:World) (bP n V X:Nat) (ev:Value) {N:Nat} (g:Nat→Nat) (pre:List (Fin N)) (W:World):Prop:=
 ∃ (qo:Option Addr) (qc:Nat),RS9 W1 W W bP n V (X^iJ g pre) (.slice qo n qc)∧Box W (bP+1) ev 32

theorem Btw9.turn {W1:World} {bP n V X N B:Nat} {ev:Value} {g:Nat→Nat} {a:List (Fin N)} {W W':World} (h:Btw9 W1 bP n V X ev g a W) (t:Turn B W W') (hB:W1.heap.size≤B):Btw9 W1 bP n V X ev g a W':=by
 obtain ⟨qo,qc,h1,h2⟩:=h;exact ⟨qo,qc,⟨t.cells h1.box,t.row h1.num,h1.ne,t.kept h1.old hB,ai _ _⟩,t.cells h2⟩

theorem xX (ao bo xo eo:Option Addr) (n l0 K i d xc L a X:Nat) (ms rs ys:List Nat) (w:World) (hM:Mod8 w none ao bo n l0 K i d ms rs) (hx:MonR w (.slice xo n xc) n (val ms) X)
  (he:Row .u64 w (.slice eo L a) ys) (an:Digs ys) (hL:L≤300) :
  Calls Tryz.prog 211 #[.agg #[.slice ao n i,.int .u64 (K:Nat),.slice bo l0 d],.slice xo n xc,.slice eo L a] w fun e w'=>∃ zo zc,e=.returned (.slice zo n zc)∧MonR w' (.slice zo n zc) n (val ms) (X^val ys)∧Kept af w w':=by
 obtain ⟨⟨f0,f1⟩,f2,f3,f4,f5⟩:=hM.facts;obtain ⟨V,hV⟩:∃ V,V=val ms:=⟨_,rfl⟩
 rw [← hV] at f3 f4 f5 hx ⊢;obtain ⟨W0,I⟩:∃ W0,W0=(w.alloc (.cells #[.slice ao n i,.int .u64 (K:Nat),.slice bo l0 d] 130)).alloc (.cells #[.slice xo n xc] 32):=⟨_,rfl⟩
 have k0:Kept af w W0:=by rw [I];exact ((ai af w).alloc _).alloc _
 have M:W0.heap[w.heap.size]? = some (.cells #[.slice ao n i,.int .u64 (K:Nat),.slice bo l0 d] 130 (0,0)):=by
  rw [I];exact ap (heap_alloc_new w _)
 have aj:Box W0 (w.heap.size+1) (.slice xo n xc) 32:=by
  rw [I];have:=Box.new (w.alloc (.cells #[.slice ao n i,.int .u64 (K:Nat),.slice bo l0 d] 130)) (.slice xo n xc) 32
  rwa [show (w.alloc (.cells #[.slice ao n i,.int .u64 (K:Nat),.slice bo l0 d] 130)).heap.size=w.heap.size+1 by simp] at this
 have JC:Hid (∀ W,Kept af W0 W→W.cell? ⟨w.heap.size,0,none⟩=some (.slice ao n i)∧W.cell? ⟨w.heap.size,1,none⟩=some (.int .u64 (K:Nat))∧W.cell? ⟨w.heap.size,2,none⟩=some (.slice bo l0 d)∧W.cell? ⟨w.heap.size+1,0,none⟩=some (.slice xo n xc)):=fun W k=>by
  obtain ⟨q0,q1,q2⟩:=ax ((k.block _ (lt_of_block M) (fun f=>f)).trans M);exact ⟨q0,q1,q2,(aj.grew k).cell⟩
 have z:Hid (Calls Tryz.prog 174 #[.agg #[.slice ao n i,.int .u64 (K:Nat),.slice bo l0 d]] W0 fun e w'=>∃ zo zc,e=.returned (.slice zo n zc)∧MonR w' (.slice zo n zc) n V 1∧Kept af W0 w'):=by
  have:=Cg ao bo n l0 K i d ms rs W0 (hM.grew k0);rw [← hV] at this;exact this
 have H:Hid (∀ W yo yc zo zc P Q,Kept af W0 W→MonR W (.slice yo n yc) n V P→MonR W (.slice zo n zc) n V Q→Calls Tryz.prog 176 #[.pointer none,.agg #[.slice ao n i,.int .u64 (K:Nat),.slice bo l0 d],.slice yo n yc,.slice zo n zc] W fun e w'=>∃ ro rc,e=.returned (.tuple #[.slice ro n rc,.int .i64 0])∧MonR w' (.slice ro n rc) n V (P*Q)∧Fresh W (.slice ro n rc)∧Kept af W w'):=fun W yo yc zo zc P Q k hA hB=>by
  rw [hV] at hA hB ⊢;exact Bp ao bo yo zo n l0 K i d yc zc P Q ms rs W (hM.grew (k0.trans k)) hA hB
 have JX:Hid (∀ W,Kept af W0 W→MonR W (.slice xo n xc) n V X):=fun W k=>hx.grew (k0.trans k)
 have O:Hid (∀ W,Kept af W0 W→Row .u64 W (.slice eo L a) ys):=fun W k=>he.grew (k0.trans k)
 obtain ⟨_,_,_,e1,o,_⟩:=he.open;cases e1
 have T:=aa o;have q:Hid (∀ b,(Value.slice eo L a).ownBlock=some b→0<L→b<w.heap.size):=fun b hb hp=>he.lt (by intro e;rw [e] at o;have:=o.out;simp at this;omega) b hb
 have am:=aa I;have v:=aa k0;have ar:=aa f0;obtain ⟨c0,c1,c2,c3⟩:=JC.out _ (ai af W0);have hO:=z.out;clear I k0 M aj hM hx he o hV f0 f2 f3 z;refine (callsIn_wide (n:=9)).1 ?_;refine callsIn_of_wp_marks Tryz.func211 rfl trivial ?_ rfl;simp only [Tryz.ntmps211,List.size_toArray,List.length_cons,List.length_nil,Nat.reduceAdd,Nat.reduceSub,Array.replicate_succ,Array.replicate_zero,List.push_toArray,List.append_toArray,List.nil_append,List.cons_append];refine wpIn_wide.2 ?_;go_wp2_with (rw [← am.out]);refine hO.mono ?_;rintro e W1 ⟨po,pc,rfl,U,k1⟩;clear hO c0 c1 c2 c3;go_wp2_with fail;have ac:=Am eo L a (W1.alloc (.cells #[.slice po n pc] 32))
 refine ac.mono ?_;rintro e W3 ⟨rfl,rfl⟩;have kP:Kept af W1 (W1.alloc (.cells #[.slice po n pc] 32)):=(ai af W1).alloc _;have kE:=kP.alloc (.cells #[.slice eo L a] 32);have ab:=(Box.new W1 (.slice po n pc) 32).alloc (.cells #[.slice eo L a] 32);have R:=Box.new (W1.alloc (.cells #[.slice po n pc] 32)) (.slice eo L a) 32;have aq:((W1.alloc (.cells #[.slice po n pc] 32)).alloc (.cells #[.slice eo L a] 32)).heap.size=W1.heap.size+2:=by simp
 rw [World.size_alloc] at R;have S:=O.out _ (k1.trans kE);have E:∀ b,(Value.slice po n pc).ownBlock=some b→b≠W1.heap.size:=fun b hb e=>by
  have:=Row.lt U (by intro h;have h1:=congrArg List.length h;rw [ag] at h1;have h2:n=0:=h1;have:=ar.out;omega) b hb;omega
 have R0:Hid (RS9 W1 _ _ W1.heap.size n V 1 (.slice po n pc)):=aa ⟨ab,U.grew kE,E,kE,ai _ _⟩;obtain ⟨N,hN⟩:∃ N,au (val ys)=N:=⟨_,rfl⟩
 obtain ⟨g,hg⟩:∃ g:Nat→Nat,∀ j,val ys/2^(N-1-j)%2=g j:=⟨_,fun _=>rfl⟩
 have HG:=aa hg;have HN:=aa hN;have K1:=aa k1;clear ac kP ab U E;go_wp2_with fail;generalize (W1.alloc (.cells #[.slice po n pc] 32)).alloc (.cells #[.slice eo L a] 32)=W3 at *;refine (wpIn_wide (n:=9)).1 ?_;refine wpIn_rangeFunc_ownG (F:=Fence.wide) (n:=9) rfl (by omega) (gf:=254) (lb:=#[.pointer (some ⟨W1.heap.size+1,0,none⟩)]) rfl trivial (enters_of Tryz.func254 (by kernel_rfl) rfl)
  (ux 8 (by omega) (W1.heap.size+1) L N g (.slice eo L a) ys an T.out.out hN (by omega) hg (fun k=>k=W1.heap.size+1∨((Value.slice eo L a).ownBlock=some k∧0<L)) (.inl rfl) (fun b hb hp=>.inr ⟨hb,hp⟩) _ ?hsw R.cell S) KeepB.trans (KeepB.put ?hsw2) (Below.refl _ _) (fun _=>rfl)
  (Btw9 W1 W1.heap.size n V X (.slice eo L a) g) (fun _ _ _=>False)
  (lL (fun s A B hs t=>hs.turn t (by rw [aq];omega))) (fun _ _ _ _ _ hs _ _=>hs)
  ⟨po,pc,by have:=R0.out;exact this,R⟩
  ?act ?assign ?body ?done ?stop
 case hsw=>
  rintro k (rfl | ⟨hk,hp⟩)
  ·omega
  ·have:=q.out k hk hp;have:=v.out.size;have:=K1.out.size;omega
 case hsw2=>
  rintro k (rfl | ⟨hk,hp⟩)
  ·omega
  ·have:=q.out k hk hp;have:=v.out.size;have:=K1.out.size;omega
 case assign=>
  intro l x W K hK
  gi_wp2
  exact hK
 case body=>
  rintro l p x W ⟨qo,qc,R1,J⟩ hlt;have ah:=aa J;have HX:Hid (g x.val<2):=by rw [← HG.out];exact Nat.mod_lt _ (by omega)
  have HR:=aa R1;have G:Hid (∀ (wE:World) (C:Option Addr) (tc:Nat),RS9 W1 W wE W1.heap.size n V (X^iJ g (p ++ [x])) (.slice C n tc)→KeepsFrom W3.heap.size W wE∧KeepB (fun k=>k=W1.heap.size+1∨((Value.slice eo L a).ownBlock=some k∧0<L)) W wE∧Btw9 W1 W1.heap.size n V X (.slice eo L a) g (p ++ [x]) wE):=fun wE C tc RE=>by
   have ad:Box wE (W1.heap.size+1) (.slice eo L a) 32:=ah.out.kept RE.kept (by omega);refine ⟨jQ RE.kept (fun b hb _=>?_),?_,C,tc,⟨RE.box,RE.num,RE.ne,RE.old,ai _ _⟩,ad⟩
   ·subst hb;exact ⟨_,_,_,HR.out.box⟩
   ·rintro k (rfl | ⟨hk,hp⟩)
    ·exact (show wE.heap[_]? = _ from ad).trans (show W.heap[_]? = _ from ah.out).symm
    ·have h1:=q.out k hk hp;have h2:=v.out.size;have h3:=K1.out.size;have h4:=HR.out.old.size;exact RE.kept.block k (by omega) (by omega)
  obtain ⟨q0,q1,q2,q3⟩:=JC.out _ (K1.out.trans R1.old);have qP:=R1.box.cell;have fP:=R1.box.free;have m:=H.out W qo qc qo qc _ _ (K1.out.trans R1.old) R1.num R1.num;rw [← Nat.pow_add] at m;clear R1 J
  gi_wp2_with fail
  refine ⟨trivial,?_⟩;refine (CallsIn.inRound l (callsIn_wide.2 m)).mono ?_;rintro e w7 ⟨so,sc,rfl,Y,ak,d7⟩;have R7:=HR.out.step d7;have r:∀ b,(Value.slice so n sc).ownBlock=some b→b≠W1.heap.size:=fun b hb e=>by
   have h1:=ak b hb;have h2:=HR.out.box.lt;omega
  have R8:=aa (R7.put Y r (leR _));have aB:=R7.box.cell;have ay:=R7.box.free;clear m Y ak d7 r R7 q0 q1 q2 q3 qP fP;by_cases h1:g x.val=1
  ·obtain ⟨q0,q1,q2,q3⟩:=JC.out _ (K1.out.trans R8.out.old);have qP:=R8.out.box.cell;have fP:=R8.out.box.free;have m:=H.out _ so sc xo xc _ _ (K1.out.trans R8.out.old) R8.out.num (JX.out _ (K1.out.trans R8.out.old));rw [← Nat.pow_succ,show (iJ g p+iJ g p).succ=iJ g (p ++ [x]) by rw [lC,h1];omega] at m;have gx:((g x.val:Nat):Int)=1:=by omega
   clear h1
   gi_wp2_with fail
   refine ⟨trivial,?_⟩;refine (CallsIn.inRound l (callsIn_wide.2 m)).mono ?_;rintro e w9 ⟨C,tc,rfl,al,ae,d9⟩;have R9:=R8.out.step d9;have y:∀ b,(Value.slice C n tc).ownBlock=some b→b≠W1.heap.size:=fun b hb e=>by
    have h1:=ae b hb;have h2:=R8.out.box.lt;omega
   have aw:=aa (R9.put al y (leR _));have aA:=R9.box.cell;have az:=R9.box.free;clear m al ae d9 y R9 q0 q1 q2 q3 qP fP
   gi_wp2_with fail
   exact G.out _ _ _ aw.out
  ·have gx:¬ ((g x.val:Nat):Int)=1:=by omega
   have R9:=R8.out;rw [show iJ g p+iJ g p=iJ g (p ++ [x]) by rw [lC];have:=HX.out;omega] at R9;have av:=aa R9;clear h1 R9
   gi_wp2_with fail
   exact G.out _ _ _ av.out
 case done=>
  rintro D zs W hD Z ⟨qo,qc,R1,J⟩ hK;have qP:=R1.box.cell;have hE:iJ g zs=val ys:=by
   rw [uj Z,show g=fun j=>val ys/2^(N-1-j)%2 from funext (fun j=>(HG.out j).symm)];exact vY HN.out
  rw [hE] at R1;have HR:=aa R1;have HK:=aa hK;clear hE Z R1 J hg hN hK;go_wp2_with fail;refine ⟨by simp,.inl ⟨_,_,rfl,run_takeDeferred HK.out,?_⟩⟩;have tt:=sX (B:=W3.heap.size) hD HK.out rfl (.deferred none);exact ⟨_,results_tmp rfl _ _ _,qo,qc,rfl,tt.row HR.out.num,tt.kept (v.out.trans (K1.out.trans HR.out.old)) (by have h1:=v.out.size;have h2:=K1.out.size;omega)⟩
 case stop=>
  rintro D c p W _ _ h _;exact h.elim

open Go.RowKit

theorem Cd (ao bo xo:Option Addr) (n l K a b xc:Nat) (ms rs xs:List Nat) (w:World) (hM:Mod8 w none ao bo n l K a b ms rs) (hx:Row .u64 w (.slice xo n xc) xs) (f:Digs xs) (hlt:val xs<val ms) :
  Calls Tryz.prog 173 #[.pointer none,.agg #[.slice ao n a,.int .u64 (K:Nat),.slice bo l b],.slice xo n xc] w fun e w'=>∃ zo zc,e=.returned (.tuple #[.slice zo n zc,.int .i64 0])∧MonR w' (.slice zo n zc) n (val ms) (val xs)∧Kept af w w':=by
 obtain ⟨⟨f0,f1⟩,f2,f3,f4,f5⟩:=hM.facts;refine (tE none ao bo xo n l K a b n xc 0 ms rs xs w (TrRoom.none w _ (by omega)) hM.hm hM.hr (RowT.none hx) hM.hmd hM.hrd f hM.hK (by omega) ⟨fun _=>⟨hM.ok,rfl,hlt⟩,fun _=>rfl⟩ (by omega)).mono ?_;rintro e w' ⟨v',rfl,⟨Y,hR,hG⟩,_,o',d⟩;rw [if_pos rfl] at hR;have c:Y=mon n (val ms) (val xs):=hG rfl;rw [c] at hR;have hA:MonR w' v' n (val ms) (val xs):=hR;obtain ⟨zo,zc,rfl⟩:=hA.shape;exact ⟨zo,zc,rfl,hA,d.none.2⟩

theorem zM (ao bo xo eo:Option Addr) (n l K b a N1 xc L g:Nat) (ms rs xs ys:List Nat) (E:Nat)
  (hE:(E=0∧(okMod ms K rs∧(N1=n∧val xs<val ms))∧L≤300)∨(E=2∧(okMod ms K rs∧(N1=n∧val xs<val ms))∧300<L)∨(E=1∧¬ (okMod ms K rs∧(N1=n∧val xs<val ms))))
  (RL:List Nat) (c:RL=if E=0 then digs (val xs^val ys%val ms) n else []) (w:World)
  (hm:Row .u64 w (.slice ao n b) ms) (hr:Row .u64 w (.slice bo l a) rs) (hx:Row .u64 w (.slice xo N1 xc) xs) (hy:Row .u64 w (.slice eo L g) ys) (j:Digs ms) (m:Digs rs) (p:Digs xs) (r:Digs ys) (hK:K<18446744073709551616) (s:n≤300) :
  Calls Tryz.prog 172 #[.agg #[.slice ao n b,.int .u64 (K:Nat),.slice bo l a],.slice xo N1 xc,.slice eo L g] w fun e w'=>∃ v',e=.returned (.tuple #[v',.int .i64 ((E:Nat):Int)])∧Row .u64 w' v' RL∧Kept af w w':=by
 obtain ⟨W,hW⟩:∃ W,W=w.alloc (.cells #[.slice ao n b,.int .u64 (K:Nat),.slice bo l a] 130):=⟨_,rfl⟩
 have k0:Kept af w W:=by rw [hW];exact (ai af w).alloc _
 have q:W.heap[w.heap.size]? = some (.cells #[.slice ao n b,.int .u64 (K:Nat),.slice bo l a] 130 (0,0)):=by rw [hW];exact heap_alloc_new _ _
 have JC:Hid (∀ W',Kept af W W'→W'.cell? ⟨w.heap.size,0,none⟩=some (.slice ao n b)∧W'.cell? ⟨w.heap.size,1,none⟩=some (.int .u64 (K:Nat))∧W'.cell? ⟨w.heap.size,2,none⟩=some (.slice bo l a)):=fun W' k=>ax ((k.block _ (lt_of_block q) (fun f=>f)).trans q)
 have HW:=aa hW;have v:=aa k0;obtain ⟨p0,p1,p2⟩:=JC.out _ (ai af W);by_cases hP:okMod ms K rs∧(N1=n∧val xs<val ms)
 ·obtain ⟨o,rfl,hlt⟩:=hP;have hM:Mod8 w none ao bo N1 l K b a ms rs:=⟨RowT.none hm,RowT.none hr,j,m,hK,o⟩
  have i:=Cd ao bo xo N1 l K b a xc ms rs xs W (hM.grew k0) (hx.grew k0) p hlt;by_cases hL:L≤300
  ·obtain rfl:E=0:=by
    rcases hE with h | h | h
    ·exact h.1
    ·omega
    ·exact absurd ⟨o,rfl,hlt⟩ h.2
   rw [if_pos rfl] at c;have gL:¬ (L:Int) > 300:=by omega
   have JR:Hid (∀ W' zo zc,Kept af W W'→MonR W' (.slice zo N1 zc) N1 (val ms) (val xs)→Calls Tryz.prog 211 #[.agg #[.slice ao N1 b,.int .u64 (K:Nat),.slice bo l a],.slice zo N1 zc,.slice eo L g] W' fun e w'=>∃ yo yc,e=.returned (.slice yo N1 yc)∧MonR w' (.slice yo N1 yc) N1 (val ms) (val xs^val ys)∧Kept af W w'):=fun W' zo zc k h=>by
    refine (xX ao bo zo eo N1 l K b a zc L g _ ms rs ys W' (hM.grew (k0.trans k)) h (hy.grew (k0.trans k)) r hL).mono ?_;rintro e w' ⟨yo,yc,rfl,h1,h2⟩;exact ⟨yo,yc,rfl,h1,k.trans h2⟩
   have JL:Hid (∀ W' zo zc,Kept af W W'→MonR W' (.slice zo N1 zc) N1 (val ms) (val xs^val ys)→Calls Tryz.prog 210 #[.pointer none,.agg #[.slice ao N1 b,.int .u64 (K:Nat),.slice bo l a],.slice zo N1 zc] W' fun e w'=>∃ v',e=.returned (.tuple #[v',.int .i64 0])∧Row .u64 w' v' RL∧Kept af W w'):=fun W' zo zc k h=>by
    refine (Cm ao bo zo N1 l K b a zc _ ms rs W' (hM.grew (k0.trans k)) h).mono ?_;rintro e w' ⟨v',rfl,h1,h2⟩;rw [← c] at h1;exact ⟨v',rfl,h1,k.trans h2⟩
   clear hE c hm hr hx hy j m p r hK hW k0 q o hlt hM hL s;generalize val ms=V at *;generalize val xs=X at *;generalize X^val ys=Y at *;go_enter Tryz.func172,Tryz.ntmps172;go_wp2_with (rw [← HW.out]);refine i.mono ?_;rintro e w1 ⟨zo,zc,rfl,y,k1⟩;obtain ⟨q0,q1,q2⟩:=JC.out _ k1;have kd:Kept af W w1.drew:=k1.drew;have t:=y.grew (ai af w1).drew;clear i p0 p1 p2;go_wp2_with fail;go_region_held3 (fun w'=>w'.cell? ⟨w.heap.size,0,none⟩=some (.slice ao N1 b)∧w'.cell? ⟨w.heap.size,1,none⟩=some (.int .u64 (K:Int))∧w'.cell? ⟨w.heap.size,2,none⟩=some (.slice bo l a))
    (((try dsimp only);(repeat' apply And.intro) <;> first | (go_keep;done) | assumption))
    (first
    | (go_at_call 211;refine (JR.out _ zo zc kd t).mono ?_;rintro e w2 ⟨yo,yc,rfl,z,k2⟩;obtain ⟨s0,s1,s2⟩:=JC.out _ k2)
    | (go_at_call 210;refine (JL.out _ yo yc k2 z).mono ?_;rintro e w4 ⟨v4,rfl,A,k4⟩;obtain ⟨t0,t1,t2⟩:=JC.out _ k4))
   all_goals
    go_wp2_with fail;go_ret2;exact ⟨_,rfl,A,v.out.trans k4⟩
  ·obtain rfl:E=2:=by
    rcases hE with h | h | h
    ·exact absurd h.2.2 hL
    ·exact h.1
    ·exact absurd ⟨o,rfl,hlt⟩ h.2
   rw [if_neg (by omega)] at c;have gL:(L:Int) > 300:=by omega
   have x:=aa c;clear hE c hm hr hx hy j m p r hK hW k0 q o hlt hM hL s;go_enter Tryz.func172,Tryz.ntmps172;go_wp2_with (rw [← HW.out]);refine i.mono ?_;rintro e w1 ⟨zo,zc,rfl,y,k1⟩;clear i p0 p1 p2 y;go_wp2_with fail;go_ret2;exact ⟨_,rfl,by rw [x.out];exact Row.nil _ _,v.out.trans k1⟩
 ·obtain rfl:E=1:=by
   rcases hE with h | h | h
   ·exact absurd h.2.1 hP
   ·exact absurd h.2.1 hP
   ·exact h.1
  rw [if_neg (by omega)] at c;have x:=aa c;have i:Calls Tryz.prog 173 #[.pointer none,.agg #[.slice ao n b,.int .u64 (K:Nat),.slice bo l a],.slice xo N1 xc] W fun e w'=>∃ v',e=.returned (.tuple #[v',.int .i64 1])∧Kept af W w':=by
   refine (tE none ao bo xo n l K b a N1 xc 1 ms rs xs W (TrRoom.none W _ (by omega)) (RowT.none (hm.grew k0)) (RowT.none (hr.grew k0)) (RowT.none (hx.grew k0)) j m p hK s ⟨fun h=>absurd h (by omega),fun h=>absurd h hP⟩ (by omega)).mono ?_;rintro e w' ⟨v',rfl,_,_,o',d⟩;exact ⟨v',rfl,d.none.2⟩
  clear hE c hm hr hx hy j m p r hK hW k0 q hP s;go_enter Tryz.func172,Tryz.ntmps172;go_wp2_with (rw [← HW.out]);refine i.mono ?_;rintro e w1 ⟨v1,rfl,k1⟩;clear i p0 p1 p2;go_wp2_with fail;go_ret2;exact ⟨_,rfl,by rw [x.out];exact Row.nil _ _,v.out.trans k1⟩

theorem BI {A n:Nat} (h:A<18446744073709551616^n) (hn:n≤300):aU A (n:Int)=0∧bj A (n:Int)=digs A n:=by
 have h1:aU A (n:Int)=0:=by
  unfold aU;rw [if_neg (by omega),if_neg];rintro (h2 | h2)
  ·omega
  ·have:=(am A n).2 h;rw [Int.toNat_natCast] at h2;omega
 refine ⟨h1,?_⟩;unfold bj;rw [if_pos h1,Int.toNat_natCast]

theorem ni {w:World} {xo yo:Option Addr} {n xc yc X P Q:Nat} (hX:3<X) (hp:X%2=1) (hf:X<18446744073709551616^n) (hn:n≤130) (hx:MonR w (.slice xo n xc) n X P) (hy:MonR w (.slice yo n yc) n X Q) (R:Bool) (hR:R=decide (P%X=Q%X)) :
  Calls Tryz.prog 175 #[.slice xo n xc,.slice yo n yc] w fun e w'=>e=.returned (.bool R)∧Kept af w w':=by
 refine Aw _ _ _ _ R ?_ w hx hy (ah (by omega) _ _) (ah (by omega) _ _) (by rw [ag];omega) (by rw [ag];omega);rw [ie (by omega) hf,ie (by omega) hf,hR];exact decide_eq_decide.2 (si hp).symm

theorem yC (ao bo lo oo vo:Option Addr) (n mc rc lc oc K s X M vc A:Nat) (ys:List Nat) (R:Bool) (hA:A=val ys) (V:A<X) (hR:R=true↔jy X A) (w:World) (h:Num17 w X ao bo lo oo n mc rc lc oc K s) (hv:Row .u64 w (.slice vo M vc) ys) (hd:Digs ys) :
  Calls Tryz.prog 128 #[.agg (fC ao bo lo oo n mc rc lc oc K s),.slice vo M vc] w fun e w'=>e=.returned (.bool R)∧Kept af w w':=by
 obtain ⟨W,hW⟩:∃ W,W=w.alloc (.cells (fC ao bo lo oo n mc rc lc oc K s) 150):=⟨_,rfl⟩
 have k0:Kept af w W:=by rw [hW];exact (ai af w).alloc _
 have an:W.heap[w.heap.size]? = some (.cells (fC ao bo lo oo n mc rc lc oc K s) 150 (0,0)):=by rw [hW];exact heap_alloc_new _ _
 have JC:Hid (∀ W',Kept af W W'→W'.cell? ⟨w.heap.size,0,none⟩=some (.slice ao n mc)∧W'.cell? ⟨w.heap.size,1,none⟩=some (.int .u64 (K:Nat))∧W'.cell? ⟨w.heap.size,2,none⟩=some (.slice bo n rc)∧W'.cell? ⟨w.heap.size,3,none⟩=some (.slice lo n lc)∧W'.cell? ⟨w.heap.size,4,none⟩=some (.slice oo n oc)∧W'.cell? ⟨w.heap.size,5,none⟩=some (.int .i64 (s:Nat))):=fun W' k=>fA ((k.block _ (lt_of_block an) (fun f=>f)).trans an)
 have m:=h.big;have l:=h.par;have a:=h.fit;have aV:=h.n0;have r:=h.nb;have aS:=h.sb;have aO:=zP h.tz m l;have g:val (digs X n)=X:=by rw [ak,al a]
 obtain ⟨D,hD⟩:∃ D,D=(X-1)/2^s:=⟨_,rfl⟩
 have aE:D<18446744073709551616^n:=by rw [hD];exact Nat.lt_of_le_of_lt (Nat.le_trans (Nat.div_le_self _ _) (Nat.sub_le _ _)) a
 have t:=h.odd;rw [← hD] at t;have ap:=qB (A:=A) h.tz;rw [← hD] at ap;have hM:=h.mod;have E:Hid (R=true↔(A^D%X=1∨∃ i,i<s∧(A^D)^2^i%X=X-1)):=hR.trans ap;have O:Hid (∀ W',Kept af W W'→Calls Tryz.prog 107 #[.slice vo M vc,.int .i64 (n:Int)] W' fun e w'=>∃ zo zc,e=.returned (.tuple #[.slice zo n zc,.int .i64 0])∧Row .u64 w' (.slice zo n zc) (digs A n)∧Kept af W w'):=fun W' k=>by
  obtain ⟨r1,r2⟩:=BI (Nat.lt_trans V a) (show n≤300 by omega);have h1:=qg _ ys (n:Int) W' (hv.grew (k0.trans k)) hd;rw [← hA,r1,r2] at h1;refine h1.mono ?_;rintro e w' ⟨v',rfl,h2,h3⟩;obtain ⟨zo,zn,zc,rfl,hl,_⟩:=h2.open;obtain rfl:zn=n:=by have:=hl.out;rw [ag] at this;exact this.symm
  exact ⟨zo,zc,rfl,h2,k.trans h3⟩
 have JQ:Hid (∀ W' zo zc,Kept af W W'→Row .u64 W' (.slice zo n zc) (digs A n)→Calls Tryz.prog 172 #[.agg #[.slice ao n mc,.int .u64 (K:Nat),.slice bo n rc],.slice zo n zc,.slice oo n oc] W' fun e w'=>∃ yo yc,e=.returned (.tuple #[.slice yo n yc,.int .i64 0])∧Row .u64 w' (.slice yo n yc) (digs (A^D%X) n)∧Kept af W w'):=fun W' zo zc k h1=>by
  have kk:=k0.trans k;have aK:val (digs A n)=A:=by rw [ak,al (Nat.lt_trans V a)]
  have aQ:val (digs D n)=D:=by rw [ak,al aE]
  have p:=hM.grew kk;have h2:=zM ao bo zo oo n n K mc rc n zc n oc _ _ _ _ 0 (.inl ⟨rfl,⟨p.ok,rfl,by rw [aK,g];exact V⟩,by omega⟩) _ rfl W' p.hm.1 p.hr.1 h1 (t.grew kk) p.hmd p.hrd (ah (by omega) _ _) (ah (by omega) _ _) p.hK (by omega);rw [if_pos rfl,aK,aQ,g] at h2;refine h2.mono ?_;rintro e w' ⟨v',rfl,h3,h4⟩;obtain ⟨yo,yn,yc,rfl,hl,_⟩:=h3.open;obtain rfl:yn=n:=by have:=hl.out;rw [ag] at this;exact this.symm
  exact ⟨yo,yc,rfl,h3,k.trans h4⟩
 have JE:Hid (∀ W' zo zc,Kept af W W'→Row .u64 W' (.slice zo n zc) (digs (A^D%X) n)→Calls Tryz.prog 173 #[.pointer none,.agg #[.slice ao n mc,.int .u64 (K:Nat),.slice bo n rc],.slice zo n zc] W' fun e w'=>∃ yo yc,e=.returned (.tuple #[.slice yo n yc,.int .i64 0])∧MonR w' (.slice yo n yc) n X ((A^D)^2^0)∧Kept af W w'):=fun W' zo zc k h1=>by
  have hlt:A^D%X<X:=Nat.mod_lt _ (by omega);have aI:val (digs (A^D%X) n)=A^D%X:=by rw [ak,al (Nat.lt_trans hlt a)]
  have h2:=Cd ao bo zo n n K mc rc zc _ _ _ W' (hM.grew (k0.trans k)) h1 (ah (by omega) _ _) (by rw [aI,g];exact hlt);rw [aI,g] at h2;refine h2.mono ?_;rintro e w' ⟨yo,yc,rfl,h3,h4⟩;refine ⟨yo,yc,rfl,?_,k.trans h4⟩;unfold MonR at h3 ⊢;rw [mA] at h3;rw [Nat.pow_zero,Nat.pow_one];exact h3
 have JO:Hid (∀ W',Kept af W W'→Calls Tryz.prog 174 #[.agg #[.slice ao n mc,.int .u64 (K:Nat),.slice bo n rc]] W' fun e w'=>∃ zo zc,e=.returned (.slice zo n zc)∧MonR w' (.slice zo n zc) n X 1∧Kept af W' w'):=fun W' k=>by
  have h2:=Cg ao bo n n K mc rc _ _ W' (hM.grew (k0.trans k));rw [g] at h2;exact h2
 have JS:Hid (∀ W' zo zc,Kept af W W'→MonR W' (.slice zo n zc) n X 1→Calls Tryz.prog 78 #[.pointer none,.slice ao n mc,.slice zo n zc] W' fun e w'=>∃ yo yc c,e=.returned (.tuple #[.slice yo n yc,.int .u64 (c:Nat)])∧MonR w' (.slice yo n yc) n X (X-1)∧Kept af W' w'):=fun W' zo zc k h1=>by
  have p:=hM.grew (k0.trans k);have h2:=pd none _ _ _ _ W' (TrRoom.none _ _ (by omega)) p.hm (RowT.none h1) p.hmd (ah (by omega) _ _) (by rw [ag];omega) (by rw [ag];omega);rw [ag,ag,Nat.max_self,g,ie (by omega) a,xV l (by omega)] at h2;refine h2.mono ?_;rintro e w' ⟨v',rfl,ho,o',d⟩;have hr:=aY ho (ag _ _ _);obtain ⟨yo,yn,yc,rfl,hl,_⟩:=hr.open;obtain rfl:yn=n:=by have:=hl.out;rw [ag] at this;exact this.symm
  exact ⟨yo,yc,_,rfl,hr,d.none.2⟩
 have am:Hid (∀ W' yo yc P,Kept af W W'→MonR W' (.slice yo n yc) n X P→Calls Tryz.prog 176 #[.pointer none,.agg #[.slice ao n mc,.int .u64 (K:Nat),.slice bo n rc],.slice yo n yc,.slice yo n yc] W' fun e w'=>∃ ro C,e=.returned (.tuple #[.slice ro n C,.int .i64 0])∧MonR w' (.slice ro n C) n X (P*P)∧Kept af W' w'):=fun W' yo yc P k h1=>by
  have h2:=Bp ao bo yo yo n n K mc rc yc yc P P _ _ W' (hM.grew (k0.trans k)) (by rw [g];exact h1) (by rw [g];exact h1);rw [g] at h2;refine h2.mono ?_;rintro e w' ⟨zo,zc,rfl,h3,_,h4⟩;exact ⟨zo,zc,rfl,h3,h4⟩
 have HW:=aa hW;have G:=aa k0;obtain ⟨p0,p1,p2,p3,p4,p5⟩:=JC.out _ (ai af W);unfold fC at HW ⊢;clear hW k0 an hR h hv hd ap hM t aE g hA V;go_enter Tryz.func128,Tryz.ntmps128;go_wp2_with (rw [← HW.out]);go_step3
 go_wp2_with fail;go_region_held3 (fun w'=>w'.cell? ⟨w.heap.size,0,none⟩=some (.slice ao n mc)∧w'.cell? ⟨w.heap.size,1,none⟩=some (.int .u64 (K:Int))∧w'.cell? ⟨w.heap.size,2,none⟩=some (.slice bo n rc)∧w'.cell? ⟨w.heap.size,4,none⟩=some (.slice oo n oc))
  (((try dsimp only);(repeat' apply And.intro) <;> first | (go_keep;done) | assumption))
  (first
  | (go_at_call 171;refine (pD yo n yc w3).mono ?_;rintro e w4 ⟨rfl,rfl⟩)
  | (go_at_call 172;refine (JQ.out _ zo zc k2 aD).mono ?_;rintro e w3 ⟨yo,yc,rfl,aA,k3⟩;obtain ⟨t0,t1,t2,t3,t4,t5⟩:=JC.out _ k3)
  | (go_at_call 171;refine (pD zo n zc w2).mono ?_;rintro e aR ⟨rfl,rfl⟩)
  | (go_at_call 107;refine (O.out _ (ai af W).drew).mono ?_;rintro e w2 ⟨zo,zc,rfl,aD,k2⟩;obtain ⟨s0,s1,s2,s3,s4,s5⟩:=JC.out _ k2))
 have hE:=JE.out _ yo yc k3 aA;clear O JQ JE aD k2 aA p0 p1 p2 p3 p4 p5 s0 s1 s2 s3 s4 s5 hD;go_wp2_with fail;refine hE.mono ?_;rintro e w5 ⟨xo,xc,rfl,aG,k5⟩;have H:=pD xo n xc w5;clear hE k3 t0 t1 t2 t3 t4 t5;go_wp2_with fail;refine H.mono ?_;rintro e w6 ⟨rfl,rfl⟩;obtain ⟨p0,p1,p2,p3,p4,p5⟩:=JC.out _ k5;have ay:=JO.out _ k5;clear H JO;go_wp2_with fail;refine ay.mono ?_;rintro e w7 ⟨io,ic,rfl,ad,k7⟩;have K7:=k5.trans k7;have ax:=aG.grew k7;have az:=JS.out _ io ic K7 ad;obtain ⟨q0,q1,q2,q3,q4,q5⟩:=JC.out _ K7;clear ay JS p0 p1 p2 p3 p4 p5 aG k5 k7;go_wp2_with fail;refine az.mono ?_;rintro e w8 ⟨eo,ec,c8,rfl,aJ,k8⟩;have K8:=K7.trans k8;have Q:=ax.grew k8
 have T:=ad.grew k8;obtain ⟨B,hB⟩:∃ B,B=A^D:=⟨_,rfl⟩
 rw [← hB] at E Q;clear az q0 q1 q2 q3 q4 q5 ax ad k8 K7 hB;have e1:1%X=1:=al (by omega);have eL:(X-1)%X=X-1:=al (by omega);have U:=aa e1;have ab:=aa eL;clear e1 eL;by_cases h1:B^2^0%X=1
 ·have b:=ni m l a r Q T true (by rw [U.out];exact (aT h1).symm);have HT:Hid (R=true):=E.out.2 (.inl (by rw [Nat.pow_zero,Nat.pow_one] at h1;exact h1));clear h1;go_wp2_with fail;refine b.mono ?_;rintro e w9 ⟨rfl,k9⟩;go_wp2_with fail;try rw [Exit.noGoto_ret]
  go_ret;exact ⟨by rw [HT.out];rfl,G.out.trans (K8.trans k9)⟩
 have b:=ni m l a r Q T false (by rw [U.out];exact (aC h1).symm);have aw:=aa h1;clear h1;go_wp2_with fail;refine b.mono ?_;rintro e w9 ⟨rfl,k9⟩;have K9:=K8.trans k9;have Y:=Q.grew k9;have ar:=T.grew k9;have Z:=aJ.grew k9;clear b Q T aJ K8 k9;by_cases h2:B^2^0%X=X-1
 ·have b:=ni m l a r Y Z true (by rw [ab.out];exact (aT h2).symm);have HT:Hid (R=true):=E.out.2 (.inr ⟨0,aO,h2⟩);clear h2;go_wp2_with fail;refine b.mono ?_;rintro e aF ⟨rfl,v⟩;go_wp2_with fail;try rw [Exit.noGoto_ret]
  go_ret;exact ⟨by rw [HT.out];rfl,G.out.trans (K9.trans v)⟩
 have b:=ni m l a r Y Z false (by rw [ab.out];exact (aC h2).symm);have aM:Hid (∀ j,j≤0→B^2^j%X≠X-1):=fun j hj=>by
  have e:j=0:=Nat.le_zero.1 hj;rw [e];exact h2
 clear h2;go_wp2_with fail;refine b.mono ?_;rintro e aF ⟨rfl,v⟩;have J:=aa (K9.trans v);have HP:=aa (Y.grew v);have HO:=aa (ar.grew v);have HL:=aa (Z.grew v);obtain ⟨p0,p1,p2,p3,p4,p5⟩:=JC.out _ J.out;clear b Y ar Z K9 v;go_wp2_with fail;go_step3
 go_wp2_with fail;clear p0 p1 p2 p3 p4 p5;go_loopw [5,9,56] (fun pv fv iv wr=>∃ (i:Nat) (po:Option Addr) (pc:Nat),i+1≤s∧fv=.bool false∧iv=.int .i64 (i:Int)∧pv=.slice po n pc∧Hid (MonR wr (.slice po n pc) n X (B^2^i))∧Hid (∀ j,j≤i→B^2^j%X≠X-1)∧Hid (Kept af aF wr)) (fun _ _ iv _=>s-(intOf iv).toNat)
 case atStart=>exact ⟨0,xo,xc,by omega,rfl,rfl,rfl,HP.out,aM.out,ai _ _⟩
 case round=>
  clear HP;obtain ⟨i,po,pc,aU,rfl,rfl,rfl,aP,N,aj⟩:=hrel;have KI:=J.out.trans aj.out;obtain ⟨p0,p1,p2,p3,p4,p5⟩:=JC.out _ KI;by_cases hin:i+1<s
  ·have g1:(i:Int)<(s:Int)-1:=by omega
   have av:=am.out wr po pc _ KI aP.out;go_wp2_with fail;refine av.mono ?_;rintro e au ⟨ro,C,rfl,L,aB⟩;have q:MonR au (.slice ro n C) n X (B^2^(i+1)):=by unfold MonR;rw [← AF];exact L
   have H:=pD ro n C au;clear av L;go_wp2_with fail;refine H.mono ?_;rintro e aW ⟨rfl,rfl⟩;have I:=aj.out.trans aB;have x:=HL.out.grew I;have F:=HO.out.grew I;clear H aB;by_cases h3:B^2^(i+1)%X=X-1
   ·have b:=ni m l a r q x true (by rw [ab.out];exact (aT h3).symm);have HT:Hid (R=true):=E.out.2 (.inr ⟨i+1,hin,h3⟩);clear h3;go_wp2_with fail;refine b.mono ?_;rintro e aL ⟨rfl,z⟩;go_wp2_with fail;try rw [Exit.noGoto_ret]
    go_ret;exact ⟨by rw [HT.out];rfl,G.out.trans (J.out.trans (I.trans z))⟩
   ·have b:=ni m l a r q x false (by rw [ab.out];exact (aC h3).symm);have aH:Hid (∀ j,j≤i+1→B^2^j%X≠X-1):=fun j hj=>by
     by_cases e:j=i+1
     ·subst e;exact h3
     ·exact N.out j (by omega)
    clear h3;go_wp2_with fail;refine b.mono ?_;rintro e aL ⟨rfl,z⟩;have ac:=I.trans z;have o:=q.grew z;have y:=F.grew z;clear b z I q F x;by_cases h4:B^2^(i+1)%X=1
    ·have b:=ni m l a r o y true (by rw [U.out];exact (aT h4).symm);have HT:Hid (R=false):=by
      unfold Hid;cases hb:R with
      | false=>rfl
      | true=>
       rcases E.out.1 hb with h5 | ⟨j,hj,h5⟩
       ·exact absurd (by rw [Nat.pow_zero,Nat.pow_one];exact h5) aw.out
       ·by_cases hji:j≤i+1
        ·exact absurd h5 (aH.out j hji)
        ·have:=Af (show 1<X by omega) h4 j (by omega);omega
     clear h4;go_wp2_with fail;refine b.mono ?_;rintro e aN ⟨rfl,S⟩;go_wp2_with fail;try rw [Exit.noGoto_ret]
     go_ret;exact ⟨by rw [HT.out];rfl,G.out.trans (J.out.trans (ac.trans S))⟩
    ·have b:=ni m l a r o y false (by rw [U.out];exact (aC h4).symm);clear h4;go_wp2_with fail;refine b.mono ?_;rintro e aN ⟨rfl,S⟩;have ae:=aa (o.grew S);have aq:=aa (ac.trans S);clear b o y ac S;go_wp2_with fail;go_roundw
     case rel=>exact ⟨i+1,ro,C,by omega,rfl,by go_num,rfl,ae,aH,aq⟩
     case measure=>simp [intOf];omega
  ·have g1:¬ (i:Int)<(s:Int)-1:=by omega
   have HT:Hid (R=false):=by
    unfold Hid;cases hb:R with
    | false=>rfl
    | true=>
     rcases E.out.1 hb with h5 | ⟨j,hj,h5⟩
     ·exact absurd (by rw [Nat.pow_zero,Nat.pow_one];exact h5) aw.out
     ·exact absurd h5 (N.out j (by omega))
   go_wp2_with fail;try rw [Exit.noGoto_ret]
   go_ret;exact ⟨by rw [HT.out];rfl,G.out.trans (J.out.trans aj.out)⟩

theorem Num17.scr {w w':World} {X:Nat} {ao bo lo oo:Option Addr} {n mc rc lc oc K s:Nat} {p:Option Addr} {B:Nat} {cs:List Nat} (h:Num17 w X ao bo lo oo n mc rc lc oc K s) (hs:Lsc w p B cs) (k:Kept (ofP p) w w'):Num17 w' X ao bo lo oo n mc rc lc oc K s:=
 ⟨⟨RowT.none (h.mod.hm.1.kept' k (fun a=>hs.apart h.mod.hm.1 a)),RowT.none (h.mod.hr.1.kept' k (fun a=>hs.apart h.mod.hr.1 a)),h.mod.hmd,h.mod.hrd,h.mod.hK,h.mod.ok⟩,h.last.kept' k (fun a=>hs.apart h.last a),h.odd.kept' k (fun a=>hs.apart h.odd a),h.tz,h.big,h.par,h.fit,h.n0,h.nb,h.sb⟩

def RndNext (xs:List Nat) (X k i:Nat) (acc:List (List Nat)) (r:Bool × List (List Nat) × Nat × List Nat) (x cs:List Nat):Prop:=
 (x.length=xs.length∧Digs x∧1<val x∧val x<X-1)∧∃ f,cs.length<f∧(if fq X (val x) then jv xs k f (i+1) cs (acc ++ [x]) else (false,acc ++ [x],0,cs))=r

def AC (xs:List Nat) (X k i:Nat) (acc:List (List Nat)) (r:Bool × List (List Nat) × Nat × List Nat) (p:Option Addr) (B:Nat) (cs:List Nat) (w:World) (e:Ending) (w':World):Prop:=
 (∃ v x ds,e=.returned v∧(Row .u64 w' v x∧∀ b,v.ownBlock=some b→w.heap.size≤b)∧RndNext xs X k i acc r x ds∧Lsc w' p B ds∧Digs ds 256∧ds.length<cs.length∧Kept (ofP p) w w') ∨
 (∃ (E:Nat) (ds:List Nat),e=.panicked [refusal (E:Nat)]∧E≠0∧(false,[],E,ds)=r∧Lsc w' p B ds∧Kept (ofP p) w w')

theorem zk (ao bo lo oo co p:Option Addr) (n mc rc lc oc K s X L cap B k i f:Nat) (xs cs:List Nat) (y:List (List Nat)) (r:Bool × List (List Nat) × Nat × List Nat) (hX:X=val xs) (aB:i<k) (hf:cs.length<f) (hr:jv xs k f i cs y=r) (w:World)
  (h:Num17 w X ao bo lo oo n mc rc lc oc K s) (hu:Row .u64 w (.slice co L cap) xs) (hd:Digs xs) (hL:L≤1000000) (hs:Lsc w p B cs) (hB:B≤w.heap.size) (P:Digs cs 256) :
  Calls Tryz.prog 127 #[.agg (fC ao bo lo oo n mc rc lc oc K s),.pointer p,.slice co L cap] w fun e w'=>AC xs X k i y r p B cs w e w':=by
 obtain ⟨W,hW⟩:∃ W,W=w.alloc (.cells (fC ao bo lo oo n mc rc lc oc K s) 150):=⟨_,rfl⟩
 have k0:Kept af w W:=by rw [hW];exact (ai af w).alloc _
 have N:W.heap[w.heap.size]? = some (.cells (fC ao bo lo oo n mc rc lc oc K s) 150 (0,0)):=by rw [hW];exact heap_alloc_new _ _
 have ar:Hid (∀ x,ofP p x→x<B):=fun x hx=>(hs.inP hx).1
 have U:¬ ofP p w.heap.size:=fun e=>by have:=ar.out _ e;omega
 have JC:Hid (∀ W',Kept (ofP p) W W'→W'.cell? ⟨w.heap.size,0,none⟩=some (.slice ao n mc)∧W'.cell? ⟨w.heap.size,1,none⟩=some (.int .u64 (K:Nat))∧W'.cell? ⟨w.heap.size,2,none⟩=some (.slice bo n rc)∧W'.cell? ⟨w.heap.size,3,none⟩=some (.slice lo n lc)∧W'.cell? ⟨w.heap.size,4,none⟩=some (.slice oo n oc)∧W'.cell? ⟨w.heap.size,5,none⟩=some (.int .i64 (s:Nat))):=fun W' k=>fA ((k.block _ (lt_of_block N) U).trans N)
 obtain ⟨_,_,_,e1,ac,_⟩:=hu.open;cases e1
 have an:=aa ac.out;have aA:=h.big;have ak:xs≠[]:=fun e=>by
  rw [e] at hX;have h9:val []=0:=rfl;omega
 have I:=aa (hs.grew k0);have al:=aa (hs.grew k0);have R:=aa (h.grew k0);have J:=aa (hu.grew k0);have av:Hid (∀ W',Kept (ofP p) W W'→Row .u64 W' (.slice co L cap) xs):=fun W' k=>J.out.kept' k (fun ax=>I.out.apart J.out ax)
 have aj:Hid (∀ W',Kept (ofP p) W W'→Num17 W' X ao bo lo oo n mc rc lc oc K s):=fun W' k=>R.out.scr I.out k
 have HW:=aa hW;have G:=aa k0;have ae:Hid (B≤W.heap.size):=Nat.le_trans hB k0.size;have HR:=aa hr;have HX:=aa hX;have aw:=aa P;have HF:=aa hf;unfold fC at HW ⊢;clear hW k0 N U ac h hu hs hr hX P hf I R J;go_enter Tryz.func127,Tryz.ntmps127;go_wp2_with (rw [← HW.out]);go_loopw [] (fun wr=>∃ (ds:List Nat) (g:Nat),Hid (ds.length<g)∧ds.length≤cs.length∧Hid (jv xs k g i ds y=r)∧Hid (Lsc wr p B ds)∧Hid (Digs ds 256)∧Hid (Kept (ofP p) W wr)) (fun wr=>eJ p wr)
 case atStart=>exact ⟨cs,f,HF.out,leR _,HR.out,al.out,aw.out,ai _ _⟩
 case round=>
  clear HF HR;obtain ⟨ds,g,O,aE,heq,Y,Q,A⟩:=hrel;obtain ⟨g',rfl⟩:∃ g',g=g'+1:=⟨g-1,by have:=O.out;omega⟩
  have M:=aa Y.out.left;have c:=heq.out;unfold jv at c;rw [if_neg (by omega)] at c;have z:=rV p B ds xs (.slice co L cap) wr Y.out (Nat.le_trans ae.out A.out.size) Q.out (av.out _ A.out) hd (by rw [an.out];exact hL);by_cases hE0:dn xs ds=0
  ·rw [if_neg (by omega)] at c;have hlt:=tj hE0;have V:=xJ hE0;have S:Digs (dZ xs ds):=by unfold dZ;rw [if_pos hE0];exact ah (by omega) _ _
   have ab:Hid (Digs (eH xs ds) 256):=by
    obtain ⟨m,hm⟩:=nT xs ds;unfold Hid;rw [hm];exact Q.out.drop m
   have d:=vU hd hE0;rw [← HX.out] at d c;rw [hE0] at z;generalize ii xs ds=kk at *;generalize dZ xs ds=x at *;generalize eH xs ds=ds' at *;clear hE0 heq;have ay:=aa V;have t:=aa d;have v:=aa c;have o:=aa hlt;have ad:=aa S;clear V d c hlt S;go_wp2_with fail;refine z.mono ?_;rintro e w1 ⟨u,rfl,⟨j,E⟩,l,k1⟩;obtain ⟨uo,un,uc,rfl,_⟩:=j.open;have K1:=A.out.trans k1;have q:=eX 0 w1;have C:=aa l;have Z:=aa j;have az:Hid (∀ b,(Value.slice uo un uc).ownBlock=some b→w.heap.size≤b):=fun b hb=>by have h1:=E b hb;have h2:=G.out.size;have h3:=A.out.size;omega
   clear z l j E k1;go_wp2_with fail;refine q.mono ?_;rintro e w2 ⟨rfl,rfl⟩;obtain ⟨p0,p1,p2,p3,p4,p5⟩:=JC.out _ K1;have hM:=CO ao bo lo oo uo n mc rc lc oc K s X un uc x _ rfl w2 (aj.out _ K1) Z.out ad.out;unfold fC at hM;obtain ⟨a,ha⟩:∃ a,a=val x:=⟨_,rfl⟩
   rw [← ha] at hM t v;have HA:=aa ha;clear q ha;have d:=t.out;by_cases hin:1<a∧a<X-1
   ·rw [aT hin] at hM;have au:Hid (RndNext xs X k i y r x ds'):=by
     refine ⟨⟨ay.out,ad.out,by rw [← HA.out];exact hin.1,by rw [← HA.out];exact hin.2⟩,g',by have:=O.out;have:=o.out;omega,?_⟩;have h1:=v.out;rw [if_neg (by omega)] at h1;rw [← HA.out];exact h1
    clear hin d;go_wp2_with fail;refine hM.mono ?_;rintro e w3 ⟨rfl,k3⟩;have K3:=aa (K1.trans k3.any);have D:=aa (C.out.grew k3);have aq:=aa (Z.out.grew k3);clear hM k3 p0 p1 p2 p3 p4 p5 K1;go_wp2_with fail;go_ret;exact .inl ⟨_,x,ds',rfl,⟨aq.out,az.out⟩,au.out,D.out,ab.out,by have:=o.out;omega,G.out.any.trans K3.out⟩
   ·rw [aC hin] at hM;have H:Hid (jv xs k g' i ds' y=r):=by
     have h1:=v.out;rw [if_pos (by omega)] at h1;exact h1
    clear hin d;go_wp2_with fail;refine hM.mono ?_;rintro e w3 ⟨rfl,k3⟩;have K3:=aa (K1.trans k3.any);have D:=aa (C.out.grew k3);have ag:Hid (eJ p w3<eJ p wr):=by unfold Hid;rw [D.out.left,M.out];exact o.out
    have am:Hid (ds'.length<g'):=by unfold Hid;have:=O.out;have:=o.out;omega
    have F:ds'.length≤cs.length:=by have:=o.out;omega
    clear hM k3 p0 p1 p2 p3 p4 p5 K1;go_wp2_with fail;go_roundw
    case rel=>exact ⟨ds',g',am,F,H,D,ab,K3⟩
    case measure=>exact ag.out
  ·rw [if_pos hE0] at c;have aD:¬ ((dn xs ds:Nat):Int)=0:=by omega
   generalize hEE:dn xs ds=EE at *;generalize ii xs ds=kk at *;generalize dZ xs ds=x at *;generalize eH xs ds=ds' at *;clear hEE;have v:=aa c;have T:=aa hE0;have q:∀ W,Calls Tryz.prog 125 #[.bool true,.int .i64 (EE:Int)] W fun e w'=>e=.panicked [refusal (EE:Nat)]∧w'=W:=fun W=>e8 (EE:Int) W
   clear c heq hE0;go_wp2_with fail;refine z.mono ?_;rintro e w1 ⟨u,rfl,⟨j,E⟩,l,k1⟩;obtain ⟨uo,un,uc,rfl,_⟩:=j.open;have K1:=aa (A.out.trans k1);have C:=aa l;have ap:=q w1;clear z l j E k1 q;go_wp2_with fail;rw [show ((EE:Int) != 0)=true by have:=T.out;simp;omega];refine ap.mono ?_;rintro e w2 ⟨rfl,rfl⟩;exact ⟨rfl,.inr ⟨EE,ds',rfl,T.out,v.out,C.out,G.out.any.trans K1.out⟩⟩

end Go.Proofs.YtcemlfokmjjiaaaGreatDoor
