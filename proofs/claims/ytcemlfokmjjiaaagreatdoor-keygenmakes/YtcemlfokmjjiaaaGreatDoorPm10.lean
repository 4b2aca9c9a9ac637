/- Put together of: Key9 Law19b Src1 Seq2 Lsc1 Cut0 Lsc2 Lsc3 Seq3. -/
import Derived.Test.YtcemlfokmjjiaaaGreatDoorPm7
import Derived.Test.YtcemlfokmjjiaaaGreatDoorPm9
import Derived.RangeFuncWrites
import Derived.RangeFuncNested
import Derived.RangeFuncBound
import Derived.RangeFuncCalls
import Derived.RangeFuncLeaves
import Derived.RangeFuncBox
import Derived.Shelf.Abstract
import Derived.Shelf.RegionOpen
import Derived.OwnWalkIn
import Derived.TacticsInMore
import Derived.LoopNIn
import Derived.LoopIn

namespace Go.Proofs.YtcemlfokmjjiaaaGreatDoor
set_option maxRecDepth 100000
set_option maxHeartbeats 4000000
open Go.RowKit

theorem DrawR.shape {n e r:Nat}:∀ {f:Nat} {bs:List Nat} {k:Nat} {P:List Nat} {K:Nat} {R:List Nat},DrawR n e r f bs k (P,K,0,R)→∃ cs,P=bw cs n
 | 0,_,_,_,_,_,h=>by
  have:=congrArg (fun o=>o.2.2.1) h;simp at this
 | f+1,bs,k,P,K,R,h=>by
  rcases h with ⟨_,h⟩ | ⟨_,_,h⟩ | ⟨_,_,is,ls,E,rest,_,h⟩
  ·have:=congrArg (fun o=>o.2.2.1) h;simp at this
  ·exact DrawR.shape h
  ·rcases h with ⟨hE,h⟩ | ⟨_,_,h⟩ | ⟨_,_,h⟩
   ·have:=congrArg (fun o=>o.2.2.1) h;exact absurd this.symm hE
   ·exact ⟨bs,congrArg (fun o=>o.1) h⟩
   ·exact DrawR.shape h

theorem SecR.shape {n e r:Nat} {P:List Nat}:∀ {f:Nat} {bs:List Nat} {P' Q R:List Nat},SecR n e r P f bs (P',Q,0,R)→P'=P∧∃ cs,Q=bw cs n
 | 0,_,_,_,_,h=>h.elim
 | f+1,bs,P',Q,R,⟨Q1,K,E,R1,h1,h2⟩=>by
  rcases h2 with ⟨hE,h⟩ | ⟨hE,_,h⟩ | ⟨_,_,h⟩
  ·have:=congrArg (fun o=>o.2.2.1) h;exact absurd this.symm hE
  ·subst hE;obtain ⟨cs,hc⟩:=h1.shape;exact ⟨congrArg (fun o=>o.1) h,cs,(congrArg (fun o=>o.2.1) h).trans hc⟩
  ·exact SecR.shape h

theorem PairR.shape {n e r:Nat} {bs P Q R:List Nat} (h:PairR n e r bs (P,Q,0,R)):(∃ cs,P=bw cs (n/2))∧∃ cs,Q=bw cs (n/2):=by
 obtain ⟨P1,K,E,R1,h1,h2⟩:=h;rcases h2 with ⟨hE,h⟩ | ⟨hE,h⟩
 ·have:=congrArg (fun o=>o.2.2.1) h;exact absurd this.symm hE
 ·subst hE;obtain ⟨cs,hc⟩:=h1.shape;obtain ⟨e1,h3⟩:=h.shape;exact ⟨⟨cs,e1.trans hc⟩,h3⟩

theorem gI (cs:List Nat) (n:Nat):Digs (bw cs n):=aj (by omega) _ _

theorem iq (cs:List Nat) (n:Nat):(bw cs n).length=(n+63)/64:=ag _ _ _

theorem eN {w3:World} {p:Nat} {a0 a1 a2 a3 a4 a5 a6 a7:Value} {t:TypeId} (a:w3.heap[p]? = some (.cells #[a0,a1,a2,a3,a4,a5,a6,a7] t (0,0))) (x0 x1 x2 x3 x4 x5 x6 x7:Value) :
  (cV w3 p x0 x1 x2 x3 x4 x5 x6 x7).heap[p]? = some (.cells #[x0,x1,x2,x3,x4,x5,x6,x7] t (0,0))∧Kept (fun q=>q=p) w3 (cV w3 p x0 x1 x2 x3 x4 x5 x6 x7):=by
 unfold cV;refine ⟨?_,?_⟩
 ·have h0:=heap_setCell_same w3 p 0 _ _ x0 a;have h1:=heap_setCell_same _ p 1 _ _ x1 h0;have h2:=heap_setCell_same _ p 2 _ _ x2 h1;have h3:=heap_setCell_same _ p 3 _ _ x3 h2;have h4:=heap_setCell_same _ p 4 _ _ x4 h3;have h5:=heap_setCell_same _ p 5 _ _ x5 h4;have h6:=heap_setCell_same _ p 6 _ _ x6 h5;have h7:=heap_setCell_same _ p 7 _ _ x7 h6;simpa using h7
 ·exact ((((((((ah (fun q=>q=p) w3).setCell ⟨p,0,none⟩ (fun _=>rfl) _).setCell ⟨p,1,none⟩ (fun _=>rfl) _).setCell ⟨p,2,none⟩ (fun _=>rfl) _).setCell ⟨p,3,none⟩ (fun _=>rfl) _).setCell ⟨p,4,none⟩ (fun _=>rfl) _).setCell ⟨p,5,none⟩ (fun _=>rfl) _).setCell ⟨p,6,none⟩ (fun _=>rfl) _).setCell ⟨p,7,none⟩ (fun _=>rfl) _

theorem Kept.trans2 {S T:Nat→Prop} {a b c:World} (h:Kept S a b) (k:Kept T b c):Kept (fun x=>S x∨T x) a c:=(h.mono (fun _ _ e=>.inl e)).next k (fun _ _ e=>.inr e)

theorem KeyAt.kept9 {S:Nat→Prop} {w w':World} {P Q e B:Nat} {kv:Array Value} (h:KeyAt w P Q e kv) (hf:eW B kv) (k:Kept S w w') (hs:∀ x,B<x→¬ S x):KeyAt w' P Q e kv:=by
 obtain ⟨vn,vd,vp,vq,b,a,c,d,u,rfl,h0,h1,h2,h3,h4,h5,h6,h7,h8,h9,f⟩:=h;have kk:∀ (v:Value) (zs:List Nat),v ∈ #[vn,.int .u64 (e:Nat),vd,vp,vq,b,a,c].toList→Row .u64 w v zs→Row .u64 w' v zs:=fun v zs hv hr=>hr.kept k (fun x hx=>hs x (hf v hv x hx))
 exact ⟨vn,vd,vp,vq,b,a,c,d,u,rfl,kk _ _ (by simp) h0,h1,h2,kk _ _ (by simp) h3,kk _ _ (by simp) h4,kk _ _ (by simp) h5,kk _ _ (by simp) h6,kk _ _ (by simp) h7,h8,h9,kk _ _ (by simp) f⟩

def AQ (w:World) (b B n e r:Nat) (bs:List Nat) (q:Ending) (w':World):Prop:=∃ kv P Q E1 R E,q=.returned (.tuple #[.agg kv,.int .i64 ((E:Nat):Int)])∧PairR n e r bs (P,Q,E1,R) ∧
 ((E1≠0∧E=E1∧kv=zeroKey)∨(E1=0∧E=0∧cl P.length Q.length (val P) (val Q) e∧KeyAt w' (val P) (val Q) e kv)∨(E1=0∧E=190∧¬ cl P.length Q.length (val P) (val Q) e∧kv=zeroKey)) ∧
 eW w.heap.size kv∧ScrAt w' b B R∧(∃ m,R=bs.drop m)∧Kept (fun x=>x=b) w w'

theorem se (b:Nat) (n r:Int) (e:Nat) (he:e<18446744073709551616) (w:World) (a:n<32∨8192<n∨n%128≠0∨e<3∨e%2=0∨4294967296≤e∨r<1∨100<r) :
  Calls Tryz.prog 14 #[.pointer (some ⟨b,0,none⟩),.int .i64 n,.int .u64 (e:Nat),.int .i64 r] w fun q w'=>q=.returned (.tuple #[.agg zeroKey,.int .i64 1])∧Kept af w w':=by
 obtain ⟨W0,c⟩:∃ W0,W0=w.alloc (.cells #[.slice none 0 0,.int .u64 0,.slice none 0 0,.slice none 0 0,.slice none 0 0,.slice none 0 0,.slice none 0 0,.slice none 0 0] 42):=⟨_,rfl⟩
 have k0:Kept af w W0:=by rw [c];exact (ah af w).alloc _
 have d:W0.heap[w.heap.size]? = some (.cells #[.slice none 0 0,.int .u64 0,.slice none 0 0,.slice none 0 0,.slice none 0 0,.slice none 0 0,.slice none 0 0,.slice none 0 0] 42 (0,0)):=by rw [c];exact heap_alloc_new _ _
 have h:Hid (∀ W,Kept af W0 W→W.heap[w.heap.size]? = some (.cells #[.slice none 0 0,.int .u64 0,.slice none 0 0,.slice none 0 0,.slice none 0 0,.slice none 0 0,.slice none 0 0,.slice none 0 0] 42 (0,0))):=fun W k=>(k.block _ (lt_of_block d) (fun f=>f)).trans d
 have hP:=oT b n r e he W0 a;have j:=aa c;have i:=aa k0;clear c k0 d a;go_enter Tryz.func14,Tryz.ntmps14;go_wp2_with (rw [← j.out]);refine hP.mono ?_;rintro q w1 ⟨rfl,rfl⟩;clear hP;have g:=h.out _ (ah af w1);obtain ⟨c0,c1,c2,c3,c4,c5,c6,c7⟩:=aK g;have f:=aM g;go_wp2_with fail;obtain ⟨z1,z3⟩:=eN g (.slice none 0 0) (.int .u64 0) (.slice none 0 0) (.slice none 0 0) (.slice none 0 0) (.slice none 0 0) (.slice none 0 0) (.slice none 0 0);unfold cV at z1 z3
 generalize ((((((((w1.setCell ⟨w.heap.size,0,none⟩ (.slice none 0 0)).setCell ⟨w.heap.size,1,none⟩ (.int .u64 0)).setCell ⟨w.heap.size,2,none⟩ (.slice none 0 0)).setCell ⟨w.heap.size,3,none⟩ (.slice none 0 0)).setCell ⟨w.heap.size,4,none⟩ (.slice none 0 0)).setCell ⟨w.heap.size,5,none⟩ (.slice none 0 0)).setCell ⟨w.heap.size,6,none⟩ (.slice none 0 0)).setCell ⟨w.heap.size,7,none⟩ (.slice none 0 0))=Wf at *;obtain ⟨r0,r1,r2,r3,r4,r5,r6,r7⟩:=aK z1;exact bodyPost_ret (v:=.tuple #[.agg zeroKey,.int .i64 1]) (by simp [results,Tryz.results14,go_sem,r0,r1,r2,r3,r4,r5,r6,r7]) rfl ⟨rfl,i.out.next z3 (fun x hx (ex:x=w.heap.size)=>by omega)⟩

theorem oH (b B:Nat) (bs:List Nat) (n e r:Nat) (hn:32≤n) (ae:n≤8192) (an:n%128=0) (ak:3≤e) (ac:e%2≠0) (he:e<4294967296) (al:1≤r) (ag:r≤100) (w:World) (h:ScrAt w b B bs) (hB:B≤w.heap.size) (U:Digs bs 256) (Y:bs.length≤1000000) :
  Calls Tryz.prog 14 #[.pointer (some ⟨b,0,none⟩),.int .i64 (n:Nat),.int .u64 (e:Nat),.int .i64 (r:Nat)] w fun q w'=>AQ w b B n e r bs q w':=by
 obtain ⟨W0,l⟩:∃ W0,W0=w.alloc (.cells #[.slice none 0 0,.int .u64 0,.slice none 0 0,.slice none 0 0,.slice none 0 0,.slice none 0 0,.slice none 0 0,.slice none 0 0] 42):=⟨_,rfl⟩
 have k0:Kept af w W0:=by rw [l];exact (ah af w).alloc _
 have D:W0.heap[w.heap.size]? = some (.cells #[.slice none 0 0,.int .u64 0,.slice none 0 0,.slice none 0 0,.slice none 0 0,.slice none 0 0,.slice none 0 0,.slice none 0 0] 42 (0,0)):=by rw [l];exact heap_alloc_new _ _
 have Z:W0.heap.size=w.heap.size+1:=by rw [l];simp
 have aq:b<w.heap.size:=h.lt;have H:Hid (∀ W,Kept (fun x=>x=b) W0 W→W.heap[w.heap.size]? = some (.cells #[.slice none 0 0,.int .u64 0,.slice none 0 0,.slice none 0 0,.slice none 0 0,.slice none 0 0,.slice none 0 0,.slice none 0 0] 42 (0,0))):=fun W k=>(k.block _ (lt_of_block D) (fun (f:w.heap.size=b)=>by omega)).trans D
 have hP:=yT b B bs n e r hn ae an ak ac he al ag W0 (h.kept k0 (fun _ _ f=>f)) (by omega) U Y;have aj:=aa l;have N:=aa k0;have ai:=aa Z;have J:=aa hB;clear l k0 D Z h U Y hB;go_enter Tryz.func14,Tryz.ntmps14;go_wp2_with (rw [← aj.out]);refine hP.mono ?_;rintro q w1 ⟨u,v,P,Q,E1,R,rfl,T,ru,rv,fu,fv,hs,ab,k1⟩;have i:=aa k1;have y:=aa T;have F:=aa hs;have C:=aa ab;obtain ⟨uo,ul,uc,rfl,m,-,-,-,-⟩:=ru.open;obtain ⟨vo,vl,vc,rfl,o,-,-,-,-⟩:=rv.open;clear hP T hs ab k1;by_cases hE1:E1=0
 ·subst hE1;obtain ⟨⟨cs,I⟩,⟨ds,A⟩⟩:=y.out.shape;have t:=BY uo vo ul vl uc vc P Q _ _ e rfl rfl (by omega) w1 ru rv (by rw [I];exact gI _ _) (by rw [A];exact gI _ _) (by have:=m.out;rw [I,iq] at this;omega) (by have:=o.out;rw [A,iq] at this;omega);rw [← m.out,← o.out] at t;have HU:Hid (P.length=ul∧Q.length=vl):=⟨m.out,o.out⟩
  clear I A ru rv fu fv m o;generalize hVP:val P=VP at *;generalize hVQ:val Q=VQ at *;have g:Hid (val P=VP∧val Q=VQ):=⟨hVP,hVQ⟩
  clear hVP hVQ;rw [HU.out.1,HU.out.2] at t;go_wp2_with fail;refine t.mono ?_;rintro q w2 ⟨kv,E,rfl,j,s,k2⟩;have z:Hid (Kept (fun x=>x=b) W0 w2):=i.out.next k2 (fun _ _ f=>f.elim)
  have X:=aa (F.out.kept k2 (fun _ _ f=>f));have c:Hid (eW w.heap.size kv):=fun v hv x hx=>by
   have:=s v hv x hx;have:=i.out.size;have:=ai.out;omega
  clear t k2 s F i;rcases j with ⟨rfl,hok,hkey⟩ | ⟨rfl,hno,rfl⟩
  ·have ad:=aa hok;have M:=aa hkey;obtain ⟨vn,vd,vp,vq,ar,ap,ao,d,u2,rfl,h0,_,_,h3,h4,h5,h6,h7,_,_,V⟩:=hkey;obtain ⟨no,nl,nc,rfl,-,-,-,-,-⟩:=h0.open;obtain ⟨L,O,G,rfl,-,-,-,-,-⟩:=h3.open;obtain ⟨po,pl,pc,rfl,-,-,-,-,-⟩:=h4.open;obtain ⟨qo,ql,qc,rfl,-,-,-,-,-⟩:=h5.open;obtain ⟨xo,xl,xc,rfl,-,-,-,-,-⟩:=h6.open;obtain ⟨yo,yl,yc,rfl,-,-,-,-,-⟩:=h7.open;obtain ⟨zo,zl,zc,rfl,-,-,-,-,-⟩:=V.open;clear hok h0 h3 h4 h5 h6 h7 V;have a:=H.out _ z.out;obtain ⟨c0,c1,c2,c3,c4,c5,c6,c7⟩:=aK a;have f:=aM a;go_wp2_with fail
   obtain ⟨z1,z3⟩:=eN a (.slice no nl nc) (.int .u64 (e:Nat)) (.slice L O G) (.slice po pl pc) (.slice qo ql qc) (.slice xo xl xc) (.slice yo yl yc) (.slice zo zl zc);unfold cV at z1 z3;generalize ((((((((w2.setCell ⟨w.heap.size,0,none⟩ (.slice no nl nc)).setCell ⟨w.heap.size,1,none⟩ (.int .u64 (e:Nat))).setCell ⟨w.heap.size,2,none⟩ (.slice L O G)).setCell ⟨w.heap.size,3,none⟩ (.slice po pl pc)).setCell ⟨w.heap.size,4,none⟩ (.slice qo ql qc)).setCell ⟨w.heap.size,5,none⟩ (.slice xo xl xc)).setCell ⟨w.heap.size,6,none⟩ (.slice yo yl yc)).setCell ⟨w.heap.size,7,none⟩ (.slice zo zl zc))=Wf at *;obtain ⟨r0,r1,r2,r3,r4,r5,r6,r7⟩:=aK z1
   exact bodyPost_ret (v:=.tuple #[.agg #[.slice no nl nc,.int .u64 (e:Nat),.slice L O G,.slice po pl pc,.slice qo ql qc,.slice xo xl xc,.slice yo yl yc,.slice zo zl zc],.int .i64 0]) (by simp [results,Tryz.results14,go_sem,r0,r1,r2,r3,r4,r5,r6,r7]) rfl ⟨_,P,Q,0,R,0,rfl,y.out,.inr (.inl ⟨rfl,rfl,by rw [HU.out.1,HU.out.2,g.out.1,g.out.2];exact ad.out,by rw [g.out.1,g.out.2];exact M.out.kept9 c.out z3 (fun x hx (ex:x=w.heap.size)=>by omega)⟩),c.out,X.out.kept z3 (fun x hx (ex:x=w.heap.size)=>by have:=J.out;omega),C.out,(N.out.any (S:=fun x=>x=b)).next (z.out.trans2 z3) (fun x hx p=>by rcases p with h | h <;> omega)⟩
  ·have am:=aa hno;clear hno;have a:=H.out _ z.out;obtain ⟨c0,c1,c2,c3,c4,c5,c6,c7⟩:=aK a;have f:=aM a;go_wp2_with fail;obtain ⟨z1,z3⟩:=eN a (.slice none 0 0) (.int .u64 0) (.slice none 0 0) (.slice none 0 0) (.slice none 0 0) (.slice none 0 0) (.slice none 0 0) (.slice none 0 0);unfold cV at z1 z3
   generalize ((((((((w2.setCell ⟨w.heap.size,0,none⟩ (.slice none 0 0)).setCell ⟨w.heap.size,1,none⟩ (.int .u64 0)).setCell ⟨w.heap.size,2,none⟩ (.slice none 0 0)).setCell ⟨w.heap.size,3,none⟩ (.slice none 0 0)).setCell ⟨w.heap.size,4,none⟩ (.slice none 0 0)).setCell ⟨w.heap.size,5,none⟩ (.slice none 0 0)).setCell ⟨w.heap.size,6,none⟩ (.slice none 0 0)).setCell ⟨w.heap.size,7,none⟩ (.slice none 0 0))=Wf at *;obtain ⟨r0,r1,r2,r3,r4,r5,r6,r7⟩:=aK z1
   exact bodyPost_ret (v:=.tuple #[.agg zeroKey,.int .i64 190]) (by simp [results,Tryz.results14,go_sem,r0,r1,r2,r3,r4,r5,r6,r7]) rfl ⟨_,P,Q,0,R,190,rfl,y.out,.inr (.inr ⟨rfl,rfl,by rw [HU.out.1,HU.out.2,g.out.1,g.out.2];exact am.out,rfl⟩),c.out,X.out.kept z3 (fun x hx (ex:x=w.heap.size)=>by have:=J.out;omega),C.out,(N.out.any (S:=fun x=>x=b)).next (z.out.trans2 z3) (fun x hx p=>by rcases p with h | h <;> omega)⟩
 ·have g1:¬ (E1:Int)=0:=by omega
  clear ru rv fu fv m o;have a:=H.out _ i.out;obtain ⟨c0,c1,c2,c3,c4,c5,c6,c7⟩:=aK a;have f:=aM a;go_wp2_with fail;obtain ⟨z1,z3⟩:=eN a (.slice none 0 0) (.int .u64 0) (.slice none 0 0) (.slice none 0 0) (.slice none 0 0) (.slice none 0 0) (.slice none 0 0) (.slice none 0 0);unfold cV at z1 z3
  generalize ((((((((w1.setCell ⟨w.heap.size,0,none⟩ (.slice none 0 0)).setCell ⟨w.heap.size,1,none⟩ (.int .u64 0)).setCell ⟨w.heap.size,2,none⟩ (.slice none 0 0)).setCell ⟨w.heap.size,3,none⟩ (.slice none 0 0)).setCell ⟨w.heap.size,4,none⟩ (.slice none 0 0)).setCell ⟨w.heap.size,5,none⟩ (.slice none 0 0)).setCell ⟨w.heap.size,6,none⟩ (.slice none 0 0)).setCell ⟨w.heap.size,7,none⟩ (.slice none 0 0))=Wf at *;obtain ⟨r0,r1,r2,r3,r4,r5,r6,r7⟩:=aK z1
  exact bodyPost_ret (v:=.tuple #[.agg zeroKey,.int .i64 (E1:Int)]) (by simp [results,Tryz.results14,go_sem,r0,r1,r2,r3,r4,r5,r6,r7]) rfl ⟨_,P,Q,E1,R,E1,rfl,y.out,.inl ⟨hE1,rfl,rfl⟩,aU _,F.out.kept z3 (fun x hx (ex:x=w.heap.size)=>by have:=J.out;omega),C.out,(N.out.any (S:=fun x=>x=b)).next (i.out.trans2 z3) (fun x hx p=>by rcases p with h | h <;> omega)⟩

structure KS where
 no:Option Addr
 nl:Nat
 nc:Nat
 en:Nat
 dO:Option Addr
 dl:Nat
 dc:Nat
 po:Option Addr
 pl:Nat
 pc:Nat
 qo:Option Addr
 ql:Nat
 qc:Nat
 dpo:Option Addr
 dpl:Nat
 dpc:Nat
 dqo:Option Addr
 dql:Nat
 dqc:Nat
 qio:Option Addr
 qil:Nat
 qic:Nat

def KS.v (t:KS):Array Value:=#[.slice t.no t.nl t.nc,.int .u64 ((t.en:Nat):Int),.slice t.dO t.dl t.dc,.slice t.po t.pl t.pc,.slice t.qo t.ql t.qc,.slice t.dpo t.dpl t.dpc,.slice t.dqo t.dql t.dqc,.slice t.qio t.qil t.qic]

structure KL where
 n:List Nat
 d:List Nat
 p:List Nat
 q:List Nat
 dp:List Nat
 dq:List Nat
 qi:List Nat

structure KS.Rows (w:World) (t:KS) (l:KL):Prop where
 n:Row .u64 w (.slice t.no t.nl t.nc) l.n
 d:Row .u64 w (.slice t.dO t.dl t.dc) l.d
 p:Row .u64 w (.slice t.po t.pl t.pc) l.p
 q:Row .u64 w (.slice t.qo t.ql t.qc) l.q
 dp:Row .u64 w (.slice t.dpo t.dpl t.dpc) l.dp
 dq:Row .u64 w (.slice t.dqo t.dql t.dqc) l.dq
 qi:Row .u64 w (.slice t.qio t.qil t.qic) l.qi

theorem KS.Rows.grew {w w':World} {t:KS} {l:KL} (h:t.Rows w l) (k:Kept af w w'):t.Rows w' l:=⟨h.n.grew k,h.d.grew k,h.p.grew k,h.q.grew k,h.dp.grew k,h.dq.grew k,h.qi.grew k⟩

def KeySays (L M P Q e E en:Nat) (l:KL):Prop:=
 (E=0∧cl L M P Q e∧en=e∧∃ d u,xL P Q e d u l.n l.d l.p l.q l.dp l.dq l.qi)∨(E=190∧¬ cl L M P Q e∧en=0∧l=⟨[],[],[],[],[],[],[]⟩)

theorem KeySays.uniq {L M P Q e E E' en a:Nat} {l l':KL} (h:KeySays L M P Q e E en l) (h':KeySays L M P Q e E' a l'):E'=E∧a=en∧l'=l:=by
 rcases h with ⟨rfl,hok,rfl,d,u,h1⟩ | ⟨rfl,hno,rfl,rfl⟩
 ·rcases h' with ⟨rfl,_,rfl,d',u',h2⟩ | ⟨_,hno,_⟩
  ·have hd:d'=d:=pR (Nat.Coprime.symm hok.2.2.2.2.2) h2.1 h1.1 h2.2.1 h1.2.1;have hu:u'=u:=pR hok.2.2.2.1 h2.2.2.1 h1.2.2.1 h2.2.2.2.1 h1.2.2.2.1;subst hd hu;obtain ⟨_,_,_,_,a1,a2,a3,a4,a5,a6,a7⟩:=h1;obtain ⟨_,_,_,_,b1,b2,b3,b4,b5,b6,b7⟩:=h2;refine ⟨rfl,rfl,?_⟩;cases l
   cases l'
   simp only at a1 a2 a3 a4 a5 a6 a7 b1 b2 b3 b4 b5 b6 b7;rw [a1,a2,a3,a4,a5,a6,a7,b1,b2,b3,b4,b5,b6,b7]
  ·exact absurd hok hno
 ·rcases h' with ⟨_,hok,_⟩ | ⟨rfl,_,rfl,rfl⟩
  ·exact absurd hok hno
  ·exact ⟨rfl,rfl,rfl⟩

theorem AD (s t:KS) (l m:KL) (R:Bool) (hR:R=true↔s.en=t.en∧l=m) (w:World) (hs:s.Rows w l) (ht:t.Rows w m) :
  Calls Tryz.prog 15 #[.agg s.v,.agg t.v] w fun e w'=>e=.returned (.bool R)∧Kept af w w':=
 yZ s.no s.dO s.po s.qo s.dpo s.dqo s.qio t.no t.dO t.po t.qo t.dpo t.dqo t.qio s.nl s.nc s.dl s.dc s.pl s.pc s.ql s.qc s.dpl s.dpc s.dql s.dqc s.qil s.qic t.nl t.nc t.dl t.dc t.pl t.pc t.ql t.qc t.dpl t.dpc t.dql t.dqc t.qil t.qic s.en t.en l.n l.d l.p l.q l.dp l.dq l.qi m.n m.d m.p m.q m.dp m.dq m.qi R (hR.trans ⟨fun h=>by obtain ⟨h1,rfl⟩:=h;exact ⟨h1,rfl,rfl,rfl,rfl,rfl,rfl,rfl⟩,fun h=>⟨h.1,by cases l;cases m;simp only at h;obtain ⟨_,rfl,rfl,rfl,rfl,rfl,rfl,rfl⟩:=h;rfl⟩⟩) w hs.n hs.d hs.p hs.q hs.dp hs.dq hs.qi ht.n ht.d ht.p ht.q ht.dp ht.dq ht.qi

theorem yY {k:IntKind} {w W:World} {ao:Option Addr} {n cap:Nat} {zs:List Nat} (h:Row k w (.slice ao n cap) zs) (kk:Kept af w W) (hp:0<(zs.map fun z:Nat=>Value.int k (z:Int)).length):∃ ad,ao=some ad∧∀ j u,(zs.map fun z:Nat=>Value.int k (z:Int))[j]? = some u→W.cell? (ad.add j)=some u:=by
 rw [List.length_map] at hp;obtain ⟨c,n',a,e,hL,_,_,_,hn⟩:=h.open;cases e
 obtain ⟨b,off,rfl,_⟩:=hn 0 (by have:=hL.out;omega);exact ⟨_,rfl,mN h kk⟩

open Go.RowKit Go.Shelf

def zA {α:Type} (Sb:Nat→Prop) (I:List α→World→Prop) (Ix:Code→List α→World→Prop) (s:List α) (W:World):Exit→Act→World→Prop
 | .normal,_,W'=>Kept Sb W W'∧I s W'
 | .ret,_,W'=>Kept Sb W W'∧Ix .ret s W'
 | .exit i,_,W'=>Kept Sb W W'∧Ix (.exit i) s W'
 | .goto t,_,W'=>Kept Sb W W'∧Ix (.goto t) s W'
 | .panic _,_,_=>False
 | .outgrown,_,_=>False

theorem ip {W:World} {B l:Nat} (o:Obj) (h:B≤l):Below B W (W.putObj l o):=
 ⟨rfl,rfl,rfl,by simp,fun _ hk=>World.putObj_heap_other (by omega)⟩

theorem dS (W:World) (l:Nat) (o:Obj):Kept (fun b=>b=l) W (W.putObj l o):=
 ⟨rfl,rfl,rfl,by simp,fun _ _ hk=>World.putObj_heap_other hk⟩

theorem iJ {k:IntKind} {W:World} {l:Nat} {o:Obj} {v:Value} {zs:List Nat} (o':Obj) (h:Row k W v zs) (hl:W.heap[l]? = some o) (ho:o.isCells=false):Row k (W.putObj l o') v zs:=by
 obtain ⟨ao,cap,rfl,h1,h2,h3,h4⟩:=h;refine ⟨ao,cap,rfl,h1,h2,h3,fun i hi=>?_⟩;obtain ⟨b,off,rfl,hc⟩:=h4 i hi;exact ⟨b,off,rfl,cell_kept hc (grownBy_putObj' W l o') (fun r e=>by cases e;exact ⟨o,hl,ho⟩)⟩

theorem bV {w w':World} {b:Nat} {t:TypeId} {v:Value} (h:Boxed w b t v) (k:Kept af w w'):Boxed w' b t v:=(k.block _ h.lt (fun f=>f)).trans h

theorem aL {S:Nat→Prop} {w w':World} {b:Nat} {t:TypeId} {v:Value} (h:Boxed w b t v) (k:Kept S w w') (hs:¬ S b):Boxed w' b t v:=(k.block _ h.lt hs).trans h

def Books (d:Nat) (r:Loop) (W:World):Prop:=W.heap[d+1]? = some (.loop r)∧W.heap[d]? = some (.deferred (some []))

theorem Books.lt {d:Nat} {r:Loop} {A:World} (h:Books d r A):d+1<A.heap.size:=(Array.getElem?_eq_some_iff.1 h.1).1

theorem Books.put {d:Nat} {r:Loop} {A:World} (h:Books d r A) (r':Loop):Books d r' (A.putObj (d+1) (.loop r')):=
 ⟨World.putObj_heap_same h.lt,(World.putObj_heap_other (by omega)).trans h.2⟩

theorem Books.kept {d:Nat} {r:Loop} {A C:World} {Sb:Nat→Prop} (h:Books d r A) (k:Kept Sb A C) (hs:∀ b,Sb b→b<d):Books d r C:=by
 have hl:=h.lt;exact ⟨(k.block _ hl (fun e=>by have:=hs _ e;omega)).trans h.1,(k.block _ (by omega) (fun e=>by have:=hs _ e;omega)).trans h.2⟩

def LscB (w:World) (b B:Nat) (v:Value) (ps:List Nat) (k:Nat):Prop:=
 w.heap[b]? = some (.cells #[v,.int .i64 (k:Nat)] 56 (0,0))∧Row .u8 w v ps∧k≤ps.length∧ps.length≤1000000∧b<B∧(ps≠[]→∀ x,v.ownBlock=some x→x<B∧x≠b)

def Lsc (w:World) (p:Option Addr) (B:Nat) (bs:List Nat):Prop:=(p=none∧bs=[])∨∃ b v ps k,p=some ⟨b,0,none⟩∧bs=ps.drop k∧LscB w b B v ps k

def ofP (p:Option Addr) (x:Nat):Prop:=p.map Addr.block=some x

theorem LscB.lt {w:World} {b B k:Nat} {v:Value} {ps:List Nat} (h:LscB w b B v ps k):b<w.heap.size:=lt_of_block h.1

theorem LscB.cells {w:World} {b B k:Nat} {v:Value} {ps:List Nat} (h:LscB w b B v ps k):w.cell? ⟨b,0,none⟩=some v∧w.cell? ⟨b,1,none⟩=some (.int .i64 (k:Nat)):=
 ⟨(cell_of_row w b 0 _ _ _ h.1).trans rfl,(cell_of_row w b 1 _ _ _ h.1).trans rfl⟩

theorem LscB.free {w:World} {b B k:Nat} {v:Value} {ps:List Nat} (h:LscB w b B v ps k):w.frozen? ⟨b,1,none⟩=false:=by simp [World.frozen?,h.1]

theorem LscB.kept {S:Nat→Prop} {w w':World} {b B k:Nat} {v:Value} {ps:List Nat} (h:LscB w b B v ps k) (kk:Kept S w w') (hS:∀ x,x<B→¬ S x):LscB w' b B v ps k:=
 ⟨(kk.block b h.lt (hS b h.2.2.2.2.1)).trans h.1,h.2.1.kept' kk (fun e x hx=>hS x (h.2.2.2.2.2 e x hx).1),h.2.2⟩

theorem LscB.put {w:World} {b B k:Nat} {v:Value} {ps:List Nat} (h:LscB w b B v ps k) (m:Nat) (hm:m≤ps.length):LscB (w.setCell ⟨b,1,none⟩ (.int .i64 (m:Nat))) b B v ps m:=by
 refine ⟨?_,h.2.1.kept' ((ah (fun x=>x=b) w).setCell ⟨b,1,none⟩ (fun _=>rfl) _) (fun e x hx=>(h.2.2.2.2.2 e x hx).2),hm,h.2.2.2⟩;have:=heap_setCell_same w b 1 _ 56 (.int .i64 (m:Nat)) h.1;rw [this];rfl

theorem LscB.lsc {w:World} {b B k:Nat} {v:Value} {ps:List Nat} (h:LscB w b B v ps k):Lsc w (some ⟨b,0,none⟩) B (ps.drop k):=.inr ⟨b,v,ps,k,rfl,rfl,h⟩

theorem Lsc.len {w:World} {p:Option Addr} {B:Nat} {bs:List Nat} (h:Lsc w p B bs):bs.length≤1000000:=by
 rcases h with ⟨_,rfl⟩ | ⟨b,v,ps,k,_,rfl,_,_,_,h,_⟩
 ·simp
 ·rw [List.length_drop];omega

theorem Lsc.kept {S:Nat→Prop} {w w':World} {p:Option Addr} {B:Nat} {bs:List Nat} (h:Lsc w p B bs) (k:Kept S w w') (hS:∀ x,x<B→¬ S x):Lsc w' p B bs:=by
 rcases h with h | ⟨b,v,ps,k',e,e2,h⟩
 ·exact .inl h
 ·exact .inr ⟨b,v,ps,k',e,e2,h.kept k hS⟩

theorem Lsc.grew {w w':World} {p:Option Addr} {B:Nat} {bs:List Nat} (h:Lsc w p B bs) (k:Kept af w w'):Lsc w' p B bs:=h.kept k fun _ _ f=>f

theorem Lsc.inP {w:World} {p:Option Addr} {B x:Nat} {bs:List Nat} (h:Lsc w p B bs) (hx:ofP p x):x<B∧x<w.heap.size:=by
 rcases h with ⟨rfl,_⟩ | ⟨b,v,ps,k,rfl,_,h⟩
 ·cases hx
 ·cases hx
  exact ⟨h.2.2.2.2.1,h.lt⟩

theorem Lsc.put {w:World} {p:Option Addr} {B l:Nat} {bs:List Nat} {o:Obj} (o':Obj) (h:Lsc w p B bs) (hl:w.heap[l]? = some o) (ho:o.isCells=false):Lsc (w.putObj l o') p B bs:=by
 rcases h with h | ⟨b,v,ps,k,e,e2,h1,h2,h3⟩
 ·exact .inl h
 ·refine .inr ⟨b,v,ps,k,e,e2,(World.putObj_heap_other fun e=>?_).trans h1,iJ o' h2 hl ho,h3⟩;subst e;rw [hl] at h1;cases h1
  cases ho

theorem zF (v:Value) (bs:List Nat) (w:World) (h:Row .u8 w v bs) (hl:bs.length≤1000000) :
  Calls Tryz.prog 20 #[v] w fun e w'=>∃ u,e=.returned u∧OwnB w' w.heap.size u bs∧Kept af w w':=by
 obtain ⟨i0,l,q,f,p⟩:=info_parts Tryz.info8s;have HX:=aa h;obtain ⟨ao,na,ca,rfl,b,y,t,_⟩:=h.open;obtain ⟨CS,a⟩:∃ CS,CS=bs.map fun z:Nat=>Value.int .u8 (z:Int):=⟨_,rfl⟩
 have HC:=aa a;have g:Hid (CS.length=na):=by unfold Hid;rw [a,List.length_map];exact b.out
 have d:Hid (∀ W,Kept af w W→0<CS.length→∃ ad,ao=some ad∧∀ j u,CS[j]? = some u→W.cell? (ad.add j)=some u):=by rw [a];exact fun W k hp=>yY HX.out k hp
 have o:Hid (∀ u ∈ CS,u.oneCell'=true):=by rw [a];exact zK _ _
 have x:na≤1000000:=by have:=b.out;omega
 clear h a;go_enter Tryz.func20,Tryz.ntmps20;go_wp2_with (at_make;refine wpList_make_full _ rfl _ _ 22 rfl w.heap.size 5 i0 _ 1 Tryz.underlying22 l q f _ _ _ _ na rfl rfl rfl rfl (by rw [p];omega) (by unfold maxLen;omega) (leR _) ?_;intro w1 c m;rw [aJ] at c;have k1:=aE m;obtain ⟨w2,n,i,k2⟩:=dr (P:=Tryz.prog) 22 22 3 5 w.heap.size 0 na na (some ⟨w.heap.size,0,none⟩) ao na ca _ 5 CS Tryz.underlying22 (by rw [l];simp [f]) (eF c) (by rw [g.out];exact (Nat.min_self _).symm) (fun hp=>⟨rfl,d.out _ k1 hp⟩) (by have:=g.out;simp;omega) o.out;have r:Hid _:=i;have s:=aa (cZ k1 k2 (leR _));clear i c m k1 k2)
 have hA:=r.out;rw [HC.out,er,b.out,Nat.sub_self,List.replicate_zero,List.append_nil] at hA;go_ret;exact ⟨_,rfl,OwnB.of (cL hA b.out (by unfold maxLen;omega) (leR _)),s.out⟩

theorem yF (v:Value) (bs:List Nat) (w:World) (h:Row .u8 w v bs) (hl:bs.length≤1000000) :
  Calls Tryz.prog 8 #[v] w fun e w'=>∃ b,e=.returned (.pointer (some ⟨b,0,none⟩))∧w.heap.size≤b∧Lsc w' (some ⟨b,0,none⟩) w'.heap.size bs∧Kept af w w':=by
 have J:=zF v bs w h hl;clear h;go_enter Tryz.func8,Tryz.ntmps8;go_wp2_with fail;refine J.mono ?_;rintro e w1 ⟨u,rfl,hO,k1⟩;have hs:=k1.size;have k2:Kept af w1 (w1.alloc (.cells #[u,.int .i64 0] 56)):=(ah _ _).alloc _;have HR:Hid (LscB (w1.alloc (.cells #[u,.int .i64 0] 56)) w1.heap.size (w1.alloc (.cells #[u,.int .i64 0] 56)).heap.size u bs 0):=by
  refine ⟨World.alloc_heap_new w1 _,hO.row.grew k2,Nat.zero_le _,hl,by simp,fun _ x hx=>?_⟩;have:=(hO.lt x hx).2;rw [World.size_alloc];omega
 have HK:=aa (k1.alloc (.cells #[u,.int .i64 0] 56));obtain ⟨ao,cap,rfl⟩:=bh hO;clear J k1 k2 hO;go_wp2_with fail;go_ret;exact ⟨_,rfl,hs,HR.out.lsc,HK.out⟩

theorem vV (p:Option Addr) (B:Nat) (bs:List Nat) (w:World) (h:Lsc w p B bs) :
  Calls Tryz.prog 12 #[.pointer p] w fun e w'=>e=.returned (.int .i64 (bs.length:Nat))∧Kept af w w':=by
 rcases h with ⟨rfl,rfl⟩ | ⟨b,v,ps,k,rfl,rfl,h⟩
 ·go_enter Tryz.func12,Tryz.ntmps12;go_wp2_with fail;go_ret;exact ⟨rfl,ah _ _⟩
 ·obtain ⟨c0,c1⟩:=h.cells;obtain ⟨ao,L,cap,rfl,hL,i,f,c,a⟩:=h.2.1.open;have hk:k≤L:=by rw [← hL.out];exact h.2.2.1
  have g:L≤1000000:=by rw [← hL.out];exact h.2.2.2.1
  have e1:(ps.drop k).length=L-k:=by rw [List.length_drop,hL.out]
  rw [e1];obtain ⟨d,hd⟩:∃ d,d=L-k:=⟨_,rfl⟩
  rw [← hd];have g1:(L:Int)-(k:Int)=(d:Int):=by omega
  clear hd e1 a h c;go_enter Tryz.func12,Tryz.ntmps12;go_wp2_with fail;go_quiet (fail);go_wp2_with fail;go_ret;exact ⟨rfl,(ah _ _).drewN _⟩

theorem ik {k:IntKind} {w:World} {ao:Option Addr} {cap:Nat} (h:ao=none→cap=0) (hc:cap≤maxLen):Row k w (.slice ao 0 cap) []:=
 ⟨ao,cap,rfl,Nat.zero_le _,hc,h,fun i hi=>absurd hi (by simp)⟩

theorem yQ {k:IntKind} {w:World} {ao:Option Addr} {L cap s m:Nat} {zs:List Nat} (h:Row k w (.slice ao L cap) zs) (h2:s+m≤L) :
  (ao=none→Row k w (.slice none 0 0) ((zs.drop s).take m))∧(∀ ad,ao=some ad→cap=s→Row k w (.slice (some ad) 0 0) ((zs.drop s).take m))∧(∀ ad,ao=some ad→cap≠s→Row k w (.slice (some (ad.add s)) m (cap-s)) ((zs.drop s).take m)):=by
 obtain ⟨_,_,_,e,hL,f,d,c,a⟩:=h.open;cases e
 have hz:m=0→(zs.drop s).take m=[]:=fun e=>by rw [e];rfl
 refine ⟨fun e=>?_,fun ad e ec=>?_,fun ad e ec=>?_⟩
 ·have:=c e;rw [hz (by omega)];exact Row.nil _ _
 ·rw [hz (by omega)];exact ik (fun e=>by cases e) (Nat.zero_le _)
 ·subst e;by_cases hm:m=0
  ·rw [hz hm,hm];exact ik (fun e=>by cases e) (by unfold maxLen at *;omega)
  ·obtain ⟨b,off,e,_⟩:=a 0 (by omega);cases e
   have ea:(⟨b,off,none⟩:Addr).add s=⟨b,off+s,none⟩:=by unfold Addr.add;split <;> simp_all
   rw [ea];exact vz h h2

theorem ue (B n:Nat) (w:World) :
  Calls Tryz.prog 114 #[.pointer none,.int .i64 (n:Int)] w fun e w'=>∃ u,e=.returned (.tuple #[u,.int .i64 (aY [] n:Nat)])∧Row .u8 w' u (cj [] n)∧Lsc w' none B (bG [] n)∧Kept (ofP none) w w':=by
 have hR:bG [] (n:Int)=[]:=by unfold bG;split <;> simp
 have hL:cj [] (n:Int)=[]:=by unfold cj;split <;> simp
 rw [hR,hL];have J:=yF (.slice none 0 0) [] w (Row.nil _ _) (by simp);by_cases h0:n=0
 ·subst h0;have hE:aY [] ((0:Nat):Int)=0:=rfl;rw [hE];clear hE hR hL;go_enter Tryz.func114,Tryz.ntmps114;go_wp2_with fail;refine J.mono ?_;rintro e w1 ⟨b,rfl,hb,h1,k1⟩;have J2:=vV _ _ _ w1 h1;have d:=aa k1;have H1:=aa h1;clear J k1 h1;go_wp2_with fail;refine J2.mono ?_;rintro e w2 ⟨rfl,k2⟩;have f:=aa (d.out.trans k2);have h2:=H1.out.grew k2;rcases h2 with ⟨e,_⟩ | ⟨b',v,ps,k,e,ed,h2⟩
  ·cases e
  cases e
  obtain ⟨c0,c1⟩:=h2.cells;have f1:=h2.free;have h3:=h2.put k h2.2.2.1;obtain ⟨d0,d1⟩:=h3.cells;have o:=h2.2.2.2.1;have i:k=ps.length:=by
   have e1:=congrArg List.length ed;rw [List.length_drop] at e1;have e2:=h2.2.2.1;have e3:([]:List Nat).length=0:=rfl;omega
  obtain ⟨ao,L,cap,rfl,hL,m,j,g,a⟩:=h2.2.1.open;obtain rfl:k=L:=i.trans hL.out;have c:Hid (Kept (ofP none) w (w2.setCell ⟨b,1,none⟩ (.int .i64 (k:Nat)))):=(f.out.any (S:=ofP none)).setCell _ (fun h=>absurd h (by show ¬ b<w.heap.size;omega)) _;have g1:(k:Int)+0=(k:Int):=by omega
  have g0:(0:Int)≤(k:Int):=by omega
  have g2:(k:Int)≤(cap:Int):=by omega
  have l:k≤1000000:=by omega
  have HN:=aa g;have HB:=aa hb;clear J2 h2 h3 k2 a g d f H1 ed i hL o hb;cases ao with
  | none=>
   obtain rfl:=HN.out rfl;obtain rfl:k=0:=by omega
   go_wp2_with fail;go_quiet (fail);go_wp2_with fail;go_ret2;exact ⟨_,rfl,Row.nil _ _,.inl ⟨rfl,rfl⟩,c.out.drewN _⟩
  | some ad=>
   by_cases hck:cap=k
   ·subst hck;go_wp2_with fail;go_quiet (fail);go_wp2_with fail;go_ret2;exact ⟨_,rfl,ik (fun e=>by cases e) (by unfold maxLen at *;omega),.inl ⟨rfl,rfl⟩,c.out.drewN _⟩
   ·go_wp2_with fail;go_quiet (fail);go_wp2_with fail;go_ret2;exact ⟨_,rfl,ik (fun e=>by cases e) (by unfold maxLen at *;omega),.inl ⟨rfl,rfl⟩,c.out.drewN _⟩
 ·have hE:aY [] (n:Int)=150:=by unfold aY;rw [if_neg (by omega),if_pos (by simp;omega)]
  rw [hE];have g1:(n:Int) > ((0:Nat):Int):=by omega
  have g2:((0:Nat):Int)<(n:Int):=by omega
  have g3:(0:Int)<(n:Int):=by omega
  clear hE hR hL;go_enter Tryz.func114,Tryz.ntmps114;go_wp2_with fail;refine J.mono ?_;rintro e w1 ⟨b,rfl,hb,h1,k1⟩;have J2:=vV _ _ _ w1 h1;have d:=aa k1;have H1:=aa h1;clear J k1 h1;go_wp2_with fail;refine J2.mono ?_;rintro e w2 ⟨rfl,k2⟩;have f:=aa (d.out.trans k2);have h2:=H1.out.grew k2;rcases h2 with ⟨e,_⟩ | ⟨b',v,ps,k,e,ed,h2⟩
  ·cases e
  cases e
  obtain ⟨c0,c1⟩:=h2.cells;have f1:=h2.free;obtain ⟨ao,L,cap,rfl,hL,m,j,g,a⟩:=h2.2.1.open;have c:Hid (Kept (ofP none) w (w2.setCell ⟨b,1,none⟩ (.int .i64 (L:Nat)))):=(f.out.any (S:=ofP none)).setCell _ (fun h=>absurd h (by show ¬ b<w.heap.size;omega)) _;clear J2 h2 k2 a g d f H1 ed;go_wp2_with fail;go_ret2;exact ⟨_,rfl,Row.nil _ _,.inl ⟨rfl,rfl⟩,c.out⟩

theorem Ax (b B n k:Nat) (v:Value) (ps:List Nat) (w:World) (h:LscB w b B v ps k) :
  Calls Tryz.prog 114 #[.pointer (some ⟨b,0,none⟩),.int .i64 (n:Int)] w fun e w'=>∃ u,e=.returned (.tuple #[u,.int .i64 (aY (ps.drop k) n:Nat)])∧Row .u8 w' u (cj (ps.drop k) n)∧Lsc w' (some ⟨b,0,none⟩) B (bG (ps.drop k) n)∧Kept (fun x=>x=b) w w':=by
 have J:=vV _ _ _ w h.lsc;have H:=aa h;obtain ⟨ao,L,cap,rfl,hL,t,p,a,c⟩:=h.2.1.open;have r:k≤L:=by rw [← hL.out];exact h.2.2.1
 have y:L≤1000000:=by rw [← hL.out];exact h.2.2.2.1
 have hd:(ps.drop k).length=L-k:=by rw [List.length_drop,hL.out]
 rw [hd] at J;obtain ⟨d,j⟩:∃ d,d=L-k:=⟨_,rfl⟩
 rw [← j] at J hd;by_cases h1:d<n
 ·have e1:aY (ps.drop k) (n:Int)=150:=by unfold aY;rw [if_neg (by omega),if_pos (by omega)]
  have e2:cj (ps.drop k) (n:Int)=[]:=by unfold cj;rw [e1];rfl
  have e3:bG (ps.drop k) (n:Int)=ps.drop ps.length:=by
   unfold bG;rw [if_neg (by omega),List.drop_of_length_le (by rw [hd];show d≤((n:Int)).toNat;omega),List.drop_of_length_le (leR _)]
  rw [e1,e2,e3];have g1:(n:Int) > (d:Int):=by omega
  have g2:(d:Int)<(n:Int):=by omega
  have i:=aa hL.out;clear e1 e2 e3 h c a j hd hL;go_enter Tryz.func114,Tryz.ntmps114;go_wp2_with fail;refine J.mono ?_;rintro e w1 ⟨rfl,k1⟩;have H1:=aa (H.out.kept k1 (fun _ _ f=>f));obtain ⟨c0,c1⟩:=H1.out.cells;have f1:=H1.out.free;have HP:=aa (H1.out.put L (by rw [i.out];exact leR _));have HK:=aa ((k1.any (S:=fun x=>x=b)).setCell ⟨b,1,none⟩ (fun _=>rfl) (.int .i64 (L:Nat)));clear J k1;go_wp2_with fail;go_ret2;exact ⟨_,rfl,Row.nil _ _,by rw [i.out];exact HP.out.lsc,HK.out⟩
 ·have e1:aY (ps.drop k) (n:Int)=0:=by unfold aY;rw [if_neg (by omega),if_neg (by omega)]
  have e2:cj (ps.drop k) (n:Int)=(ps.drop k).take n:=by unfold cj;rw [e1];rfl
  have e3:bG (ps.drop k) (n:Int)=ps.drop (k+n):=by
   unfold bG;rw [if_neg (by omega),List.drop_drop];rfl
  rw [e1,e2,e3];obtain ⟨m,hm⟩:∃ m,m=k+n:=⟨_,rfl⟩
  rw [← hm];have g1:¬ (n:Int) > (d:Int):=by omega
  have g2:¬ (d:Int)<(n:Int):=by omega
  have g3:(k:Int)+(n:Int)=(m:Int):=by omega
  have g4:(k:Int)≤(m:Int):=by omega
  have g5:(m:Int)≤(cap:Int):=by omega
  have g6:(0:Int)≤(k:Int):=by omega
  have g7:m-k=n:=by omega
  have o:m≤L:=by omega
  have q:m≤cap:=by omega
  have A:k≤m:=by omega
  have i:=aa hL.out;have z:k≤1000000:=by omega
  have s:m≤1000000:=by omega
  have HN:=aa a;have l:=aa (show k+n≤L by omega);clear e1 e2 e3 h c j hd hL hm;go_enter Tryz.func114,Tryz.ntmps114;go_wp2_with fail;refine J.mono ?_;rintro e w1 ⟨rfl,k1⟩;have H1:=aa (H.out.kept k1 (fun _ _ f=>f));obtain ⟨c0,c1⟩:=H1.out.cells;have f1:=H1.out.free;have HP:=aa (H1.out.put m (by rw [i.out];exact o));obtain ⟨d0,d1⟩:=HP.out.cells;have HK:=aa ((k1.any (S:=fun x=>x=b)).setCell ⟨b,1,none⟩ (fun _=>rfl) (.int .i64 (m:Nat)));have HC:=aa (yQ HP.out.2.1 l.out);clear J k1;cases ao with
  | none=>
   obtain rfl:=HN.out rfl;obtain rfl:L=0:=by omega
   obtain rfl:m=0:=by omega
   obtain rfl:k=0:=by omega
   obtain rfl:n=0:=by omega
   have g:=aa (HC.out.1 rfl);clear HC a;go_wp2_with fail;go_quiet (fail);go_wp2_with fail;go_ret2;exact ⟨_,rfl,g.out.kept' (S:=af) ((ah _ _).drewN _) (fun _ _ _ f=>f),HP.out.lsc.grew ((ah _ _).drewN _),HK.out.drewN _⟩
  | some ad=>
   by_cases hck:cap=k
   ·have g:=aa (HC.out.2.1 ad rfl hck);obtain rfl:m=k:=by omega
    obtain rfl:n=0:=by omega
    subst hck;clear HC a;go_wp2_with fail;go_quiet (fail);go_wp2_with fail;go_ret2;exact ⟨_,rfl,g.out.kept' (S:=af) ((ah _ _).drewN _) (fun _ _ _ f=>f),HP.out.lsc.grew ((ah _ _).drewN _),HK.out.drewN _⟩
   ·have g:=aa (HC.out.2.2 ad rfl hck);clear HC a;go_wp2_with fail;go_quiet (fail);go_wp2_with fail;go_ret2;exact ⟨_,rfl,g.out.kept' (S:=af) ((ah _ _).drewN _) (fun _ _ _ f=>f),HP.out.lsc.grew ((ah _ _).drewN _),HK.out.drewN _⟩

theorem BZ (p:Option Addr) (B n:Nat) (bs:List Nat) (w:World) (h:Lsc w p B bs) :
  Calls Tryz.prog 114 #[.pointer p,.int .i64 (n:Int)] w fun e w'=>∃ u,e=.returned (.tuple #[u,.int .i64 (aY bs n:Nat)])∧Row .u8 w' u (cj bs n)∧Lsc w' p B (bG bs n)∧Kept (ofP p) w w':=by
 rcases h with ⟨rfl,rfl⟩ | ⟨b,v,ps,k,rfl,rfl,h⟩
 ·exact ue B n w
 ·refine (Ax b B n k v ps w h).mono ?_;rintro e w' ⟨u,he,h1,h2,h3⟩;exact ⟨u,he,h1,h2,h3.mono fun x _ e=>by cases e;rfl⟩

theorem uT (bs:List Nat) (n:Nat):aY bs n=0∨aY bs n=150:=by
 unfold aY;rw [if_neg (by omega)]
 split <;> simp

theorem ur (bs:List Nat) (n:Int):(cj bs n).length≤bs.length:=by
 unfold cj
 split
 ·rw [List.length_take];omega
 ·simp

theorem zq (p:Option Addr) (B:Nat) (bs:List Nat) (n:Int) (w:World) (h:Lsc w p B bs) :
  Calls Tryz.prog 73 #[.pointer p,.int .i64 n] w fun e w'=>∃ u,e=.returned (.tuple #[u,.int .i64 (aY bs n:Nat)])∧OwnB w' w.heap.size u (cj bs n)∧Lsc w' p B (bG bs n)∧Kept (ofP p) w w':=by
 have H:=aa h;by_cases h1:n<0
 ·have e1:aY bs n=1:=by unfold aY;rw [if_pos h1]
  have e2:cj bs n=[]:=by unfold cj;rw [e1];rfl
  have e3:bG bs n=bs:=by unfold bG;rw [if_pos h1]
  rw [e1,e2,e3];clear e1 e2 e3 h;go_enter Tryz.func73,Tryz.ntmps73;go_wp2_with fail;go_ret2;exact ⟨_,rfl,OwnB.nil _ _,H.out,ah _ _⟩
 ·obtain ⟨m,rfl⟩:=Int.eq_ofNat_of_zero_le (show 0≤n by omega);have J:=BZ p B m bs w h;have hb:=(ur bs (m:Int))
  have d:=h.len;have HE:=uT bs m;have HL:Hid (aY bs (m:Int)≠0→cj bs (m:Int)=[]):=fun e=>if_neg e
  generalize cj bs (m:Int)=l at *;generalize aY bs (m:Int)=E at *;generalize bG bs (m:Int)=r at *;clear h;go_enter Tryz.func73,Tryz.ntmps73;go_wp2_with fail;refine J.mono ?_;rintro e w1 ⟨u,rfl,hr,a,k1⟩;have J2:=zF u l w1 hr (by omega);have HS:=aa a;have HK:=aa k1;obtain ⟨ao,L,cap,rfl,_⟩:=hr.open;clear J k1 a hr;rcases HE with rfl | rfl
  ·clear HL;go_wp2_with fail;refine J2.mono ?_;rintro e w2 ⟨u2,rfl,hO,k2⟩;have b:=aa (HS.out.grew k2);have HO:=aa (hO.base HK.out.size);have c:=aa (HK.out.trans k2.any);clear J2 k2 hO;go_wp2_with fail;go_ret2;exact ⟨_,rfl,HO.out,b.out,c.out⟩
  ·obtain rfl:=HL.out (by decide);clear J2;go_wp2_with fail;go_ret2;exact ⟨_,rfl,OwnB.nil _ _,HS.out,HK.out⟩

def eY (p:Option Addr) (w:World):Nat:=match p with
 | none=>0
 | some a=>match w.cell? ⟨a.block,0,none⟩,w.cell? ⟨a.block,1,none⟩ with
  | some v,some (.int _ k)=>n9 v-k.toNat
  | _,_=>0

theorem Lsc.left {w:World} {p:Option Addr} {B:Nat} {bs:List Nat} (h:Lsc w p B bs):eY p w=bs.length:=by
 rcases h with ⟨rfl,rfl⟩ | ⟨b,v,ps,k,rfl,rfl,h⟩
 ·rfl
 ·obtain ⟨c0,c1⟩:=h.cells;obtain ⟨_,_,e,_⟩:=h.2.1;unfold eY;simp only [c0,c1];rw [e,List.length_drop];rfl

def LowT {β:Type} (B:Nat) (T:Nat→Prop) (J:β→World→Prop):Prop:=∀ s A C,J s A→Kept (fun x=>T x∨B≤x) A C→J s C

theorem gU {A C:World} {B:Nat} {T:Nat→Prop} (h:Below B A C):Kept (fun x=>T x∨B≤x) A C:=
 ⟨h.os,h.tape,h.output,h.size,fun i _ hs=>h.block i (Nat.lt_of_not_le fun e=>hs (.inr e))⟩

theorem LowT.below {β:Type} {B:Nat} {T:Nat→Prop} {J:β→World→Prop} (h:LowT B T J) {s:β} {A C:World} (j:J s A) (k:Below B A C):J s C:=h s A C j (gU k)

def nF {β:Type} (B:Nat) (J:β→World→Prop):Prop:=∀ s A l o o',J s A→B≤l→A.heap[l]? = some o→o.isCells=false→J s (A.putObj l o')

def BW {α:Type} (n:Nat) (P:Program) (g:Nat) (lb:Array Value) (encs:α→Array Value) (X:List α→α→World→Prop) (Sb T:Nat→Prop) (S:List α→World→Prop) (w:World):Prop:=
 ∀ (l:Nat) (J Jx:List α→World→Prop) (W:World),Kept af w W→l=w.heap.size+1→W.heap.size=w.heap.size+2 →
  LowT W.heap.size T J →
  (∀ pre x A,J pre A→X pre x A→YieldAt Fence.wide (n-1) P l (encs x) A fun e C=>
   (e=.returned (.bool true)∧J (pre ++ [x]) C∧Kept (fun b=>Sb b∨b=l∨b+1=l) A C)∨(e=.returned (.bool false)∧Jx (pre ++ [x]) C)) →
  J [] W →
  CallsIn Fence.wide n P g (#[.func (.yield l) #[] #[]] ++ lb) W fun e C=>(∃ v,e=.returned v)∧((∃ s,S s C∧J s C)∨∃ s,Jx s C)

theorem jZ {α:Type} {P:Program} {n:Nat} {g:Operand} {ps:Array Tmp} {assign body:Code} {Q:Exit→Act→World→Prop} {a:Act} {w:World} (h1:1≤n) {gf:Nat} {lb:Array Value}
  (hg:a.eval g=.func (.func gf) #[] lb) (eg:∀ args w,(callFunc gf args).run P w=.ok (.enter gf args) w)
  {y:α→Array Value} {X:List α→α→World→Prop} {Sb T:Nat→Prop} {S:List α→World→Prop} (F:BW (n-1) P gf lb y X Sb T S w) (V:∀ x,(y x).size=ps.size) (hSb:∀ b,Sb b→b<w.heap.size) (hT:∀ b,T b→b<w.heap.size)
  (hX:∀ m x A l o o',X m x A→A.heap[l]? = some o→o.isCells=false→X m x (A.putObj l o'))
  (I:List α→World→Prop) (Ix:Code→List α→World→Prop) (hI:LowT w.heap.size T I) (N:∀ c,nF w.heap.size (Ix c)) (hS:nF w.heap.size S) (h0:I [] w) (a₁:α→Act)
  (q:∀ (l:Nat) (x:α) (W:World) (K:Act→World→Prop),K (a₁ x) W→assign.wpIn (Fence.wide.inRound l) (n-1-1) P (Exit.then K (fun _ _ _=>False)) { tmps:=(ps.zip (y x)).foldl (fun t (p,v)=>t.setIfInBounds p v) a.tmps,defers:=[] } W)
  (hbody:∀ (l:Nat) (m:List α) (x:α) (W:World),I m W→X m x W→body.wpIn (Fence.wide.inRound l) (n-1-1) P (zA Sb I Ix (m ++ [x]) W) (a₁ x) W)
  (hdone:∀ (D:Nat) (s:List α) (W:World),w.heap.size≤D→S s W→I s W→W.heap[D]? = some (.deferred (some []))→Q .normal { a with defers:={ target:=.collected D,args:=#[] } :: a.defers } W)
  (hstop:∀ (D:Nat) (c:Code) (s:List α) (W:World),w.heap.size≤D→Ix c s W→W.heap[D]? = some (.deferred (some []))→c.wpIn Fence.wide n P Q { a with defers:={ target:=.collected D,args:=#[] } :: a.defers } W) :
  (Code.rangeFunc g ps assign body).wpIn Fence.wide n P Q a w:=by
 refine wpIn_rangeFunc fun fn ag=>?_
 obtain ⟨f,d⟩:∃ f:LoopState→Option Code→Loop,f=fun st pe=>{ state:=st,pending:=pe,fn,tmps:=a.tmps,params:=ps,assign,body,defers:=w.heap.size }:=⟨_,rfl⟩
 obtain ⟨W1,B⟩:∃ W1,W1=(w.alloc (.deferred (some []))).alloc (.loop (f .ready none)):=⟨_,rfl⟩
 have M:W1.heap.size=w.heap.size+2:=by rw [B];simp
 have O:Kept af w W1:=by rw [B];exact ((ah _ w).alloc _).alloc _
 have Z:Books w.heap.size (f .ready none) W1:=by
  rw [B];refine ⟨?_,(Below.heap_alloc _ _ _ (by simp)).trans (World.alloc_heap_new w _)⟩;have:=World.alloc_heap_new (w.alloc (.deferred (some []))) (.loop (f .ready none))
  rwa [World.size_alloc] at this
 refine ⟨w.heap.size+1,[{ target:=.collected w.heap.size,args:=#[] }],W1,{ target:=.fn (.func gf) lb,args:=#[.func (.yield (w.heap.size+1)) #[] #[]] },W1,gf,#[.func (.yield (w.heap.size+1)) #[] #[]] ++ lb,W1,?_,?_,fun _ _=>trivial,?_,fun _=>h1,?_⟩
 ·rw [B,d];exact run_enterLoop_outer _ _ _ _ _
 ·simp only [resolve,hg];simp [go_sem]
 ·simp [invoke,go_sem,eg]
 ·have z:∀ (j:Option Code) (A:World),Books w.heap.size (f .busy none) A→∃ C,(Instr.endRound (w.heap.size+1) j).run P A=.ok (.bool j.isNone) C∧Books w.heap.size (f (if j.isNone then .ready else .done) j) C∧Below w.heap.size A C∧Kept (fun b=>b=w.heap.size+1) A C∧∃ o',C=A.putObj (w.heap.size+1) o':=fun j A hb=>by
   refine ⟨_,run_endRound (P:=P) j hb.1,?_,ip _ (by omega),dS _ _ _,_,rfl⟩;have:=hb.put { f .busy none with state:=if j.isNone then .ready else .done,pending:=j };rw [d] at this ⊢;exact this
  have L:∀ {β:Type} {J:β→World→Prop} {r:Loop},LowT w.heap.size T J→LowT W1.heap.size T (fun s A=>J s A∧Books w.heap.size r A):=fun hJ s A C h k=>by
   rw [M] at k;refine ⟨hJ s A C h.1 (k.mono (fun x _ e=>?_)),?_⟩
   ·rcases e with e | e
    ·exact .inl e
    ·exact .inr (by omega)
   ·have hl:=h.2.lt;refine ⟨(k.block _ (by omega) ?_).trans h.2.1,(k.block _ (by omega) ?_).trans h.2.2⟩
    all_goals
     rintro (e | e)
     ·have:=hT _ e;omega
     ·omega
  refine (F (w.heap.size+1) (fun s A=>I s A∧Books w.heap.size (f .ready none) A) (fun s A=>∃ c,Ix c s A∧Books w.heap.size (f .done (some c)) A) W1 O rfl M (L hI) ?_ ⟨hI.below h0 (gd O (leR _)),Z⟩).mono ?_
  ·rintro m x A ⟨hi,hb⟩ hx;have hy:=run_yield (P:=P) (args:=y x) hb.1 (by rw [d];exact V x);rw [d] at hy;refine ⟨fn,_,assign,body,hy,roundIn_of_wpIn ag (q _ x A _ ⟨_,run_beginRound hb.1 (by rw [d]),?_⟩)⟩;have R:=hb.put { f .ready none with state:=.busy };have ae:=hX m x A _ _ (.loop { f .ready none with state:=.busy }) hx hb.1 rfl;have ad:=hI.below hi (ip (l:=w.heap.size+1) (.loop { f .ready none with state:=.busy }) (by omega));have ac:=dS A (w.heap.size+1) (.loop { f .ready none with state:=.busy })
   have E:∀ C,Kept Sb (A.putObj (w.heap.size+1) (.loop { f .ready none with state:=.busy })) C→Books w.heap.size (f .busy none) C:=fun C k=>by
    have:=R.kept k hSb;rw [d] at this ⊢;exact this
   refine wpIn_mono (hbody _ m x _ ad ae) ?_;generalize A.putObj (w.heap.size+1) (.loop { f .ready none with state:=.busy })=A2 at *;have H:∀ (c:Code) (C:World),Kept Sb A2 C→Ix c (m ++ [x]) C→∃ v C',(Instr.endRound (w.heap.size+1) (some c)).run P C=.ok v C'∧((Ending.returned v=.returned (.bool true)∧(I (m ++ [x]) C'∧Books w.heap.size (f .ready none) C')∧Kept (fun b=>Sb b∨b=w.heap.size+1∨b+1=w.heap.size+1) A C')∨(Ending.returned v=.returned (.bool false)∧∃ c,Ix c (m ++ [x]) C'∧Books w.heap.size (f .done (some c)) C')):=fun c C k hc=>by
    obtain ⟨C',hr,G,_,_,o',rfl⟩:=z (some c) C (E C k);exact ⟨_,_,hr,.inr ⟨rfl,c,N c _ _ _ _ o' hc (by omega) (E C k).1 rfl,G⟩⟩
   rintro e a3 C hp;cases e with
   | normal=>
    obtain ⟨k,Y⟩:=hp;obtain ⟨C',hr,G,U,ab,_⟩:=z none C (E C k);exact ⟨_,_,hr,.inl ⟨rfl,⟨hI.below Y U,G⟩,((ac.mono (fun _ _ e=>.inr (.inl e))).next k (fun _ _ e=>.inl e)).next ab (fun _ _ e=>.inr (.inl e))⟩⟩
   | ret=>exact H _ C hp.1 hp.2
   | exit i=>exact H _ C hp.1 hp.2
   | goto t=>exact H _ C hp.1 hp.2
   | panic c=>exact hp.elim
   | outgrown=>exact hp.elim
  ·rintro e C ⟨⟨v,rfl⟩,(⟨s,aa,hi,hb⟩ | ⟨s,c,hi,hb⟩)⟩
   ·refine ⟨_,_,run_endLoop (P:=P) hb.1 (by rw [d];simp),?_⟩;rw [d] at hb ⊢;exact hdone _ s _ (leR _) (hS _ _ _ _ _ aa (by omega) hb.1 rfl) (hI.below hi (ip _ (by omega))) ((World.putObj_heap_other (by omega)).trans hb.2)
   ·refine ⟨_,_,run_endLoop (P:=P) hb.1 (by rw [d];simp),?_⟩;rw [d] at hb ⊢;exact hstop _ c s _ (leR _) (N c _ _ _ _ _ hi (by omega) hb.1 rfl) ((World.putObj_heap_other (by omega)).trans hb.2)

end Go.Proofs.YtcemlfokmjjiaaaGreatDoor
