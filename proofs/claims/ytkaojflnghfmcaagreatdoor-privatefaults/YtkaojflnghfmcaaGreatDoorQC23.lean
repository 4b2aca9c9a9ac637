/- Put together of: Prv2 Num2 WKeyChecks Src1 Seq2 Lsc1 Lsc2 Lsc3 Seq3 Lays NatC NatD. -/
import Derived.Test.YtkaojflnghfmcaaGreatDoorQC22
import Derived.Shelf.Strings.BuilderK
import Derived.Shelf.Strings.Repeat
import Derived.Shelf.Small.Wraps

namespace Go.Proofs.YtkaojflnghfmcaaGreatDoor
open _root_.Go.Proofs.Tryz
set_option maxRecDepth 100000
set_option maxHeartbeats 4000000
open Go.RowKit

theorem DI {at_ k:Int} {fs:List Nat} {X n M:Nat} (h:X<M):tF at_ k fs X n M<M:=by
 unfold tF
 split
 ·exact ay _ (by omega)
 ·exact h

def IM (u v P:Nat):Nat:=if v<=u then u-v else u+P-v

def A7 (at_:Int) (fs:List Nat) (b P DP pl:Nat):Nat:=tF at_ 1 fs (b^DP%P) pl P
def uQ (at_:Int) (fs:List Nat) (b Q DQ ql:Nat):Nat:=tF at_ 2 fs (b^DQ%Q) ql Q
def Dm (u v P QI:Nat):Nat:=QI*IM u (v%P) P%P
def Hl (at_:Int) (fs:List Nat) (v h Q N nl:Nat):Nat:=tF at_ 3 fs ((v+Q*h)%N) nl N
def Fy (at_:Int) (fs:List Nat) (z T N nl:Nat):Nat:=tF at_ 4 fs (z*T%N) nl N
def pG (at_:Int) (fs:List Nat) (b T N P Q DP DQ QI nl pl ql:Nat):Nat:=
 Fy at_ fs (Hl at_ fs (uQ at_ fs b Q DQ ql) (Dm (A7 at_ fs b P DP pl) (uQ at_ fs b Q DQ ql) P QI) Q N nl) T N nl

theorem qe {ns:List Nat}:∀ {f:Nat} {bs:List Nat} {a:Nat} {r1:List Nat} {k:Nat} {r4:List Nat},lW ns f bs a=(r1,k,0,r4)->Digs ns->Digs r1/\r1.length=ns.length/\Nat.gcd (val r1) (val ns)=1/\val r1<val ns
 | 0,_,_,_,_,_,h,_=>by simp [lW] at h
 | f+1,bs,a,r1,k,r4,h,hd=>by
  unfold lW at h;by_cases h1:eY ns bs=0
  ·rw [ai (by omega)] at h
   split at h
   ·next h2=>
    simp only [fi] at h;obtain ⟨rfl,_⟩:=h;exact ⟨by unfold jh;rw [ah h1];exact ak (by omega) _ _,Cf h1,h2,(vy hd h1).2⟩
   ·exact qe h hd
  ·rw [ah h1] at h;simp only [fi] at h;exact absurd h.2.2.1 h1

theorem yg {ns bs r1 r4:List Nat} {k:Nat} (h:nh ns bs=(r1,k,0,r4)) (hd:Digs ns):Digs r1/\r1.length=ns.length/\Nat.gcd (val r1) (val ns)=1/\val r1<val ns:=by
 unfold nh at h
 split at h
 ·exact qe h hd
 ·simp only [fi] at h;exact absurd h.2.2.1 (by omega)

theorem yS {at_:Int} {fs:List Nat} {b T N P Q DP DQ QI nl pl ql:Nat} (hN:0<N):pG at_ fs b T N P Q DP DQ QI nl pl ql<N:=by
 unfold pG Fy;exact DI (ay _ hN)

def KS.few (t:KS):Prop:=fewL t.nl/\fewL t.dl/\fewL t.pl/\fewL t.ql/\fewL t.dpl/\fewL t.dql/\fewL t.qil

theorem Ai (t:KS) (R:Bool) (hR:R=true↔t.few) (w:World) :
  Calls prog 27 #[.agg t.v] w fun r w'=>r=.returned (.bool R)/\Kept af w w':=by
 obtain ⟨W1,a⟩:∃ W1,W1=w.alloc (.cells t.v 26):=⟨_,rfl⟩
 have k1:Kept af w W1:=by rw [a];exact (aj af w).alloc _
 have c:W1.heap[w.heap.size]? = some (.cells t.v 26 (0,0)):=by rw [a];exact heap_alloc_new _ _
 obtain ⟨c0,c1,c2,c3,c4,c5,c6,c7⟩:=bH c;have J1:Calls prog 59 #[.slice (some ⟨W1.heap.size,0,none⟩) 7 7] (W1.alloc (.cells #[.slice t.no t.nl t.nc,.slice t.dO t.dl t.dc,.slice t.po t.pl t.pc,.slice t.qo t.ql t.qc,.slice t.dpo t.dpl t.dpc,.slice t.dqo t.dql t.dqc,.slice t.qio t.qil t.qic] 23)) fun r w'=>r=.returned (.bool R)/\w'=W1.alloc (.cells #[.slice t.no t.nl t.nc,.slice t.dO t.dl t.dc,.slice t.po t.pl t.pc,.slice t.qo t.ql t.qc,.slice t.dpo t.dpl t.dpc,.slice t.dqo t.dql t.dqc,.slice t.qio t.qil t.qic] 23):=by
  refine ET (some ⟨W1.heap.size,0,none⟩) 7 7 (fun i=>[t.no,t.dO,t.po,t.qo,t.dpo,t.dqo,t.qio].getD i none) (fun i=>[t.nl,t.dl,t.pl,t.ql,t.dpl,t.dql,t.qil].getD i 0) (fun i=>[t.nc,t.dc,t.pc,t.qc,t.dpc,t.dqc,t.qic].getD i 0) _ (by omega) R ?_ ?_
  ·rw [hR];refine ⟨fun h i hi=>?_,fun h=>⟨h 0 (by omega),h 1 (by omega),h 2 (by omega),h 3 (by omega),h 4 (by omega),h 5 (by omega),h 6 (by omega)⟩⟩;obtain ⟨h0,h1,h2,h3,h4,h5,h6⟩:=h;have:i=0\/i=1\/i=2\/i=3\/i=4\/i=5\/i=6:=by omega
   rcases this with rfl | rfl | rfl | rfl | rfl | rfl | rfl
   ·exact h0
   ·exact h1
   ·exact h2
   ·exact h3
   ·exact h4
   ·exact h5
   ·exact h6
  ·intro i hi;refine ⟨_,_,rfl,?_⟩;have:i=0\/i=1\/i=2\/i=3\/i=4\/i=5\/i=6:=by omega
   rcases this with rfl | rfl | rfl | rfl | rfl | rfl | rfl <;> exact (cell_of_row _ _ _ _ _ _ (heap_alloc_new W1 _)).trans rfl
 have d:=aa (k1.alloc (.cells #[.slice t.no t.nl t.nc,.slice t.dO t.dl t.dc,.slice t.po t.pl t.pc,.slice t.qo t.ql t.qc,.slice t.dpo t.dpl t.dpc,.slice t.dqo t.dql t.dqc,.slice t.qio t.qil t.qic] 23));have b:=aa a;clear hR c k1 a;unfold KS.v at b ⊢;go_enter func27,ntmps27;go_wp2_with (rw [<- b.out]);refine J1.mono ?_;rintro r w3 ⟨rfl,rfl⟩;clear J1 c0 c1 c2 c3 c4 c5 c6 c7;go_wp2_with fail;go_ret;exact ⟨rfl,d.out⟩

theorem Dz {k:IntKind} {w W:World} {ao:Option Addr} {n a:Nat} {zs:List Nat} (h:Row k w (.slice ao n a) zs) (kk:Kept af w W) (hp:0<(zs.map fun z:Nat=>Value.int k (z:Int)).length):∃ ad,ao=some ad/\∀ j u,(zs.map fun z:Nat=>Value.int k (z:Int))[j]? = some u->W.cell? (ad.add j)=some u:=by
 rw [cf] at hp;obtain ⟨d,n',c,e,hL,_,_,_,hn⟩:=h.open;cases e
 obtain ⟨b,off,rfl,_⟩:=hn 0 (by have:=hL.out;omega);exact ⟨_,rfl,AQ h kk⟩

open Go.RowKit Go.Shelf

def G5 {α:Type} (Sb:Nat->Prop) (I:List α->World->Prop) (Ix:Code->List α->World->Prop) (s:List α) (W:World):Exit->Act->World->Prop
 | .normal,_,W'=>Kept Sb W W'/\I s W'
 | .ret,_,W'=>Kept Sb W W'/\Ix .ret s W'
 | .exit i,_,W'=>Kept Sb W W'/\Ix (.exit i) s W'
 | .goto t,_,W'=>Kept Sb W W'/\Ix (.goto t) s W'
 | .panic _,_,_=>False
 | .outgrown,_,_=>False

theorem rE {W:World} {B l:Nat} (o:Obj) (h:B<=l):Below B W (W.putObj l o):=
 ⟨rfl,rfl,rfl,by simp,fun _ hk=>World.putObj_heap_other (by omega)⟩

theorem pk (W:World) (l:Nat) (o:Obj):Kept (fun b=>b=l) W (W.putObj l o):=
 ⟨rfl,rfl,rfl,by simp,fun _ _ hk=>World.putObj_heap_other hk⟩

theorem rS {k:IntKind} {W:World} {l:Nat} {o:Obj} {v:Value} {zs:List Nat} (o':Obj) (h:Row k W v zs) (hl:W.heap[l]? = some o) (ho:o.isCells=false):Row k (W.putObj l o') v zs:=by
 obtain ⟨ao,a,rfl,h1,h2,h3,h4⟩:=h;refine ⟨ao,a,rfl,h1,h2,h3,fun i hi=>?_⟩;obtain ⟨b,off,rfl,hc⟩:=h4 i hi;exact ⟨b,off,rfl,cell_kept hc (grownBy_putObj' W l o') (fun r e=>by cases e;exact ⟨o,hl,ho⟩)⟩

theorem km {w w':World} {b:Nat} {t:TypeId} {v:Value} (h:Boxed w b t v) (k:Kept af w w'):Boxed w' b t v:=(k.block _ h.lt (fun f=>f)).trans h

theorem eF {S:Nat->Prop} {w w':World} {b:Nat} {t:TypeId} {v:Value} (h:Boxed w b t v) (k:Kept S w w') (hs:¬ S b):Boxed w' b t v:=(k.block _ h.lt hs).trans h

def Books (d:Nat) (r:Loop) (W:World):Prop:=W.heap[d+1]? = some (.loop r)/\W.heap[d]? = some (.deferred (some []))

theorem Books.lt {d:Nat} {r:Loop} {A:World} (h:Books d r A):d+1<A.heap.size:=(kY.1 h.1).1

theorem Books.put {d:Nat} {r:Loop} {A:World} (h:Books d r A) (r':Loop):Books d r' (A.putObj (d+1) (.loop r')):=
 ⟨World.putObj_heap_same h.lt,(World.putObj_heap_other (by omega)).trans h.2⟩

theorem Books.kept {d:Nat} {r:Loop} {A C:World} {Sb:Nat->Prop} (h:Books d r A) (k:Kept Sb A C) (hs:∀ b,Sb b->b<d):Books d r C:=by
 have hl:=h.lt;exact ⟨(k.block _ hl (fun e=>by have:=hs _ e;omega)).trans h.1,(k.block _ (by omega) (fun e=>by have:=hs _ e;omega)).trans h.2⟩

def LscB (w:World) (b B:Nat) (v:Value) (ps:List Nat) (k:Nat):Prop:=
 w.heap[b]? = some (.cells #[v,.int .i64 (k:Nat)] 84 (0,0))/\Row .u8 w v ps/\k<=ps.length/\ps.length<=1000000/\b<B/\(ps≠[]->∀ x,v.ownBlock=some x->x<B/\x≠b)

def Lsc (w:World) (p:Option Addr) (B:Nat) (bs:List Nat):Prop:=(p=none/\bs=[])\/∃ b v ps k,p=some ⟨b,0,none⟩/\bs=ps.drop k/\LscB w b B v ps k

def ofP (p:Option Addr) (x:Nat):Prop:=p.map Addr.block=some x

theorem LscB.lt {w:World} {b B k:Nat} {v:Value} {ps:List Nat} (h:LscB w b B v ps k):b<w.heap.size:=lt_of_block h.1

theorem LscB.cells {w:World} {b B k:Nat} {v:Value} {ps:List Nat} (h:LscB w b B v ps k):w.cell? ⟨b,0,none⟩=some v/\w.cell? ⟨b,1,none⟩=some (.int .i64 (k:Nat)):=
 ⟨(cell_of_row w b 0 _ _ _ h.1).trans rfl,(cell_of_row w b 1 _ _ _ h.1).trans rfl⟩

theorem LscB.free {w:World} {b B k:Nat} {v:Value} {ps:List Nat} (h:LscB w b B v ps k):w.frozen? ⟨b,1,none⟩=false:=by simp [World.frozen?,h.1]

theorem LscB.kept {S:Nat->Prop} {w w':World} {b B k:Nat} {v:Value} {ps:List Nat} (h:LscB w b B v ps k) (kk:Kept S w w') (hS:∀ x,x<B->¬ S x):LscB w' b B v ps k:=
 ⟨(kk.block b h.lt (hS b h.2.2.2.2.1)).trans h.1,h.2.1.kept' kk (fun e x hx=>hS x (h.2.2.2.2.2 e x hx).1),h.2.2⟩

theorem LscB.put {w:World} {b B k:Nat} {v:Value} {ps:List Nat} (h:LscB w b B v ps k) (m:Nat) (hm:m<=ps.length):LscB (w.setCell ⟨b,1,none⟩ (.int .i64 (m:Nat))) b B v ps m:=by
 refine ⟨?_,h.2.1.kept' ((aj (fun x=>x=b) w).setCell ⟨b,1,none⟩ (fun _=>rfl) _) (fun e x hx=>(h.2.2.2.2.2 e x hx).2),hm,h.2.2.2⟩;have:=heap_setCell_same w b 1 _ 84 (.int .i64 (m:Nat)) h.1;rw [this];rfl

theorem LscB.lsc {w:World} {b B k:Nat} {v:Value} {ps:List Nat} (h:LscB w b B v ps k):Lsc w (some ⟨b,0,none⟩) B (ps.drop k):=.inr ⟨b,v,ps,k,rfl,rfl,h⟩

theorem Lsc.len {w:World} {p:Option Addr} {B:Nat} {bs:List Nat} (h:Lsc w p B bs):bs.length<=1000000:=by
 rcases h with ⟨_,rfl⟩ | ⟨b,v,ps,k,_,rfl,_,_,_,h,_⟩
 ·simp
 ·rw [b9];omega

theorem Lsc.kept {S:Nat->Prop} {w w':World} {p:Option Addr} {B:Nat} {bs:List Nat} (h:Lsc w p B bs) (k:Kept S w w') (hS:∀ x,x<B->¬ S x):Lsc w' p B bs:=by
 rcases h with h | ⟨b,v,ps,k',e,e2,h⟩
 ·exact .inl h
 ·exact .inr ⟨b,v,ps,k',e,e2,h.kept k hS⟩

theorem Lsc.grew {w w':World} {p:Option Addr} {B:Nat} {bs:List Nat} (h:Lsc w p B bs) (k:Kept af w w'):Lsc w' p B bs:=h.kept k fun _ _ f=>f

theorem Lsc.inP {w:World} {p:Option Addr} {B x:Nat} {bs:List Nat} (h:Lsc w p B bs) (hx:ofP p x):x<B/\x<w.heap.size:=by
 rcases h with ⟨rfl,_⟩ | ⟨b,v,ps,k,rfl,_,h⟩
 ·cases hx
 ·cases hx
  exact ⟨h.2.2.2.2.1,h.lt⟩

theorem Lsc.put {w:World} {p:Option Addr} {B l:Nat} {bs:List Nat} {o:Obj} (o':Obj) (h:Lsc w p B bs) (hl:w.heap[l]? = some o) (ho:o.isCells=false):Lsc (w.putObj l o') p B bs:=by
 rcases h with h | ⟨b,v,ps,k,e,e2,h1,h2,h3⟩
 ·exact .inl h
 ·refine .inr ⟨b,v,ps,k,e,e2,(World.putObj_heap_other fun e=>?_).trans h1,rS o' h2 hl ho,h3⟩;subst e;rw [hl] at h1;cases h1
  cases ho

theorem EA (v:Value) (bs:List Nat) (w:World) (h:Row .u8 w v bs) (hl:bs.length<=1000000) :
  Calls prog 40 #[v] w fun e w'=>∃ u,e=.returned u/\OwnB w' w.heap.size u bs/\Kept af w w':=by
 obtain ⟨i0,l,r,m,s⟩:=info_parts Tryz.info8s;have HX:=aa h;obtain ⟨ao,na,ca,rfl,b,t,x,_⟩:=h.open;obtain ⟨CS,a⟩:∃ CS,CS=bs.map fun z:Nat=>Value.int .u8 (z:Int):=⟨_,rfl⟩
 have HC:=aa a;have f:Hid (CS.length=na):=by unfold Hid;rw [a,cf];exact b.out
 have c:Hid (∀ W,Kept af w W->0<CS.length->∃ ad,ao=some ad/\∀ j u,CS[j]? = some u->W.cell? (ad.add j)=some u):=by rw [a];exact fun W k hp=>Dz HX.out k hp
 have p:Hid (∀ u ∈ CS,u.oneCell'=true):=by rw [a];exact He _ _
 have y:na<=1000000:=by have:=b.out;omega
 clear h a;go_enter func40,ntmps40;go_wp2_with (at_make;refine wpList_make_full _ rfl _ _ 27 rfl w.heap.size 5 i0 _ 1 underlying27 l r m _ _ _ _ na rfl rfl rfl rfl (by rw [s];omega) (by unfold maxLen;omega) (leR _) ?_;intro w1 d i;rw [bg] at d;have k1:=aV i;obtain ⟨w2,q,g,k2⟩:=dS (P:=prog) 27 27 3 5 w.heap.size 0 na na (some ⟨w.heap.size,0,none⟩) ao na ca _ 5 CS underlying27 (by rw [l];simp [m]) (gV d) (by rw [f.out];exact (Nat.min_self _).symm) (fun hp=>⟨rfl,c.out _ k1 hp⟩) (by have:=f.out;simp;omega) p.out;have n:Hid _:=g;have o:=aa (eZ k1 k2 (leR _));clear g d i k1 k2)
 have hA:=n.out;rw [HC.out,fZ,b.out,bJ,eH,dI] at hA;go_ret;exact ⟨_,rfl,OwnB.of (dD hA b.out (by unfold maxLen;omega) (leR _)),o.out⟩

theorem Gh (v:Value) (bs:List Nat) (w:World) (h:Row .u8 w v bs) (hl:bs.length<=1000000) :
  Calls prog 14 #[v] w fun e w'=>∃ b,e=.returned (.pointer (some ⟨b,0,none⟩))/\w.heap.size<=b/\Lsc w' (some ⟨b,0,none⟩) w'.heap.size bs/\Kept af w w':=by
 have J:=EA v bs w h hl;clear h;go_enter func14,ntmps14;go_wp2_with fail;refine J.mono ?_;rintro e w1 ⟨u,rfl,hO,k1⟩;have hs:=k1.size;have k2:Kept af w1 (w1.alloc (.cells #[u,.int .i64 0] 84)):=(aj _ _).alloc _;have HR:Hid (LscB (w1.alloc (.cells #[u,.int .i64 0] 84)) w1.heap.size (w1.alloc (.cells #[u,.int .i64 0] 84)).heap.size u bs 0):=by
  refine ⟨World.alloc_heap_new w1 _,hO.row.grew k2,aP _,hl,by simp,fun _ x hx=>?_⟩;have:=(hO.lt x hx).2;rw [World.size_alloc];omega
 have HK:=aa (k1.alloc (.cells #[u,.int .i64 0] 84));obtain ⟨ao,a,rfl⟩:=dg hO;clear J k1 k2 hO;go_wp2_with fail;go_ret;exact ⟨_,rfl,hs,HR.out.lsc,HK.out⟩

theorem B7 (p:Option Addr) (B:Nat) (bs:List Nat) (w:World) (h:Lsc w p B bs) :
  Calls prog 18 #[.pointer p] w fun e w'=>e=.returned (.int .i64 (bs.length:Nat))/\Kept af w w':=by
 rcases h with ⟨rfl,rfl⟩ | ⟨b,v,ps,k,rfl,rfl,h⟩
 ·go_enter func18,ntmps18;go_wp2_with fail;go_ret;exact ⟨rfl,aj _ _⟩
 ·obtain ⟨c0,c1⟩:=h.cells;obtain ⟨ao,L,f,rfl,hL,i,j,c,a⟩:=h.2.1.open;have hk:k<=L:=by rw [<- hL.out];exact h.2.2.1
  have g:L<=1000000:=by rw [<- hL.out];exact h.2.2.2.1
  have e1:(ps.drop k).length=L-k:=by rw [b9,hL.out]
  rw [e1];obtain ⟨d,hd⟩:∃ d,d=L-k:=⟨_,rfl⟩
  rw [<- hd];have g1:(L:Int)-(k:Int)=(d:Int):=by omega
  clear hd e1 a h c;go_enter func18,ntmps18;go_wp2_with fail;go_quiet (fail);go_wp2_with fail;go_ret;exact ⟨rfl,(aj _ _).drewN _⟩

theorem B8 (B n:Nat) (w:World) :
  Calls prog 229 #[.pointer none,.int .i64 (n:Int)] w fun e w'=>∃ u,e=.returned (.tuple #[u,.int .i64 (fY [] n:Nat)])/\Row .u8 w' u (iN [] n)/\Lsc w' none B (jf [] n)/\Kept (ofP none) w w':=by
 have hR:jf [] (n:Int)=[]:=by unfold jf;split <;> simp
 have hL:iN [] (n:Int)=[]:=by unfold iN;split <;> simp
 rw [hR,hL];have J:=Gh (.slice none 0 0) [] w (Row.nil _ _) (by simp);by_cases h0:n=0
 ·subst h0;have hE:fY [] ((0:Nat):Int)=0:=rfl;rw [hE];clear hE hR hL;go_enter func229,ntmps229;go_wp2_with fail;refine J.mono ?_;rintro e w1 ⟨b,rfl,hb,h1,k1⟩;have J2:=B7 _ _ _ w1 h1;have c:=aa k1;have H1:=aa h1;clear J k1 h1;go_wp2_with fail;refine J2.mono ?_;rintro e w2 ⟨rfl,k2⟩;have d:=aa (c.out.trans k2);have h2:=H1.out.grew k2;rcases h2 with ⟨e,_⟩ | ⟨b',v,ps,k,e,ed,h2⟩
  ·cases e
  cases e
  obtain ⟨c0,c1⟩:=h2.cells;have f1:=h2.free;have h3:=h2.put k h2.2.2.1;obtain ⟨d0,d1⟩:=h3.cells;have o:=h2.2.2.2.1;have j:k=ps.length:=by
   have e1:=congrArg List.length ed;rw [b9] at e1;have e2:=h2.2.2.1;have e3:([]:List Nat).length=0:=rfl;omega
  obtain ⟨ao,L,i,rfl,hL,l,m,g,a⟩:=h2.2.1.open;obtain rfl:k=L:=j.trans hL.out;have f:Hid (Kept (ofP none) w (w2.setCell ⟨b,1,none⟩ (.int .i64 (k:Nat)))):=(d.out.any (S:=ofP none)).setCell _ (fun h=>absurd h (by show ¬ b<w.heap.size;omega)) _;have g1:(k:Int)+0=(k:Int):=by omega
  have g0:(0:Int)<=(k:Int):=by omega
  have g2:(k:Int)<=(i:Int):=by omega
  have p:k<=1000000:=by omega
  have HN:=aa g;have HB:=aa hb;clear J2 h2 h3 k2 a g c d H1 ed j hL o hb;cases ao with
  | none=>
   obtain rfl:=HN.out rfl;obtain rfl:k=0:=by omega
   go_wp2_with fail;go_quiet (fail);go_wp2_with fail;go_ret2;exact ⟨_,rfl,Row.nil _ _,.inl ⟨rfl,rfl⟩,f.out.drewN _⟩
  | some ad=>
   by_cases hck:i=k
   ·subst hck;go_wp2_with fail;go_quiet (fail);go_wp2_with fail;go_ret2;exact ⟨_,rfl,lJ (fun e=>by cases e) (by unfold maxLen at *;omega),.inl ⟨rfl,rfl⟩,f.out.drewN _⟩
   ·go_wp2_with fail;go_quiet (fail);go_wp2_with fail;go_ret2;exact ⟨_,rfl,lJ (fun e=>by cases e) (by unfold maxLen at *;omega),.inl ⟨rfl,rfl⟩,f.out.drewN _⟩
 ·have hE:fY [] (n:Int)=150:=by unfold fY;rw [ai (by omega),ah (by simp;omega)]
  rw [hE];have g1:(n:Int) > ((0:Nat):Int):=by omega
  have g2:((0:Nat):Int)<(n:Int):=by omega
  have g3:(0:Int)<(n:Int):=by omega
  clear hE hR hL;go_enter func229,ntmps229;go_wp2_with fail;refine J.mono ?_;rintro e w1 ⟨b,rfl,hb,h1,k1⟩;have J2:=B7 _ _ _ w1 h1;have c:=aa k1;have H1:=aa h1;clear J k1 h1;go_wp2_with fail;refine J2.mono ?_;rintro e w2 ⟨rfl,k2⟩;have d:=aa (c.out.trans k2);have h2:=H1.out.grew k2;rcases h2 with ⟨e,_⟩ | ⟨b',v,ps,k,e,ed,h2⟩
  ·cases e
  cases e
  obtain ⟨c0,c1⟩:=h2.cells;have f1:=h2.free;obtain ⟨ao,L,i,rfl,hL,l,m,g,a⟩:=h2.2.1.open;have f:Hid (Kept (ofP none) w (w2.setCell ⟨b,1,none⟩ (.int .i64 (L:Nat)))):=(d.out.any (S:=ofP none)).setCell _ (fun h=>absurd h (by show ¬ b<w.heap.size;omega)) _;clear J2 h2 k2 a g c d H1 ed;go_wp2_with fail;go_ret2;exact ⟨_,rfl,Row.nil _ _,.inl ⟨rfl,rfl⟩,f.out⟩

theorem Gi (b B n k:Nat) (v:Value) (ps:List Nat) (w:World) (h:LscB w b B v ps k) :
  Calls prog 229 #[.pointer (some ⟨b,0,none⟩),.int .i64 (n:Int)] w fun e w'=>∃ u,e=.returned (.tuple #[u,.int .i64 (fY (ps.drop k) n:Nat)])/\Row .u8 w' u (iN (ps.drop k) n)/\Lsc w' (some ⟨b,0,none⟩) B (jf (ps.drop k) n)/\Kept (fun x=>x=b) w w':=by
 have J:=B7 _ _ _ w h.lsc;have H:=aa h;obtain ⟨ao,L,j,rfl,hL,r,s,c,g⟩:=h.2.1.open;have t:k<=L:=by rw [<- hL.out];exact h.2.2.1
 have q:L<=1000000:=by rw [<- hL.out];exact h.2.2.2.1
 have hd:(ps.drop k).length=L-k:=by rw [b9,hL.out]
 rw [hd] at J;obtain ⟨d,l⟩:∃ d,d=L-k:=⟨_,rfl⟩
 rw [<- l] at J hd;by_cases h1:d<n
 ·have e1:fY (ps.drop k) (n:Int)=150:=by unfold fY;rw [ai (by omega),ah (by omega)]
  have e2:iN (ps.drop k) (n:Int)=[]:=by unfold iN;rw [e1];rfl
  have e3:jf (ps.drop k) (n:Int)=ps.drop ps.length:=by
   unfold jf;rw [ai (by omega),dZ (by rw [hd];show d<=((n:Int)).toNat;omega),dZ (leR _)]
  rw [e1,e2,e3];have g1:(n:Int) > (d:Int):=by omega
  have g2:(d:Int)<(n:Int):=by omega
  have i:=aa hL.out;clear e1 e2 e3 h g c l hd hL;go_enter func229,ntmps229;go_wp2_with fail;refine J.mono ?_;rintro e w1 ⟨rfl,k1⟩;have H1:=aa (H.out.kept k1 (fun _ _ f=>f));obtain ⟨c0,c1⟩:=H1.out.cells;have f1:=H1.out.free;have HP:=aa (H1.out.put L (by rw [i.out];exact leR _));have HK:=aa ((k1.any (S:=fun x=>x=b)).setCell ⟨b,1,none⟩ (fun _=>rfl) (.int .i64 (L:Nat)));clear J k1;go_wp2_with fail;go_ret2;exact ⟨_,rfl,Row.nil _ _,by rw [i.out];exact HP.out.lsc,HK.out⟩
 ·have e1:fY (ps.drop k) (n:Int)=0:=by unfold fY;rw [ai (by omega),ai (by omega)]
  have e2:iN (ps.drop k) (n:Int)=(ps.drop k).take n:=by unfold iN;rw [e1];rfl
  have e3:jf (ps.drop k) (n:Int)=ps.drop (k+n):=by
   unfold jf;rw [ai (by omega),iY];rfl
  rw [e1,e2,e3];obtain ⟨m,hm⟩:∃ m,m=k+n:=⟨_,rfl⟩
  rw [<- hm];have g1:¬ (n:Int) > (d:Int):=by omega
  have g2:¬ (d:Int)<(n:Int):=by omega
  have g3:(k:Int)+(n:Int)=(m:Int):=by omega
  have g4:(k:Int)<=(m:Int):=by omega
  have g5:(m:Int)<=(j:Int):=by omega
  have g6:(0:Int)<=(k:Int):=by omega
  have g7:m-k=n:=by omega
  have p:m<=L:=by omega
  have C:m<=j:=by omega
  have z:k<=m:=by omega
  have i:=aa hL.out;have y:k<=1000000:=by omega
  have A:m<=1000000:=by omega
  have HN:=aa c;have o:=aa (show k+n<=L by omega);clear e1 e2 e3 h g l hd hL hm;go_enter func229,ntmps229;go_wp2_with fail;refine J.mono ?_;rintro e w1 ⟨rfl,k1⟩;have H1:=aa (H.out.kept k1 (fun _ _ f=>f));obtain ⟨c0,c1⟩:=H1.out.cells;have f1:=H1.out.free;have HP:=aa (H1.out.put m (by rw [i.out];exact p));obtain ⟨d0,d1⟩:=HP.out.cells;have HK:=aa ((k1.any (S:=fun x=>x=b)).setCell ⟨b,1,none⟩ (fun _=>rfl) (.int .i64 (m:Nat)));have HC:=aa (Dy HP.out.2.1 o.out);clear J k1;cases ao with
  | none=>
   obtain rfl:=HN.out rfl;obtain rfl:L=0:=by omega
   obtain rfl:m=0:=by omega
   obtain rfl:k=0:=by omega
   obtain rfl:n=0:=by omega
   have a:=aa (HC.out.1 rfl);clear HC c;go_wp2_with fail;go_quiet (fail);go_wp2_with fail;go_ret2;exact ⟨_,rfl,a.out.kept' (S:=af) ((aj _ _).drewN _) (fun _ _ _ f=>f),HP.out.lsc.grew ((aj _ _).drewN _),HK.out.drewN _⟩
  | some ad=>
   by_cases hck:j=k
   ·have a:=aa (HC.out.2.1 ad rfl hck);obtain rfl:m=k:=by omega
    obtain rfl:n=0:=by omega
    subst hck;clear HC c;go_wp2_with fail;go_quiet (fail);go_wp2_with fail;go_ret2;exact ⟨_,rfl,a.out.kept' (S:=af) ((aj _ _).drewN _) (fun _ _ _ f=>f),HP.out.lsc.grew ((aj _ _).drewN _),HK.out.drewN _⟩
   ·have a:=aa (HC.out.2.2 ad rfl hck);clear HC c;go_wp2_with fail;go_quiet (fail);go_wp2_with fail;go_ret2;exact ⟨_,rfl,a.out.kept' (S:=af) ((aj _ _).drewN _) (fun _ _ _ f=>f),HP.out.lsc.grew ((aj _ _).drewN _),HK.out.drewN _⟩

theorem Ie (p:Option Addr) (B n:Nat) (bs:List Nat) (w:World) (h:Lsc w p B bs) :
  Calls prog 229 #[.pointer p,.int .i64 (n:Int)] w fun e w'=>∃ u,e=.returned (.tuple #[u,.int .i64 (fY bs n:Nat)])/\Row .u8 w' u (iN bs n)/\Lsc w' p B (jf bs n)/\Kept (ofP p) w w':=by
 rcases h with ⟨rfl,rfl⟩ | ⟨b,v,ps,k,rfl,rfl,h⟩
 ·exact B8 B n w
 ·refine (Gi b B n k v ps w h).mono ?_;rintro e w' ⟨u,he,h1,h2,h3⟩;exact ⟨u,he,h1,h2,h3.mono fun x _ e=>by cases e;rfl⟩

theorem Bl (bs:List Nat) (n:Nat):fY bs n=0\/fY bs n=150:=by
 unfold fY;rw [ai (by omega)]
 split <;> simp

theorem Bm (bs:List Nat) (n:Int):(iN bs n).length<=bs.length:=by
 unfold iN
 split
 ·rw [aO];omega
 ·simp

theorem Id (p:Option Addr) (B:Nat) (bs:List Nat) (n:Int) (w:World) (h:Lsc w p B bs) :
  Calls prog 187 #[.pointer p,.int .i64 n] w fun e w'=>∃ u,e=.returned (.tuple #[u,.int .i64 (fY bs n:Nat)])/\OwnB w' w.heap.size u (iN bs n)/\Lsc w' p B (jf bs n)/\Kept (ofP p) w w':=by
 have H:=aa h;by_cases h1:n<0
 ·have e1:fY bs n=1:=by unfold fY;rw [ah h1]
  have e2:iN bs n=[]:=by unfold iN;rw [e1];rfl
  have e3:jf bs n=bs:=by unfold jf;rw [ah h1]
  rw [e1,e2,e3];clear e1 e2 e3 h;go_enter func187,ntmps187;go_wp2_with fail;go_ret2;exact ⟨_,rfl,OwnB.nil _ _,H.out,aj _ _⟩
 ·obtain ⟨m,rfl⟩:=dY (show 0<=n by omega);have J:=Ie p B m bs w h;have hb:=(Bm bs (m:Int))
  have f:=h.len;have HE:=Bl bs m;have HL:Hid (fY bs (m:Int)≠0->iN bs (m:Int)=[]):=fun e=>ai e
  generalize iN bs (m:Int)=l at *;generalize fY bs (m:Int)=E at *;generalize jf bs (m:Int)=r at *;clear h;go_enter func187,ntmps187;go_wp2_with fail;refine J.mono ?_;rintro e w1 ⟨u,rfl,hr,a,k1⟩;have J2:=EA u l w1 hr (by omega);have HS:=aa a;have HK:=aa k1;obtain ⟨ao,L,d,rfl,_⟩:=hr.open;clear J k1 a hr;rcases HE with rfl | rfl
  ·clear HL;go_wp2_with fail;refine J2.mono ?_;rintro e w2 ⟨u2,rfl,hO,k2⟩;have c:=aa (HS.out.grew k2);have HO:=aa (hO.base HK.out.size);have b:=aa (HK.out.trans k2.any);clear J2 k2 hO;go_wp2_with fail;go_ret2;exact ⟨_,rfl,HO.out,c.out,b.out⟩
  ·obtain rfl:=HL.out (by decide);clear J2;go_wp2_with fail;go_ret2;exact ⟨_,rfl,OwnB.nil _ _,HS.out,HK.out⟩

def pp (p:Option Addr) (w:World):Nat:=match p with
 | none=>0
 | some a=>match w.cell? ⟨a.block,0,none⟩,w.cell? ⟨a.block,1,none⟩ with
  | some v,some (.int _ k)=>BB v-k.toNat
  | _,_=>0

theorem Lsc.left {w:World} {p:Option Addr} {B:Nat} {bs:List Nat} (h:Lsc w p B bs):pp p w=bs.length:=by
 rcases h with ⟨rfl,rfl⟩ | ⟨b,v,ps,k,rfl,rfl,h⟩
 ·rfl
 ·obtain ⟨c0,c1⟩:=h.cells;obtain ⟨_,_,e,_⟩:=h.2.1;unfold pp;simp only [c0,c1];rw [e,b9];rfl

def LowT {β:Type} (B:Nat) (T:Nat->Prop) (J:β->World->Prop):Prop:=∀ s A C,J s A->Kept (fun x=>T x\/B<=x) A C->J s C

theorem sf {A C:World} {B:Nat} {T:Nat->Prop} (h:Below B A C):Kept (fun x=>T x\/B<=x) A C:=
 ⟨h.os,h.tape,h.output,h.size,fun i _ hs=>h.block i (Nat.lt_of_not_le fun e=>hs (.inr e))⟩

theorem LowT.below {β:Type} {B:Nat} {T:Nat->Prop} {J:β->World->Prop} (h:LowT B T J) {s:β} {A C:World} (j:J s A) (k:Below B A C):J s C:=h s A C j (sf k)

def Eb {β:Type} (B:Nat) (J:β->World->Prop):Prop:=∀ s A l o o',J s A->B<=l->A.heap[l]? = some o->o.isCells=false->J s (A.putObj l o')

def Gn {α:Type} (n:Nat) (P:Program) (g:Nat) (lb:Array Value) (encs:α->Array Value) (X:List α->α->World->Prop) (Sb T:Nat->Prop) (S:List α->World->Prop) (w:World):Prop:=
 ∀ (l:Nat) (J Jx:List α->World->Prop) (W:World),Kept af w W->l=w.heap.size+1->W.heap.size=w.heap.size+2 ->
  LowT W.heap.size T J ->
  (∀ pre x A,J pre A->X pre x A->YieldAt Fence.wide (n-1) P l (encs x) A fun e C=>
   (e=.returned (.bool true)/\J (pre ++ [x]) C/\Kept (fun b=>Sb b\/b=l\/b+1=l) A C)\/(e=.returned (.bool false)/\Jx (pre ++ [x]) C)) ->
  J [] W ->
  CallsIn Fence.wide n P g (#[.func (.yield l) #[] #[]] ++ lb) W fun e C=>(∃ v,e=.returned v)/\((∃ s,S s C/\J s C)\/∃ s,Jx s C)

theorem pS {α:Type} {P:Program} {n:Nat} {g:Operand} {ps:Array Tmp} {assign body:Code} {Q:Exit->Act->World->Prop} {a:Act} {w:World} (h1:1<=n) {gf:Nat} {lb:Array Value}
  (hg:a.eval g=.func (.func gf) #[] lb) (eg:∀ args w,(callFunc gf args).run P w=.ok (.enter gf args) w)
  {q:α->Array Value} {X:List α->α->World->Prop} {Sb T:Nat->Prop} {S:List α->World->Prop} (H:Gn (n-1) P gf lb q X Sb T S w) (ae:∀ x,(q x).size=ps.size) (hSb:∀ b,Sb b->b<w.heap.size) (hT:∀ b,T b->b<w.heap.size)
  (hX:∀ m x A l o o',X m x A->A.heap[l]? = some o->o.isCells=false->X m x (A.putObj l o'))
  (I:List α->World->Prop) (Ix:Code->List α->World->Prop) (hI:LowT w.heap.size T I) (M:∀ c,Eb w.heap.size (Ix c)) (hS:Eb w.heap.size S) (h0:I [] w) (a₁:α->Act)
  (y:∀ (l:Nat) (x:α) (W:World) (K:Act->World->Prop),K (a₁ x) W->assign.wpIn (Fence.wide.inRound l) (n-1-1) P (Exit.then K (fun _ _ _=>False)) { tmps:=(ps.zip (q x)).foldl (fun t (p,v)=>t.setIfInBounds p v) a.tmps,defers:=[] } W)
  (hbody:∀ (l:Nat) (m:List α) (x:α) (W:World),I m W->X m x W->body.wpIn (Fence.wide.inRound l) (n-1-1) P (G5 Sb I Ix (m ++ [x]) W) (a₁ x) W)
  (hdone:∀ (D:Nat) (s:List α) (W:World),w.heap.size<=D->S s W->I s W->W.heap[D]? = some (.deferred (some []))->Q .normal { a with defers:={ target:=.collected D,args:=#[] } :: a.defers } W)
  (hstop:∀ (D:Nat) (c:Code) (s:List α) (W:World),w.heap.size<=D->Ix c s W->W.heap[D]? = some (.deferred (some []))->c.wpIn Fence.wide n P Q { a with defers:={ target:=.collected D,args:=#[] } :: a.defers } W) :
  (Code.rangeFunc g ps assign body).wpIn Fence.wide n P Q a w:=by
 refine wpIn_rangeFunc fun fn Y=>?_
 obtain ⟨f,d⟩:∃ f:LoopState->Option Code->Loop,f=fun st pe=>{ state:=st,pending:=pe,fn,tmps:=a.tmps,params:=ps,assign,body,defers:=w.heap.size }:=⟨_,rfl⟩
 obtain ⟨W1,B⟩:∃ W1,W1=(w.alloc (.deferred (some []))).alloc (.loop (f .ready none)):=⟨_,rfl⟩
 have O:W1.heap.size=w.heap.size+2:=by rw [B];simp
 have N:Kept af w W1:=by rw [B];exact ((aj _ w).alloc _).alloc _
 have U:Books w.heap.size (f .ready none) W1:=by
  rw [B];refine ⟨?_,(Below.heap_alloc _ _ _ (by simp)).trans (World.alloc_heap_new w _)⟩;have:=World.alloc_heap_new (w.alloc (.deferred (some []))) (.loop (f .ready none))
  rwa [World.size_alloc] at this
 refine ⟨w.heap.size+1,[{ target:=.collected w.heap.size,args:=#[] }],W1,{ target:=.fn (.func gf) lb,args:=#[.func (.yield (w.heap.size+1)) #[] #[]] },W1,gf,#[.func (.yield (w.heap.size+1)) #[] #[]] ++ lb,W1,?_,?_,fun _ _=>trivial,?_,fun _=>h1,?_⟩
 ·rw [B,d];exact run_enterLoop_outer _ _ _ _ _
 ·simp only [resolve,hg];simp [go_sem]
 ·simp [invoke,go_sem,eg]
 ·have z:∀ (j:Option Code) (A:World),Books w.heap.size (f .busy none) A->∃ C,(Instr.endRound (w.heap.size+1) j).run P A=.ok (.bool j.isNone) C/\Books w.heap.size (f (if j.isNone then .ready else .done) j) C/\Below w.heap.size A C/\Kept (fun b=>b=w.heap.size+1) A C/\∃ o',C=A.putObj (w.heap.size+1) o':=fun j A hb=>by
   refine ⟨_,run_endRound (P:=P) j hb.1,?_,rE _ (by omega),pk _ _ _,_,rfl⟩;have:=hb.put { f .busy none with state:=if j.isNone then .ready else .done,pending:=j };rw [d] at this ⊢;exact this
  have E:∀ {β:Type} {J:β->World->Prop} {r:Loop},LowT w.heap.size T J->LowT W1.heap.size T (fun s A=>J s A/\Books w.heap.size r A):=fun hJ s A C h k=>by
   rw [O] at k;refine ⟨hJ s A C h.1 (k.mono (fun x _ e=>?_)),?_⟩
   ·rcases e with e | e
    ·exact .inl e
    ·exact .inr (by omega)
   ·have hl:=h.2.lt;refine ⟨(k.block _ (by omega) ?_).trans h.2.1,(k.block _ (by omega) ?_).trans h.2.2⟩
    all_goals
     rintro (e | e)
     ·have:=hT _ e;omega
     ·omega
  refine (H (w.heap.size+1) (fun s A=>I s A/\Books w.heap.size (f .ready none) A) (fun s A=>∃ c,Ix c s A/\Books w.heap.size (f .done (some c)) A) W1 N rfl O (E hI) ?_ ⟨hI.below h0 (ju N (leR _)),U⟩).mono ?_
  ·rintro m x A ⟨hi,hb⟩ hx;have hy:=run_yield (P:=P) (args:=q x) hb.1 (by rw [d];exact ae x);rw [d] at hy;refine ⟨fn,_,assign,body,hy,roundIn_of_wpIn Y (y _ x A _ ⟨_,run_beginRound hb.1 (by rw [d]),?_⟩)⟩;have V:=hb.put { f .ready none with state:=.busy };have ag:=hX m x A _ _ (.loop { f .ready none with state:=.busy }) hx hb.1 rfl;have Z:=hI.below hi (rE (l:=w.heap.size+1) (.loop { f .ready none with state:=.busy }) (by omega));have ab:=pk A (w.heap.size+1) (.loop { f .ready none with state:=.busy })
   have F:∀ C,Kept Sb (A.putObj (w.heap.size+1) (.loop { f .ready none with state:=.busy })) C->Books w.heap.size (f .busy none) C:=fun C k=>by
    have:=V.kept k hSb;rw [d] at this ⊢;exact this
   refine wpIn_mono (hbody _ m x _ Z ag) ?_;generalize A.putObj (w.heap.size+1) (.loop { f .ready none with state:=.busy })=A2 at *;have L:∀ (c:Code) (C:World),Kept Sb A2 C->Ix c (m ++ [x]) C->∃ v C',(Instr.endRound (w.heap.size+1) (some c)).run P C=.ok v C'/\((Ending.returned v=.returned (.bool true)/\(I (m ++ [x]) C'/\Books w.heap.size (f .ready none) C')/\Kept (fun b=>Sb b\/b=w.heap.size+1\/b+1=w.heap.size+1) A C')\/(Ending.returned v=.returned (.bool false)/\∃ c,Ix c (m ++ [x]) C'/\Books w.heap.size (f .done (some c)) C')):=fun c C k hc=>by
    obtain ⟨C',hr,G,_,_,o',rfl⟩:=z (some c) C (F C k);exact ⟨_,_,hr,.inr ⟨rfl,c,M c _ _ _ _ o' hc (by omega) (F C k).1 rfl,G⟩⟩
   rintro e a3 C hp;cases e with
   | normal=>
    obtain ⟨k,aa⟩:=hp;obtain ⟨C',hr,G,ad,ac,_⟩:=z none C (F C k);exact ⟨_,_,hr,.inl ⟨rfl,⟨hI.below aa ad,G⟩,((ab.mono (fun _ _ e=>.inr (.inl e))).next k (fun _ _ e=>.inl e)).next ac (fun _ _ e=>.inr (.inl e))⟩⟩
   | ret=>exact L _ C hp.1 hp.2
   | exit i=>exact L _ C hp.1 hp.2
   | goto t=>exact L _ C hp.1 hp.2
   | panic c=>exact hp.elim
   | outgrown=>exact hp.elim
  ·rintro e C ⟨⟨v,rfl⟩,(⟨s,R,hi,hb⟩ | ⟨s,c,hi,hb⟩)⟩
   ·refine ⟨_,_,run_endLoop (P:=P) hb.1 (by rw [d];simp),?_⟩;rw [d] at hb ⊢;exact hdone _ s _ (leR _) (hS _ _ _ _ _ R (by omega) hb.1 rfl) (hI.below hi (rE _ (by omega))) ((World.putObj_heap_other (by omega)).trans hb.2)
   ·refine ⟨_,_,run_endLoop (P:=P) hb.1 (by rw [d];simp),?_⟩;rw [d] at hb ⊢;exact hstop _ c s _ (leR _) (M c _ _ _ _ _ hi (by omega) hb.1 rfl) ((World.putObj_heap_other (by omega)).trans hb.2)

open Go.Shelf

def Aw:Go.Shelf.Ren:=⟨fun | 122=>115 | 215=>172 | n=>n,fun | 3=>3 | 4=>4 | n=>n,fun n=>n⟩

theorem Iu:Lays.n122 prog Aw:={
 mixed:=by kernel_rfl,
 f122:=func115.trans (congrArg some (by kernel_rfl)),
 f215:=func172.trans (congrArg some (by kernel_rfl)),
 t3:=underlying3,
 a3:=Tryz.isAgg3,
 z3:=Tryz.sizeOf3,
 v3:=Tryz.zeroValue3,
 t4:=underlying4,
 a4:=Tryz.isAgg4,
 z4:=Tryz.sizeOf4,
 v4:=Tryz.zeroValue4 }

attribute [local go_sem] Oper.semAt_some

def eJ (L:Nat) (r:Nat):List Nat:=(List.range (L-r)).map fun j=>L-1-j

theorem sy (L:Nat):eJ L L=[]:=by simp [eJ]

theorem kr {L j:Nat} (h:j<L):eJ L j=eJ L (j+1) ++ [j]:=by
 unfold eJ;rw [show L-j=(L-(j+1))+1 by omega,j5,dt,List.map_singleton,show L-1-(L-(j+1))=j by omega]

theorem oX (L r:Nat):(eJ L r).length=L-r:=by simp [eJ]

theorem Gw (F:Fence) (n:Nat) (hf:F.fn 173) (A:F.round=none) (hn:1<=n) (l Bs L:Nat) (g:Nat->Nat) (v:Value) (zs:List Nat) (hL:Hid (zs.length=L)) (hg:Hid (∀ j,zs.getD j 0=g j)) (S:Nat->Prop) (hS:S Bs) (w:∀ b,v.ownBlock=some b->0<L->S b)
  (J Jx:List (Fin L)->World->Prop)
  (hY:∀ a (x:Fin L) W,J a W->a.length<L->YieldAt F (n-1) prog l #[.int .i64 (x.val:Nat),.int .u64 (g x.val:Nat)] W fun e W'=>
   (e=.returned (.bool true)/\J (a ++ [x]) W'/\KeepB S W W')\/(e=.returned (.bool false)/\Jx (a ++ [x]) W'))
  (W:World) (s:W.cell? ⟨Bs,0,none⟩=some v) (hr:Row .u64 W v zs) (h0:J [] W) :
  CallsIn F n prog 173 #[.func (.yield l) #[] #[],.pointer (some ⟨Bs,0,none⟩)] W fun e W'=>(∃ v,e=.returned v) /\
   ((∃ ys,ys.map Fin.val=eJ L 0/\J ys W')\/(∃ a,(∃ r,r<L/\a.map Fin.val=eJ L r)/\Jx a W')):=by
 obtain ⟨ao,m,B,rfl,hN,c1,c2,c3,f⟩:=hr.open;obtain rfl:m=L:=by rw [<- hN.out];exact hL.out
 have d:Hid (∀ i,i<m->NumAt .u64 W ao zs i):=f;clear f hr;refine callsIn_of_wp func173 rfl hf ?_ A;simp only [ntmps173,iF,cI,eS,Nat.reduceAdd,Nat.reduceSub,iB,iC,iE,iD,bw,fd]
 gi_wp2
 gi_loopw [3] (fun i wr=>∃ r:Nat,r<=m/\i=.int .i64 ((r:Int)-1)/\(∃ a:List (Fin m),Hid (a.map Fin.val=eJ m r)/\J a wr)/\KeepB S W wr)
  (fun i _=>(intOf i+1).toNat)
 case atStart=>exact ⟨m,leR _,by simp,⟨[],by simp [Hid,sy],h0⟩,KeepB.refl _ _⟩
 case round=>
  obtain ⟨r,hr,rfl,⟨a,c,q⟩,k⟩:=hrel;cases r with
  | zero=>
   gi_wp2
   go_end0
   exact ⟨⟨_,rfl⟩,.inl ⟨a,c.out,q⟩⟩
  | succ j=>
   rw [show (((j+1:Nat):Int)-1)=(j:Int) by omega];obtain ⟨b,off,rfl,hc⟩:=d.out j (by omega);have C:wr.cell? ⟨b,off+j,none⟩=some (.int .u64 (g j:Nat)):=by
    rw [k.cell (p:=⟨b,off+j,none⟩) (w b rfl (by omega)),hc,hg.out]
   have y:=(k.cell (p:=⟨Bs,0,none⟩) hS).trans s;have o:a.length<m:=by
    have:=congrArg List.length c.out;rw [cf,oX] at this;omega
   obtain ⟨fn,tmps,assign,body,hy,hR⟩:=hY a ⟨j,by omega⟩ wr q o;dsimp only at hy;clear hc d
   gi_wp2
   refine hR.mono ?_;rintro e W3 (⟨rfl,t,z⟩ | ⟨rfl,h⟩)
   ·gi_wp2
    go_roundw
    case rel=>exact ⟨j,by omega,by simp,⟨a ++ [⟨j,by omega⟩],by unfold Hid;rw [dt,c.out,kr (show j<m by omega)];rfl,t⟩,k.trans z⟩
    case measure=>simp [intOf]
   ·gi_wp2
    refine bodyPost_ret (results_none rfl _ _ _) rfl ?_;exact ⟨⟨_,rfl⟩,.inr ⟨_,⟨j,by omega,by rw [dt,c.out,kr (show j<m by omega)];rfl⟩,h⟩⟩

theorem Cr (F:Fence) (n:Nat) (h5:F.fn 116) (c:F.round=none) (ao:Option Addr) (b a:Nat) (w:World) :
  CallsIn F n prog 116 #[.slice ao b a] w fun e w'=>e=.returned (.func (.func 173) #[] #[.pointer (some ⟨w.heap.size,0,none⟩)])/\w'=w.alloc (.cells #[.slice ao b a] 23):=by
 refine callsIn_of_wp func116 rfl h5 ?_ c;simp only [ntmps116,iF,cI,eS,Nat.reduceAdd,Nat.reduceSub,iB,iC,iE,iD,bw,fd]
 gi_wp2
 go_ret;exact ⟨rfl,rfl⟩

theorem yq (F:Fence) (n:Nat) (hf:F.fn 173) (e:F.round=none) (hn:1<=n) (Bs L:Nat) (g:Nat->Nat) (v:Value) (zs:List Nat) (hL:zs.length=L) (hg:∀ j,zs.getD j 0=g j) (S:Nat->Prop) (hS:S Bs) (a:∀ b,v.ownBlock=some b->0<L->S b)
  (w:World) (d:∀ k,S k->k<w.heap.size) (c:w.cell? ⟨Bs,0,none⟩=some v) (hr:Row .u64 w v zs) :
  SeqStopsK F n prog 173 #[.pointer (some ⟨Bs,0,none⟩)] (fun x:Fin L=>#[Value.int .i64 (x.val:Nat),Value.int .u64 (g x.val:Nat)]) (KeepB S) (fun ys=>ys.map Fin.val=eJ L 0) (fun f=>∃ r,r<L/\f.map Fin.val=eJ L r) L w:=fun l J Jx W hW _ _ hY h0=>by
 have hk:KeepB S w W:=fun k hk=>hW.block k (d k hk)
 exact Gw F n hf e hn l Bs L g v zs hL hg S hS a J Jx hY W ((hk.cell (p:=⟨Bs,0,none⟩) hS).trans c) (hk.row (fun b hb hp=>a b hb (by omega)) hr) h0

attribute [local go_sem] Oper.semAt_some

theorem AP (ao:Option Addr) (n a:Nat) (xs:List Nat) (w:World) (h:Row .u64 w (.slice ao n a) xs) (hd:Digs xs) :
  Calls prog 114 #[.slice ao n a] w fun r w'=>r=.returned (.slice ao (ar (val xs)) a)/\w'=w:=by
 refine (xi _ xs w h).mono ?_;rintro e w' ⟨m,v',rfl,hm,hr,hz,ht,ho,⟨c,n',b,e1,rfl⟩,rfl⟩;have e2:=nD (hd.take m) (iM hm ht);rw [iW (B:=18446744073709551616) hm hz,aO,cL hm] at e2;cases e1
 rw [e2];exact ⟨rfl,rfl⟩

theorem jX {xs:List Nat} (hd:Digs xs):ar (val xs)<=xs.length:=(aG _ _).2 (aE (by omega) hd)

theorem qJ {xs:List Nat} (hd:Digs xs):∃ ys,ys=xs.take (ar (val xs))/\ys.length=ar (val xs)/\Digs ys/\val ys=val xs/\(∀ j,j<ar (val xs)->ys.getD j 0=xs.getD j 0):=by
 have hl:=jX hd;refine ⟨_,rfl,by rw [aO];omega,hd.take _,?_,fun j hj=>?_⟩
 ·refine iW hl (fun i hi=>?_);rw [<- cS (by omega) hd i];unfold dig;rw [bj,iI];exact (aG _ _).1 hi
 ·rw [aA,aA,dV,ah hj]

theorem Fl (x y:Nat) (w:World):Calls prog 117 #[.int .u64 x,.int .u64 y] w fun r w'=>r=.returned (.int .i64 (dR x y))/\w'=w:=by
 rcases Nat.lt_trichotomy x y with h | h | h
 ·rw [gS h];have h':(x:Int)<(y:Int):=by omega
  go_enter func117,ntmps117;go_wp2;go_ret;exact ⟨rfl,rfl⟩
 ·rw [lF h];subst h;go_enter func117,ntmps117;go_wp2;go_ret;exact ⟨rfl,rfl⟩
 ·rw [jH h];have h':¬ (x:Int)<(y:Int):=by omega
  have a:(x:Int) > (y:Int):=by omega
  go_enter func117,ntmps117;go_wp2;go_ret;exact ⟨rfl,rfl⟩

theorem EP (x y:Nat):Lib.compareInt (x:Int) (y:Int)=dR x y:=by
 unfold Lib.compareInt dR;by_cases h:x<y
 ·rw [ah h,ah (by omega)]
 ·rw [ai h,ai (by omega)];by_cases h2:x=y
  ·rw [ah h2,ai (by omega)]
  ·rw [ai h2,ah (by omega)]

theorem yh {A B:Nat} (h:ar A≠ar B):dR (ar A) (ar B)=dR A B:=by
 rcases Nat.lt_or_gt_of_ne h with k | k
 ·rw [gS k,gS];have h1:=(aG A _).1 (leR _);have h2:¬ ar B<=ar A:=by omega
  have h3:=mt (aG B (ar A)).2 h2;omega
 ·rw [jH k,jH];have h1:=(aG B _).1 (leR _);have h2:¬ ar A<=ar B:=by omega
  have h3:=mt (aG A (ar B)).2 h2;omega

theorem EQ {a b:List Nat} {k:Nat} (ha:Digs a) (hb:Digs b) (hl:a.length=b.length) (hk:k<a.length) (he:∀ j,k<j->j<a.length->a.getD j 0=b.getD j 0) :
  a.getD k 0≠b.getD k 0->dR (a.getD k 0) (b.getD k 0)=dR (val a) (val b):=by
 intro d;have ea:=aW 18446744073709551616 a (k+1) (by omega);have eb:=aW 18446744073709551616 b (k+1) (by omega);have c:a.drop (k+1)=b.drop (k+1):=by
  apply List.ext_getElem?;intro i;rw [et,et];by_cases hi:k+1+i<a.length
  ·have:=he (k+1+i) (by omega) hi;rw [aA,aA,aQ hi,aQ (show k+1+i<b.length by omega)] at this;rw [aQ hi,aQ (show k+1+i<b.length by omega)];exact congrArg some this
  ·rw [gF (by omega),gF (by omega)]
 have ta:a.take (k+1)=a.take k ++ [a.getD k 0]:=by rw [List.take_add_one,aA,aQ hk];rfl
 have tb:b.take (k+1)=b.take k ++ [b.getD k 0]:=by rw [List.take_add_one,aA,aQ (show k<b.length by omega)];rfl
 rw [ta,cZ,aO,cL (by omega)] at ea;rw [tb,cZ,aO,cL (by omega),<- c] at eb;have la:val (a.take k)<18446744073709551616^k:=by
  have:=aE (by omega) (ha.take k)
  rwa [aO,cL (by omega)] at this
 have lb:val (b.take k)<18446744073709551616^k:=by
  have:=aE (by omega) (hb.take k)
  rwa [aO,cL (by omega)] at this
 generalize a.getD k 0=x at *;generalize b.getD k 0=y at *;generalize 18446744073709551616^(k+1)*val (a.drop (k+1))=H at *;generalize val (a.take k)=p at *;generalize val (b.take k)=q at *;generalize 18446744073709551616^k=M at *;rcases Nat.lt_or_gt_of_ne d with h | h
 ·have:M*(x+1)<=M*y:=bi _ h;rw [aJ,bD] at this;rw [gS h,gS (by omega)]
 ·have:M*(y+1)<=M*x:=bi _ h;rw [aJ,bD] at this;rw [jH h,jH (by omega)]

theorem mG {x y:Nat}:dR x y=0↔x=y:=by
 unfold dR;by_cases h:x<y
 ·rw [ah h];constructor <;> intro h2 <;> omega
 ·rw [ai h];by_cases h2:x=y
  ·simp [h2]
  ·rw [ai h2];constructor <;> intro h3 <;> omega

end Go.Proofs.YtkaojflnghfmcaaGreatDoor
