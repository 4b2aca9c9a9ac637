/- Put together of: Lsc4 Lsc5 Nob1 Lsc6 Law21 Law22. -/
import Derived.Test.YtkaojflnghfmcaaGreatDoorQC24
import Derived.Laws.OwnMore

namespace Go.Proofs.YtkaojflnghfmcaaGreatDoor
open _root_.Go.Proofs.Tryz
set_option maxRecDepth 100000
set_option maxHeartbeats 4000000
open Go.RowKit Go.Shelf

attribute [local go_sem] Oper.semAt_some

theorem zR {x:Nat} {r:List Nat} (hr:Digs r 256) {t s:Nat} (hs:s<8) (ht:t+s=8*(r.length+1)):bev (x%2^(8-s) :: r)=bev (x :: r)%2^t:=by
 have e:∀ y,bev (y :: r)=y*256^r.length+bev r:=fun y=>by
  have:=nS [y] r;simpa [bev] using this
 have hp:2^t=256^r.length*2^(8-s):=by
  rw [show (256:Nat)=2^8 from rfl,<- bh,<- aN]
  congr 1
  omega
 have hl:=mC hr;have a:0<256^r.length:=aC (by omega);rw [e,e,hp,j7,aF x,i9,ax hl,fH a,bj hl,aU,aF (x%_)];omega

theorem zH {x s:Nat} (hs:s<8):x &&& (255/2^s)=x%2^(8-s):=by
 have e:255/2^s=2^(8-s)-1:=by
  obtain rfl | rfl | rfl | rfl | rfl | rfl | rfl | rfl:s=0\/s=1\/s=2\/s=3\/s=4\/s=5\/s=6\/s=7:=by omega
  all_goals rfl
 rw [e,Nat.and_two_pow_sub_one_eq_mod]

def pU (t z:Nat) (bs:List Nat) (k:Nat):Nat:=bev ((bs.drop (k*z)).take z)%2^t

def DrwX (p:Option Addr) (B t z L:Nat) (bs:List Nat) (N:Nat) (pre:List (Nat × Value)) (x:Nat × Value) (A:World):Prop:=
 x.1=pre.length+1/\(pre.length+1)*z<=bs.length/\(Row .u64 A x.2 (digs (pU t z bs pre.length) L)/\∀ b,x.2.ownBlock=some b->N<=b)/\Lsc A p B (bs.drop ((pre.length+1)*z))

def Ih (p:Option Addr) (B z:Nat) (bs:List Nat) (s:List (Nat × Value)) (A:World):Prop:=s.length*z<=bs.length/\bs.length<(s.length+1)*z/\Lsc A p B []

theorem DrwX.put {p:Option Addr} {B t z L l N:Nat} {bs:List Nat} {a:List (Nat × Value)} {x:Nat × Value} {A:World} {o:Obj} (o':Obj) (h:DrwX p B t z L bs N a x A) (hl:A.heap[l]? = some o) (ho:o.isCells=false):DrwX p B t z L bs N a x (A.putObj l o'):=
 ⟨h.1,h.2.1,⟨rS o' h.2.2.1.1 hl ho,h.2.2.1.2⟩,h.2.2.2.put o' hl ho⟩

theorem Gg (p:Option Addr) (t n:Nat) (w:World) (ht:t<=1000000) :
  Calls prog 131 #[.pointer p,.int .i64 (t:Int),.int .i64 (n:Int)] w fun e w'=>e=.returned (.func (.func 186) #[] #[.pointer (some ⟨w.heap.size,0,none⟩),.pointer (some ⟨w.heap.size+3,0,none⟩),.pointer (some ⟨w.heap.size+1,0,none⟩),.pointer (some ⟨w.heap.size+2,0,none⟩)]) /\
   Boxed w' w.heap.size 39 (.pointer p)/\Boxed w' (w.heap.size+1) 3 (.int .i64 (t:Int))/\Boxed w' (w.heap.size+2) 3 (.int .i64 (n:Int))/\Boxed w' (w.heap.size+3) 3 (.int .i64 ((t+7)/8:Nat))/\Kept af w w'/\w'.heap.size=w.heap.size+4:=by
 obtain ⟨z,hz⟩:∃ z,z=(t+7)/8:=⟨_,rfl⟩
 rw [<- hz];have g1:((t:Int)+8-1)/8=(z:Int):=by omega
 have g2:((t:Int)+8-1).tdiv 8=(z:Int):=by rw [Int.tdiv_eq_ediv_of_nonneg (by omega)];exact g1
 have b0:=(((Boxed.new w 39 (.pointer p)).alloc (.cells #[.int .i64 (t:Int)] 3)).alloc (.cells #[.int .i64 (n:Int)] 3)).alloc (.cells #[.int .i64 (z:Int)] 3);have b1:=((Boxed.new (w.alloc (.cells #[.pointer p] 39)) 3 (.int .i64 (t:Int))).alloc (.cells #[.int .i64 (n:Int)] 3)).alloc (.cells #[.int .i64 (z:Int)] 3);have b2:=(Boxed.new ((w.alloc (.cells #[.pointer p] 39)).alloc (.cells #[.int .i64 (t:Int)] 3)) 3 (.int .i64 (n:Int))).alloc (.cells #[.int .i64 (z:Int)] 3);have b3:=Boxed.new (((w.alloc (.cells #[.pointer p] 39)).alloc (.cells #[.int .i64 (t:Int)] 3)).alloc (.cells #[.int .i64 (n:Int)] 3)) 3 (.int .i64 (z:Int));simp only [World.size_alloc] at b1 b2 b3
 have c1:((w.alloc (.cells #[.pointer p] 39)).alloc (.cells #[.int .i64 (t:Int)] 3)).cell? ⟨w.heap.size+1,0,none⟩=some (.int .i64 (t:Int)):=by
  have:=(Boxed.new (w.alloc (.cells #[.pointer p] 39)) 3 (.int .i64 (t:Int))).cell
  rwa [World.size_alloc] at this
 have f:=(((Boxed.new (w.alloc (.cells #[.pointer p] 39)) 3 (.int .i64 (t:Int))).alloc (.cells #[.int .i64 (n:Int)] 3)).cell)
 rw [World.size_alloc] at f;have a:=aa b0;have b:=aa b1;have c:=aa b2;have d:=aa b3;have c3:=b3.cell;have f3:=b3.frozen;clear hz b0 b1 b2 b3;go_enter func131,ntmps131;go_wp2_with fail;go_ret;exact ⟨rfl,a.out,b.out,c.out,d.out,((((aj af w).alloc _).alloc _).alloc _).alloc _,by simp⟩

structure BtwD (W wr:World) (p:Option Addr) (B z k bp bz bt bn t L:Nat) (bs:List Nat):Prop where
 few:k*z<=bs.length
 scr:Lsc wr p B (bs.drop (k*z))
 pb:Boxed wr bp 39 (.pointer p)
 zb:Boxed wr bz 3 (.int .i64 (z:Nat))
 tb:Boxed wr bt 3 (.int .i64 (t:Nat))
 nb:Boxed wr bn 3 (.int .i64 (L:Nat))
 size:W.heap.size<=wr.heap.size

theorem BtwD.kept {S:Nat->Prop} {W wr w':World} {p:Option Addr} {B z k bp bz bt bn t L:Nat} {bs:List Nat} (b:BtwD W wr p B z k bp bz bt bn t L bs) (kk:Kept S wr w') (hB:∀ x,x<B->¬ S x) (h1:¬ S bp) (h2:¬ S bz) (h3:¬ S bt) (h4:¬ S bn):BtwD W w' p B z k bp bz bt bn t L bs:=
 ⟨b.few,b.scr.kept kk hB,eF b.pb kk h1,eF b.zb kk h2,eF b.tb kk h3,eF b.nb kk h4,aR b.size kk.size⟩

theorem BtwD.next {S:Nat->Prop} {W wr w':World} {p:Option Addr} {B z k bp bz bt bn t L:Nat} {bs:List Nat} (b:BtwD W wr p B z k bp bz bt bn t L bs) (kk:Kept S wr w') (hf:(k+1)*z<=bs.length) (hs:Lsc w' p B (bs.drop ((k+1)*z))) (h1:¬ S bp) (h2:¬ S bz) (h3:¬ S bt) (h4:¬ S bn):BtwD W w' p B z (k+1) bp bz bt bn t L bs:=
 ⟨hf,hs,eF b.pb kk h1,eF b.zb kk h2,eF b.tb kk h3,eF b.nb kk h4,aR b.size kk.size⟩

theorem D5 (n:Nat) (hn:1<=n) (p:Option Addr) (B t z s L bp bz bt bn:Nat) (bs:List Nat) (w:World) (Sb:Nat->Prop) (hz:1<=z) (am:t+s=8*z) (ak:s<8) (hL:L<=300) (aL:t<=64*L)
  (I:Lsc w p B bs) (hd:Digs bs 256) (hp:Boxed w bp 39 (.pointer p)) (U:Boxed w bz 3 (.int .i64 (z:Nat))) (S:Boxed w bt 3 (.int .i64 (t:Nat))) (P:Boxed w bn 3 (.int .i64 (L:Nat)))
  (hB:B<=w.heap.size) (lp:B<=bp) (lz:B<=bz) (lt:B<=bt) (ln:B<=bn) (hSb:∀ b,Sb b->B<=b/\b<w.heap.size) (sp:¬ Sb bp) (sz:¬ Sb bz) (st:¬ Sb bt) (sn:¬ Sb bn) :
  Gn n prog 186 #[.pointer (some ⟨bp,0,none⟩),.pointer (some ⟨bz,0,none⟩),.pointer (some ⟨bt,0,none⟩),.pointer (some ⟨bn,0,none⟩)] (fun x:Nat × Value=>#[.int .i64 (x.1:Nat),x.2]) (DrwX p B t z L bs w.heap.size) Sb (ofP p) (Ih p B z bs) w:=by
 rintro l J Jx W o ag al hJ hY h0;have aq:=hp.lt;have av:=U.lt;have au:=S.lt;have ap:=P.lt;have H0:Hid (BtwD W W p B z 0 bp bz bt bn t L bs):=⟨by omega,by rw [ja];exact I.grew o,km hp o,km U o,km S o,km P o,leR _⟩
 have aS:=I.len;have HD:=aa hd;have V:=aa h0;have G:Hid (∀ x,ofP p x->x<B):=fun x hx=>(I.inP hx).1
 have c:Hid (B<=w.heap.size/\B<=bp/\B<=bz/\B<=bt/\B<=bn/\bp<w.heap.size/\bz<w.heap.size/\bt<w.heap.size/\bn<w.heap.size/\l=w.heap.size+1/\W.heap.size=w.heap.size+2):=⟨hB,lp,lz,lt,ln,aq,av,au,ap,ag,al⟩
 have A:Hid (t+s=8*z/\t<=64*L/\1<=z):=⟨am,aL,hz⟩
 have gs:(8:Int)*(z:Int)-(t:Int)=(s:Int):=by omega
 obtain ⟨y,hy⟩:∃ y,y=255/2^s:=⟨_,rfl⟩
 have gy:(255:Int)/2^s=(y:Int):=by rw [hy];simp
 have aM:y<256:=by rw [hy];exact fF (ew _ _) (by omega)
 have HY:=aa hy;have aQ:(0:Int)<=(s:Int):=by omega
 have U:z<=2401:=by omega
 clear I hd hp S P o h0 hB lp lz lt ln aq av au ap ag al hy;refine callsIn_of_wp func186 rfl trivial ?_ rfl;simp only [ntmps186,iF,cI,eS,Nat.reduceAdd,Nat.reduceSub,iB,iC,iE,iD,bw,fd];refine wpIn_wide.2 ?_;go_wp2_with fail;refine (wpIn_wide (n:=n)).1 ?_
 gi_loopw [6] (fun iv wr=>∃ (k:Nat) (m:List (Nat × Value)),iv=.int .i64 ((k+1:Nat):Int)/\Hid (m.length=k)/\Hid (J m wr)/\Hid (BtwD W wr p B z k bp bz bt bn t L bs)) (fun iv _=>1000002-(intOf iv).toNat)
 case atStart=>exact ⟨0,[],rfl,rfl,V.out,H0.out⟩
 case round=>
  clear V H0;obtain ⟨k,m,rfl,HP,HJ,HB⟩:=hrel;obtain ⟨j,hj⟩:∃ j,j=k+1:=⟨_,rfl⟩
  rw [<- hj];have Z:=aa hj;have aW:k<=1000000:=by
   have h1:=HB.out.few;have h2:k*1<=k*z:=bi _ A.out.2.2;omega
  have aV:j<=1000001:=by omega
  have gj:IntKind.i64.wrap ((j:Int)+1)=(j:Int)+1:=by rw [IntKind.wrap_i64];omega
  clear hj;have J1:=Id p B (bs.drop (k*z)) z wr HB.out.scr;have cp:=HB.out.pb.cell;have cz:=HB.out.zb.cell;by_cases hlen:(bs.drop (k*z)).length<z
  ·have t1:fY (bs.drop (k*z)) (z:Int)=150:=by unfold fY;rw [ai (by omega),ah (by omega)]
   have t2:jf (bs.drop (k*z)) (z:Int)=[]:=by unfold jf;rw [ai (by omega)];exact dZ (by show _<=((z:Int)).toNat;omega)
   rw [t1,t2] at J1;have az:Hid (bs.length<(k+1)*z):=by unfold Hid;rw [b9] at hlen;rw [kh];have:=HB.out.few;omega
   clear t1 t2 hlen
   gi_wp2_with fail
   refine ⟨trivial,?_⟩;refine (callsIn_wide.2 J1).mono ?_;rintro e w3 ⟨u,rfl,hO,h3,k3⟩;have F:=aa (hJ _ _ _ HJ.out (k3.mono fun _ _ e=>.inl e));obtain ⟨xo,xc,rfl⟩:=dg hO;have aA:=aa h3;clear J1 hO h3 k3
   gi_wp2_with fail
   refine bodyPost_ret (results_none rfl _ _ _) rfl ?_;exact ⟨⟨_,rfl⟩,.inl ⟨m,⟨by rw [HP.out];exact HB.out.few,by rw [HP.out];exact az.out,aA.out⟩,F.out⟩⟩
  ·have t1:fY (bs.drop (k*z)) (z:Int)=0:=by unfold fY;rw [ai (by omega),ai (by omega)]
   have D:(k+1)*z<=bs.length:=by rw [b9] at hlen;rw [kh];have:=HB.out.few;omega
   have t2:jf (bs.drop (k*z)) (z:Int)=bs.drop ((k+1)*z):=by unfold jf;rw [ai (by omega),iY,kh];rfl
   have t3:iN (bs.drop (k*z)) (z:Int)=(bs.drop (k*z)).take z:=by unfold iN;rw [t1];rfl
   rw [t1,t2,t3] at J1;obtain ⟨x0,tl,E⟩:∃ x0 tl,(bs.drop (k*z)).take z=x0 :: tl:=by
    cases hc:(bs.drop (k*z)).take z with
    | nil=>
     have e1:=congrArg List.length hc;rw [aO] at e1;have e2:([]:List Nat).length=0:=rfl;omega
    | cons a b=>exact ⟨a,b,rfl⟩
   have H:Digs (x0 :: tl) 256:=by rw [<- E];exact (HD.out.drop _).take _
   have T:tl.length+1=z:=by
    have e1:=congrArg List.length E;rw [aO,cI] at e1;omega
   rw [E] at J1;have an:x0<256:=H.head;have e6:=u8_and_nat x0 y an aM;obtain ⟨q,hq⟩:∃ q,q=x0 &&& y:=⟨_,rfl⟩
   rw [<- hq] at e6;have R:q=x0%2^(8-s):=by rw [hq,HY.out];exact zH ak
   have aK:q<256:=by rw [R];exact fF (Nat.mod_le _ _) an
   have HV:Hid (bev (q :: tl)=pU t z bs k):=by unfold Hid pU;rw [E,R];exact zR H.tail ak (by rw [T];exact am)
   have aw:Hid (Digs (q :: tl) 256):=fun d hd=>by
    rcases fC.1 hd with rfl | hd
    ·exact aK
    ·exact H.tail d hd
   have aP:Hid ((q :: tl).length=z):=by unfold Hid;rw [cI];exact T
   have v:=aa D;clear t1 t2 t3 hlen hq R E H D
   gi_wp2_with fail
   refine ⟨trivial,?_⟩;refine (callsIn_wide.2 J1).mono ?_;rintro e w3 ⟨u,rfl,hO,h3,k3⟩;have F:=aa (hJ _ _ _ HJ.out (k3.mono fun _ _ e=>.inl e));have B3:=aa (HB.out.next k3 v.out h3 (fun e=>by have:=G.out _ e;have:=c.out;omega) (fun e=>by have:=G.out _ e;have:=c.out;omega) (fun e=>by have:=G.out _ e;have:=c.out;omega) (fun e=>by have:=G.out _ e;have:=c.out;omega));have C:w3.ownsRow wr.heap.size 5 1 u z ((x0 :: tl).map fun a:Nat=>Value.int .u8 (a:Int)):=by
    have:=hO;unfold OwnB OwnN at this;rw [cI,T] at this;exact this
   obtain ⟨g,i,rfl⟩:∃ g i,u=.slice (some ⟨g,0,none⟩) z i:=by
    rcases C.2 with ⟨_,e⟩ | ⟨g,i,_,e,_⟩
    ·omega
    ·exact ⟨g,i,e⟩
   have aF:w3.cell? ⟨g,0,none⟩=some (.int .u8 (x0:Nat)):=by
    obtain ⟨_,_,_,e,_,_,_,_,Q⟩:=hO.row.open;cases e
    obtain ⟨b',aN,e,hc⟩:=Q 0 (by omega);cases e
    exact hc
   have aH:=C.frozenAt 0;obtain ⟨ae,aI⟩:=C.stored 0 (.int .u8 (q:Int));have aJ:=C.lt g rfl;have k4:Kept (fun x=>wr.heap.size<=x) w3 (w3.setCell ⟨g,0,none⟩ (.int .u8 (q:Int))):=(aj _ _).setCell _ (fun _=>aJ.1) _;have ac:Hid (Row .u8 (w3.setCell ⟨g,0,none⟩ (.int .u8 (q:Int))) (.slice (some ⟨g,0,none⟩) z i) (q :: tl)):=(OwnB.of (n:=z) (zs:=q :: tl) ae).row;have aE:=B3.out.zb.cell;have aD:=B3.out.tb.cell;have aU:g≠bz:=by have:=c.out;have:=HB.out.size;omega
   have aT:g≠bt:=by have:=c.out;have:=HB.out.size;omega
   have aR:(0:Int)<(z:Int):=by omega
   have ab:=aa k4;clear J1 hO C ae aI h3 k3 k4 cp cz
   gi_wp2_with fail
   gi_region
   have k4:Kept (fun x=>wr.heap.size<=x) w3 (w3.setCell ⟨g,0,none⟩ (.int .u8 (q:Int))).drew:=ab.out.drew;have r4:Row .u8 (w3.setCell ⟨g,0,none⟩ (.int .u8 (q:Int))).drew (.slice (some ⟨g,0,none⟩) z i) (q :: tl):=ac.out.grew ((aj _ _).drew);generalize (w3.setCell ⟨g,0,none⟩ (.int .u8 (q:Int))).drew=w4 at *;have h:∀ x,x<w.heap.size->¬ wr.heap.size<=x:=fun x hx=>by have:=c.out;have:=HB.out.size;omega
   have B4:=aa (B3.out.kept k4 (fun x hx=>h x (by have:=c.out;omega)) (h _ (by have:=c.out;omega)) (h _ (by have:=c.out;omega)) (h _ (by have:=c.out;omega)) (h _ (by have:=c.out;omega)));have X:=aa (hJ _ _ _ F.out (k4.mono fun x _ (e:wr.heap.size<=x)=>.inr (by have:=HB.out.size;omega)));have O:ar (pU t z bs k)<=L:=by
    rw [aG];refine bd (ay _ (aC (by omega))) ?_;rw [show (18446744073709551616:Nat)=2^64 from rfl,<- bh];exact aY (by omega) A.out.2.1
   have N:=Fm (.slice (some ⟨g,0,none⟩) z i) (q :: tl) (L:Int) w4 r4 aw.out;rw [HV.out,(rP hL O).1,(rP hL O).2] at N;have aB:=B4.out.nb.cell;clear k4 r4 ab ac O aF aH aE aD F B3 h e6
   gi_wp2_with fail
   refine ⟨trivial,?_⟩;refine (callsIn_wide.2 N).mono ?_;rintro e w5 ⟨v5,rfl,r5,f5,k5⟩;have af:∀ b,v5.ownBlock=some b->w.heap.size<=b:=fun b hb=>by have h1:=f5 b hb;have h2:=B4.out.size;have h3:=c.out;omega
   have B5:=aa (B4.out.kept k5 (fun _ _ f=>f) (fun f=>f) (fun f=>f) (fun f=>f) (fun f=>f));have Y:=aa (hJ _ _ _ X.out k5.any);have ao:DrwX p B t z L bs w.heap.size m (j,v5) w5:=⟨by rw [HP.out];exact Z.out,by rw [HP.out];exact v.out,⟨by rw [HP.out];exact r5,af⟩,by rw [HP.out];exact B5.out.scr⟩
   obtain ⟨fn,tmps,assign,body,hy,hR⟩:=hY m (j,v5) w5 Y.out ao;obtain ⟨xo,xn,xc,rfl,_⟩:=r5.open;clear N r5 f5 af k5 aB ao B4 X
   gi_wp2_with fail
   refine hR.mono ?_;rintro e w6 (⟨rfl,ad,k6⟩ | ⟨rfl,M⟩)
   ·have r:∀ x,x<w.heap.size->¬ Sb x->¬ (Sb x\/x=l\/x+1=l):=fun x hx hs=>by
     have:=c.out;rintro (e | e | e)
     ·exact hs e
     ·omega
     ·omega
    have B6:=aa (B5.out.kept k6 (fun x hx=>r x (by have:=c.out;omega) (fun e=>by have:=(hSb x e).1;omega)) (r _ (by have:=c.out;omega) sp) (r _ (by have:=c.out;omega) sz) (r _ (by have:=c.out;omega) st) (r _ (by have:=c.out;omega) sn));have ax:=aa ad;clear hR hy ad k6 B5 Y r
    gi_wp2_with fail
    go_roundw
    case rel=>exact ⟨k+1,m ++ [(j,Value.slice xo xn xc)],by rw [<- Z.out];first | rfl | (rw [gj];rfl),by unfold Hid;rw [aZ,HP.out];rfl,ax,B6⟩
    case measure=>simp [intOf];omega
   ·gi_wp2_with fail
    refine bodyPost_ret (results_none rfl _ _ _) rfl ?_;exact ⟨⟨_,rfl⟩,.inr ⟨_,M⟩⟩

attribute [local go_sem] Oper.semAt_some

theorem qN {k:IntKind} {w:World} {b:Nat} {cs:Array Value} {t:TypeId} {v:Value} {xs:List Nat} (hb:w.heap[b]? = some (.cells cs t (0,0))) (hc:∀ u ∈ cs,∀ z,u≠.int k z) (hv:Row k w v xs) (hx:xs≠[]):v.ownBlock≠some b:=by
 intro e;obtain ⟨ao,L,f,rfl,hL,_,_,_,c⟩:=hv.open;have d:0<L:=by
  rw [<- hL.out];exact List.length_pos_iff.2 hx
 obtain ⟨b',off,rfl,a⟩:=c 0 d;cases e
 rw [cell_of_row w b' (off+0) _ _ _ hb] at a;exact hc _ (Array.mem_of_getElem? a) _ rfl

theorem Lsc.apart {k:IntKind} {w:World} {p:Option Addr} {B:Nat} {bs xs:List Nat} {v:Value} (h:Lsc w p B bs) (hv:Row k w v xs) (hx:xs≠[]) (hk:k≠.i64:=by decide):∀ x,v.ownBlock=some x->¬ ofP p x:=by
 intro x e hp;rcases h with ⟨rfl,_⟩ | ⟨b,v',ps,pl,rfl,_,h⟩
 ·cases hp
 ·cases hp
  refine qN h.1 ?_ hv hx e;obtain ⟨_,_,rfl,_⟩:=h.2.1;intro u hu z;simp at hu;rcases hu with rfl | rfl
  ·simp
  ·intro e;cases e
   exact hk rfl

theorem kL {w:World} {b:Nat} {t:TypeId} {u v:Value} {xs:List Nat} (hb:Boxed w b t u) (hu:∀ z,u≠.int .u64 z) (hv:Row .u64 w v xs) (hx:xs≠[]):v.ownBlock≠some b:=
 qN hb (fun y hy z=>by simp at hy;rw [hy];exact hu z) hv hx

structure BtwB (w W:World) (p:Option Addr) (v:Value) (gm gx gk ge:Nat):Prop where
 mb:Boxed W gm 23 v
 xb:Boxed W gx 23 (.slice none 0 0)
 kb:Boxed W gk 3 (.int .i64 0)
 eb:Boxed W ge 32 (.int .i64 0)
 old:Kept (ofP p) w W

theorem BtwB.kept {S:Nat->Prop} {w W W':World} {p:Option Addr} {v:Value} {gm gx gk ge:Nat} (b:BtwB w W p v gm gx gk ge) (k:Kept S W W') (h0:¬ S gm) (h1:¬ S gx) (h2:¬ S gk) (h3:¬ S ge) (ho:∀ x,x<w.heap.size->S x->ofP p x):BtwB w W' p v gm gx gk ge:=
 ⟨eF b.mb k h0,eF b.xb k h1,eF b.kb k h2,eF b.eb k h3,b.old.next k ho⟩

structure EndB (w W:World) (p:Option Addr) (B:Nat) (gx gk ge:Nat) (X:List Nat) (K E:Nat) (r:List Nat) (u:Value):Prop where
 xb:Boxed W gx 23 u
 kb:Boxed W gk 3 (.int .i64 (K:Nat))
 eb:Boxed W ge 32 (.int .i64 (E:Nat))
 row:Row .u64 W u X
 scr:Lsc W p B r
 old:Kept (ofP p) w W
 new:∀ b,u.ownBlock=some b->w.heap.size<=b

theorem EndB.put {w W:World} {p:Option Addr} {B gx gk ge K E l:Nat} {X r:List Nat} {u:Value} {o:Obj} (o':Obj) (h:EndB w W p B gx gk ge X K E r u) (hl:W.heap[l]? = some o) (ho:o.isCells=false) (hw:w.heap.size<=l):EndB w (W.putObj l o') p B gx gk ge X K E r u:=by
 have a:∀ {b:Nat} {t:TypeId} {v:Value},Boxed W b t v->Boxed (W.putObj l o') b t v:=fun {b t v} hb=>(World.putObj_heap_other fun e=>by
  subst e;have c:W.heap[_]? = some (Obj.cells _ _ _):=hb;rw [hl] at c;cases c
  cases ho).trans hb
 exact ⟨a h.xb,a h.kb,a h.eb,rS o' h.row hl ho,h.scr.put o' hl ho,h.old.next (pk W l o') (fun x hx e=>by
  have e':x=l:=e;omega),h.new⟩

theorem iq {w:World} {b:Nat} {t:TypeId} {v:Value} (h:Boxed w b t v) (c:Nat) (u:Value) (d:b≠c):Boxed (w.setCell ⟨c,0,none⟩ u) b t v:=fM (a:=⟨c,0,none⟩) h d u

theorem BtwB.ends {w W:World} {p:Option Addr} {v u:Value} {gm gx gk ge B:Nat} {X r:List Nat} (I:BtwB w W p v gm gx gk ge) (a:Row .u64 W u X) (d:∀ b,u.ownBlock=some b->w.heap.size<=b) (f:Lsc W p B r) (n1:gx≠gk) (n2:gx≠ge) (n3:gk≠ge) (lx:w.heap.size<=gx) (lk:w.heap.size<=gk) (le:w.heap.size<=ge) (hB:B<=w.heap.size) (K E:Nat) :
  EndB w (((W.setCell ⟨gx,0,none⟩ u).setCell ⟨gk,0,none⟩ (.int .i64 (K:Nat))).setCell ⟨ge,0,none⟩ (.int .i64 (E:Nat))) p B gx gk ge X K E r u/\Kept (fun b=>b=gx\/b=gk\/b=ge) W (((W.setCell ⟨gx,0,none⟩ u).setCell ⟨gk,0,none⟩ (.int .i64 (K:Nat))).setCell ⟨ge,0,none⟩ (.int .i64 (E:Nat))):=by
 have kS:Kept (fun b=>b=gx\/b=gk\/b=ge) W (((W.setCell ⟨gx,0,none⟩ u).setCell ⟨gk,0,none⟩ (.int .i64 (K:Nat))).setCell ⟨ge,0,none⟩ (.int .i64 (E:Nat))):=
  (((aj _ _).setCell ⟨gx,0,none⟩ (fun _=>.inl rfl) _).setCell ⟨gk,0,none⟩ (fun _=>.inr (.inl rfl)) _).setCell ⟨ge,0,none⟩ (fun _=>.inr (.inr rfl)) _
 have x1:Boxed (W.setCell ⟨gx,0,none⟩ u) gx 23 u:=I.xb.set u;have k1:=iq I.kb gx u n1.symm;have e1:=iq I.eb gx u n2.symm;have x2:=iq x1 gk (.int .i64 (K:Nat)) n1;have k2:Boxed _ gk 3 (.int .i64 (K:Nat)):=k1.set (.int .i64 (K:Nat));have e2:=iq e1 gk (.int .i64 (K:Nat)) n3.symm;have x3:=iq x2 ge (.int .i64 (E:Nat)) n2;have k3:=iq k2 ge (.int .i64 (E:Nat)) n3;have e3:Boxed _ ge 32 (.int .i64 (E:Nat)):=e2.set (.int .i64 (E:Nat));refine ⟨⟨x3,k3,e3,a.kept' kS ?_,f.kept kS ?_,I.old.next kS ?_,d⟩,kS⟩
 ·rintro c x hx (rfl | rfl | rfl)
  ·exact kL I.xb (fun z e=>by cases e) a c hx
  ·exact kL I.kb (fun z e=>by cases e) a c hx
  ·exact kL I.eb (fun z e=>by cases e) a c hx
 ·rintro x hx (e | e | e) <;> omega
 ·rintro x hx (e | e | e) <;> omega

def BelK (M t z:Nat) (bs:List Nat) (k:Nat):Prop:=∃ f,(bs.drop (k*z)).length<f/\iJ M t z (bs.length+1) bs 1=iJ M t z f (bs.drop (k*z)) (k+1)

theorem BelK.zero (M t z:Nat) (bs:List Nat):BelK M t z bs 0:=⟨bs.length+1,by simp,by simp⟩

theorem BelK.step {M t z k:Nat} {bs:List Nat} (h:BelK M t z bs k) (hz:0<z) (hl:(k+1)*z<=bs.length) :
  (0<pU t z bs k/\pU t z bs k<M/\iJ M t z (bs.length+1) bs 1=(pU t z bs k,k+1,bs.drop ((k+1)*z)))\/(¬ (0<pU t z bs k/\pU t z bs k<M)/\BelK M t z bs (k+1)):=by
 obtain ⟨f,hf,e⟩:=h;have hd:(bs.drop (k*z)).drop z=bs.drop ((k+1)*z):=by rw [iY,kh]
 have a:¬ (bs.drop (k*z)).length<z:=by rw [b9];rw [kh] at hl;omega
 rcases p9 (M:=M) (t:=t) (k:=k+1) hf hz with ⟨h1,_⟩ | ⟨_,h2,h3⟩ | ⟨_,h2,f',hf',h3⟩
 ·exact absurd h1 a
 ·rw [hd] at h3;exact .inl ⟨h2.1,h2.2,e.trans h3⟩
 ·rw [hd] at h3 hf';exact .inr ⟨h2,f',hf',e.trans h3⟩

theorem BelK.spent {M t z k:Nat} {bs:List Nat} (h:BelK M t z bs k) (hz:0<z) (h0:k*z<=bs.length) (hl:bs.length<(k+1)*z):iJ M t z (bs.length+1) bs 1=(0,0,[]):=by
 obtain ⟨f,hf,e⟩:=h;have a:(bs.drop (k*z)).length<z:=by rw [b9];rw [kh] at hl;omega
 rcases p9 (M:=M) (t:=t) (k:=k+1) hf hz with ⟨_,h3⟩ | ⟨h1,_⟩ | ⟨h1,_⟩
 ·exact e.trans h3
 ·exact absurd a h1
 ·exact absurd a h1

theorem qU (p:Option Addr) (B:Nat) (bs xs:List Nat) (v:Value) (w:World) (h:Lsc w p B bs) (hv:Row .u64 w v xs) (hd:Digs xs) (hl:xs.length<=1000000) (b:300<xs.length\/val xs<2) :
  Calls prog 81 #[.pointer p,v] w fun e w'=>e=.returned (.tuple #[.slice none 0 0,.int .i64 0,.int .i64 (eY xs bs:Nat)])/\Lsc w' p B bs/\Kept af w w':=by
 have HS:=aa h;have JB:=aa fun W (k:Kept af w W)=>iw v xs W (hv.grew k) hd (by omega)
 obtain ⟨ao,L,a,rfl,hL,g,i,j,_⟩:=hv.open;have f:L<=1000000:=by have:=hL.out;omega
 have bM:=(((Boxed.new w 23 (.slice ao L a)).alloc (.cells #[.slice none 0 0] 23)).alloc (.cells #[.int .i64 0] 3)).alloc (.cells #[.int .i64 0] 32);have bR:∀ E:Int,((((w.alloc (.cells #[.slice ao L a] 23)).alloc (.cells #[.slice none 0 0] 23)).alloc (.cells #[.int .i64 0] 3)).alloc (.cells #[.int .i64 E] 32)).cell? ⟨w.heap.size+1,0,none⟩=some (.slice none 0 0) /\
   ((((w.alloc (.cells #[.slice ao L a] 23)).alloc (.cells #[.slice none 0 0] 23)).alloc (.cells #[.int .i64 0] 3)).alloc (.cells #[.int .i64 E] 32)).cell? ⟨w.heap.size+1+1,0,none⟩=some (.int .i64 0) /\
   ((((w.alloc (.cells #[.slice ao L a] 23)).alloc (.cells #[.slice none 0 0] 23)).alloc (.cells #[.int .i64 0] 3)).alloc (.cells #[.int .i64 E] 32)).cell? ⟨w.heap.size+1+1+1,0,none⟩=some (.int .i64 E):=fun E=>by
  have bX:=(((Boxed.new (w.alloc (.cells #[.slice ao L a] 23)) 23 (.slice none 0 0)).alloc (.cells #[.int .i64 0] 3)).alloc (.cells #[.int .i64 E] 32)).cell;have bK:=((Boxed.new ((w.alloc (.cells #[.slice ao L a] 23)).alloc (.cells #[.slice none 0 0] 23)) 3 (.int .i64 0)).alloc (.cells #[.int .i64 E] 32)).cell;have bE:=(Boxed.new (((w.alloc (.cells #[.slice ao L a] 23)).alloc (.cells #[.slice none 0 0] 23)).alloc (.cells #[.int .i64 0] 3)) 32 (.int .i64 E)).cell;simp only [World.size_alloc] at bX bK bE;exact ⟨bX,bK,bE⟩
 have kR:∀ E:Int,Kept af w ((((w.alloc (.cells #[.slice ao L a] 23)).alloc (.cells #[.slice none 0 0] 23)).alloc (.cells #[.int .i64 0] 3)).alloc (.cells #[.int .i64 E] 32)):=fun E=>((((aj af w).alloc _).alloc _).alloc _).alloc _
 have cM:=bM.cell;have d:=aa bR;have c:=aa kR;clear bR kR;by_cases h1:300<L
 ·have e1:eY xs bs=2:=by unfold eY;rw [hL.out,ah h1]
  rw [e1];have g1:(L:Int) > 300:=by omega
  have g2:(300:Int)<(L:Int):=by omega
  clear e1 b JB bM h hv hd;go_enter func81,ntmps81;go_wp2_with fail;obtain ⟨q1,q2,q3⟩:=d.out 2;refine bodyPost_ret (v:=.tuple #[.slice none 0 0,.int .i64 0,.int .i64 2]) (by simp [results,results81,go_sem,q1,q2,q3]) rfl ?_;exact ⟨rfl,HS.out.grew (c.out 2),c.out 2⟩
 ·have hV:val xs<2:=by
   have:=hL.out;rcases b with h | h
   ·omega
   ·exact h
  have e1:eY xs bs=1:=by unfold eY;rw [hL.out,ai h1,ah hV]
  rw [e1];have g1:¬ (L:Int) > 300:=by omega
  have g2:¬ (300:Int)<(L:Int):=by omega
  have l:aM (val xs)<=1:=(aX _ 1).2 (by omega);generalize aM (val xs)=t at *;have g3:(t:Int)<2:=by omega
  clear e1 b hV bM h hv hd;go_enter func81,ntmps81;go_wp2_with fail;refine (JB.out _ (c.out 0)).mono ?_;rintro e w1 ⟨rfl,rfl⟩;clear JB;obtain ⟨p1,p2,p3⟩:=d.out 0;go_wp2_with fail;obtain ⟨q1,q2,q3⟩:=d.out 1;refine bodyPost_ret (v:=.tuple #[.slice none 0 0,.int .i64 0,.int .i64 1]) (by simp [results,results81,go_sem,q1,q2,q3]) rfl ?_;exact ⟨rfl,HS.out.grew (c.out 1),c.out 1⟩

theorem xX (p:Option Addr) (B:Nat) (bs xs:List Nat) (v:Value) (w:World) (h:Lsc w p B bs) (hB:B<=w.heap.size) (aO:Digs bs 256) (hv:Row .u64 w v xs) (hd:Digs xs) (hl:xs.length<=300) (ac:2<=val xs) :
  Calls prog 81 #[.pointer p,v] w fun e w'=>∃ u,e=.returned (.tuple #[u,.int .i64 (kj xs bs:Nat),.int .i64 (eY xs bs:Nat)])/\(Row .u64 w' u (jh xs bs)/\∀ b,u.ownBlock=some b->w.heap.size<=b)/\Lsc w' p B (jg xs bs)/\Kept (ofP p) w w':=by
 obtain ⟨M,hM⟩:∃ M,M=val xs:=⟨_,rfl⟩
 obtain ⟨t,ht⟩:∃ t,t=aM M:=⟨_,rfl⟩
 obtain ⟨z,hz⟩:∃ z,z=(t+7)/8:=⟨_,rfl⟩
 rw [<- hM] at ac;have ad:M<18446744073709551616^xs.length:=by rw [hM];exact aE (by omega) hd
 have aw:t<=64*xs.length:=by rw [ht,hM];exact sj hd
 have bf:2<=t:=by
  have:=(aX M 1).1;rw [<- ht] at this;by_cases h1:t<=1
  ·have:=this h1;omega
  ·omega
 have P:xs≠[]:=by
  rintro rfl;have:val []=0:=rfl;omega
 have aT:Hid (∀ x,v.ownBlock=some x->¬ ofP p x):=h.apart hv P;have I:Hid (∀ W,Kept (ofP p) w W->Row .u64 W v xs):=fun W k=>hv.kept' k (fun _=>aT.out)
 have JB:=aa fun W (k:Kept (ofP p) w W)=>iw v xs W (I.out W k) hd (by omega)
 have JC:=aa fun u ys W (k:Kept (ofP p) w W) (hu:Row .u64 W u ys) (hdu:Digs ys)=>mU u v ys xs W hu (I.out W k) hdu hd
 rw [<- hM] at JB JC;rw [<- ht] at JB;have aJ:Hid (∀ x,ofP p x->x<B):=fun x hx=>(h.inP hx).1
 have H:Hid (sd M bs=iJ M t z (bs.length+1) bs 1):=by unfold Hid sd;rw [<- ht,<- hz]
 have HE:Hid (eY xs bs=if (iJ M t z (bs.length+1) bs 1).1=0 then 150 else 0):=by
  unfold Hid eY;rw [ai (by omega),ai (by rw [<- hM];omega),<- hM,H.out]
 have HX:Hid (jh xs bs=if eY xs bs=0 then digs (iJ M t z (bs.length+1) bs 1).1 xs.length else []):=by unfold Hid jh;rw [<- hM,H.out]
 have aI:Hid (kj xs bs=if eY xs bs=0 then (iJ M t z (bs.length+1) bs 1).2.1 else 0):=by unfold Hid kj;rw [<- hM,H.out]
 have aK:Hid (jg xs bs=(iJ M t z (bs.length+1) bs 1).2.2):=by unfold Hid jg;rw [ai (by rw [<- hM];omega),<- hM,H.out]
 obtain ⟨ao,L,i,rfl,hL,bc,be,a7,_⟩:=hv.open;have a6:L<=300:=by have:=hL.out;omega
 have g1:¬ (L:Int) > 300:=by omega
 have ba:¬ (300:Int)<(L:Int):=by omega
 have g2:¬ (t:Int)<2:=by omega
 rw [hL.out] at aw ad HX;have HL:=aa hL.out;have HS:=aa h;have HZ:=aa hz;have az:1<=z:=by omega
 have bg:t<=19200:=by omega
 have Q:Hid (2<=M/\M<18446744073709551616^L/\t=aM M/\t<=64*L):=⟨ac,ad,ht,aw⟩
 have aU:=aa aO;have g:=aa hB;clear hv hd hl ac ad ht hz aw P a7 hL h hM H aO hB;refine (callsIn_wide (n:=9)).1 ?_;refine callsIn_of_wp_marks func81 rfl trivial ?_ rfl;simp only [ntmps81,iF,cI,eS,Nat.reduceAdd,Nat.reduceSub,iB,iC,iE,iD,bw,fd];refine wpIn_wide.2 ?_;have bM:=(((Boxed.new w 23 (.slice ao L i)).alloc (.cells #[.slice none 0 0] 23)).alloc (.cells #[.int .i64 0] 3)).alloc (.cells #[.int .i64 0] 32)
 have bX:=((Boxed.new (w.alloc (.cells #[.slice ao L i] 23)) 23 (.slice none 0 0)).alloc (.cells #[.int .i64 0] 3)).alloc (.cells #[.int .i64 0] 32);have bK:=(Boxed.new ((w.alloc (.cells #[.slice ao L i] 23)).alloc (.cells #[.slice none 0 0] 23)) 3 (.int .i64 0)).alloc (.cells #[.int .i64 0] 32);have bE:=Boxed.new (((w.alloc (.cells #[.slice ao L i] 23)).alloc (.cells #[.slice none 0 0] 23)).alloc (.cells #[.int .i64 0] 3)) 32 (.int .i64 0);have kA:Kept af w ((((w.alloc (.cells #[.slice ao L i] 23)).alloc (.cells #[.slice none 0 0] 23)).alloc (.cells #[.int .i64 0] 3)).alloc (.cells #[.int .i64 0] 32)):=((((aj af w).alloc _).alloc _).alloc _).alloc _
 have sA:((((w.alloc (.cells #[.slice ao L i] 23)).alloc (.cells #[.slice none 0 0] 23)).alloc (.cells #[.int .i64 0] 3)).alloc (.cells #[.int .i64 0] 32)).heap.size=w.heap.size+4:=by simp
 simp only [World.size_alloc] at bX bK bE;have cM:=bM.cell;go_wp2_with fail;refine (JB.out _ kA.any).mono ?_;rintro e w1 ⟨rfl,rfl⟩;generalize (((w.alloc (.cells #[.slice ao L i] 23)).alloc (.cells #[.slice none 0 0] 23)).alloc (.cells #[.int .i64 0] 3)).alloc (.cells #[.int .i64 0] 32)=W1 at *;obtain ⟨gm,an⟩:∃ gm,gm=w.heap.size:=⟨_,rfl⟩
 obtain ⟨gx,ap⟩:∃ gx,gx=w.heap.size+1:=⟨_,rfl⟩
 obtain ⟨gk,am⟩:∃ gk,gk=w.heap.size+1+1:=⟨_,rfl⟩
 obtain ⟨ge,al⟩:∃ ge,ge=w.heap.size+1+1+1:=⟨_,rfl⟩
 rw [<- al] at bE ⊢;rw [<- am] at bK ⊢;rw [<- ap] at bX ⊢;rw [<- an] at bM cM ⊢;have HG:Hid (gm=w.heap.size/\gx=w.heap.size+1/\gk=w.heap.size+2/\ge=w.heap.size+3/\W1.heap.size=w.heap.size+4):=⟨an,ap,am,al,sA⟩
 have aG:Hid (BtwB w W1 p (.slice ao L i) gm gx gk ge):=⟨bM,bX,bK,bE,kA.any⟩
 have aL:=aa (HS.out.grew kA);have JD:=Gg p t L W1 (by omega);rw [<- HZ.out] at JD;clear an ap am al bM bX bK bE sA HS kA;go_wp2_with fail;refine JD.mono ?_;rintro e W2 ⟨rfl,b0,b1,b2,b3,k2,s2⟩;have T:=aa (aG.out.kept k2 (fun f=>f) (fun f=>f) (fun f=>f) (fun f=>f) (fun _ _ f=>f.elim));have Z:=aa (aL.out.grew k2);obtain ⟨n1,aQ⟩:∃ n1,n1=W1.heap.size:=⟨_,rfl⟩
 rw [<- aQ] at b0 b1 b2 b3 s2 ⊢;have a:Hid (gm=w.heap.size/\gx=w.heap.size+1/\gk=w.heap.size+2/\ge=w.heap.size+3/\n1=w.heap.size+4/\W2.heap.size=w.heap.size+8):=by have:=HG.out;refine ⟨?_,?_,?_,?_,?_,?_⟩ <;> omega
 clear JD k2 aG aL HG aQ cM s2;go_wp2_with fail;refine (wpIn_wide (n:=9)).1 ?_;obtain ⟨sh,a8⟩:∃ sh,sh=8*z-t:=⟨_,rfl⟩
 have au:t+sh=8*z:=by have:=HZ.out;omega
 have av:sh<8:=by have:=HZ.out;omega
 clear a8;refine pS (n:=9) (by omega) (gf:=186) (lb:=#[.pointer (some ⟨n1,0,none⟩),.pointer (some ⟨n1+3,0,none⟩),.pointer (some ⟨n1+1,0,none⟩),.pointer (some ⟨n1+2,0,none⟩)]) rfl (enters_of func186 (by kernel_rfl) rfl)
  (D5 8 (by omega) p B t z sh L n1 (n1+3) (n1+1) (n1+2) bs W2 (fun b=>b=gx\/b=gk\/b=ge) az au av a6 Q.out.2.2.2 Z.out aU.out b0 b3 b1 b2 ?q0 ?q1 ?q2 ?q3 ?q4 ?q5 ?q6 ?q7 ?q8 ?q9) (fun _=>rfl) ?hSb ?hT (fun _ _ _ _ _ o' hx hl ho=>hx.put o' hl ho)
  (fun E W=>Hid (BelK M t z bs E.length)/\Hid (BtwB w W p (.slice ao L i) gm gx gk ge)) (fun c _ W=>c=.ret/\∃ u,EndB w W p B gx gk ge (jh xs bs) (kj xs bs) (eY xs bs) (jg xs bs) u)
  ?low ?lowx ?lows ⟨BelK.zero _ _ _ _,T.out⟩ ?act ?assign ?body ?done ?stop
 case q0=>have:=a.out;have:=g.out;omega
 case q1=>have:=a.out;have:=g.out;omega
 case q2=>have:=a.out;have:=g.out;omega
 case q3=>have:=a.out;have:=g.out;omega
 case q4=>have:=a.out;have:=g.out;omega
 case q5=>
  have:=a.out;have:=g.out;rintro b (rfl | rfl | rfl) <;> omega
 case q6=>have:=a.out;omega
 case q7=>have:=a.out;omega
 case q8=>have:=a.out;omega
 case q9=>have:=a.out;omega
 case hSb=>
  have:=a.out;rintro b (rfl | rfl | rfl) <;> omega
 case hT=>
  intro b hb;have:=aJ.out b hb;have:=a.out;have:=g.out;omega
 case low=>
  rintro s A C ⟨h1,h2⟩ k;have:=a.out;have:=g.out;have R:∀ x,w.heap.size<=x->x<W2.heap.size->¬ (ofP p x\/W2.heap.size<=x):=fun x h3 h4=>by
   rintro (e | e)
   ·have:=aJ.out x e;omega
   ·omega
  exact ⟨h1,h2.out.kept k (R _ (by omega) (by omega)) (R _ (by omega) (by omega)) (R _ (by omega) (by omega)) (R _ (by omega) (by omega)) (fun x hx e=>by
   rcases e with e | e
   ·exact e
   ·omega)⟩
 case lowx=>
  rintro c s A l o o' ⟨h1,u,h2⟩ hl hA ho;have:=a.out;exact ⟨h1,u,h2.put o' hA ho (by omega)⟩
 case lows=>
  rintro s A l o o' ⟨h1,h2,h3⟩ hl hA ho;exact ⟨h1,h2,h3.put o' hA ho⟩
 case assign=>
  intro l x W K hK
  gi_wp2
  exact hK
 case body=>
  rintro l E ⟨j,xv⟩ W ⟨hK,hI⟩ ⟨hj,ae,⟨N,J⟩,O⟩;have bb:1<=L:=by
   have h1:=Q.out.1;have h2:=Q.out.2.1;cases L with
   | zero=>simp at h2;omega
   | succ n=>omega
  obtain ⟨V,hV⟩:∃ V,V=pU t z bs E.length:=⟨_,rfl⟩
  have aP:j=E.length+1:=hj;have d:Row .u64 W xv (digs V L):=by rw [hV];exact N
  have aN:V<18446744073709551616^L:=by
   rw [hV];refine bd (ay _ (aC (by omega))) ?_;rw [show (18446744073709551616:Nat)=2^64 from rfl,<- bh];exact aY (by omega) Q.out.2.2.2
  have q:=iw xv _ W d (ak (by omega) V L) (by rw [ag];omega);have r:=JC.out xv _ W hI.out.old d (ak (by omega) V L);rw [aB,ax aN] at q r;have Y:=aa d;have ab:=aa O;have X:Hid (∀ b,xv.ownBlock=some b->w.heap.size<=b):=fun b hb=>by have h1:=J b hb;have h2:=a.out;omega
  have U:=aa hI.out;have aS:=hK.out.step az ae;rw [<- hV] at aS;obtain ⟨nb,aq⟩:∃ nb,nb=aM V:=⟨_,rfl⟩
  rw [<- aq] at q;have m:nb=0↔V=0:=by
   have:=aX V 0;rw [<- aq] at this;simp at this;exact this
  have a9:Hid (digs V L≠[]):=fun e=>by
   have:=congrArg List.length e;rw [ag] at this;simp at this;omega
  obtain ⟨xo,xn,xc,rfl,_⟩:=d.open;have cM:=hI.out.mb.cell;have a4:=aa aP;clear J N d O hI hK hj aP hV aN aq T b0 b1 b2 b3 Z;rcases aS with ⟨h1,h2,h3⟩ | ⟨h1,h2⟩
  ·have g3:(nb:Int) > 0:=by omega
   have a5:(0:Int)<(nb:Int):=by omega
   rw [gS h2] at r;have e1:eY xs bs=0:=by rw [HE.out,h3,ai (by show ¬ V=0;omega)]
   have e2:jh xs bs=digs V L:=by rw [HX.out,ah e1,h3]
   have e3:kj xs bs=j:=by rw [aI.out,ah e1,h3];exact a4.out.symm
   have e4:jg xs bs=bs.drop ((E.length+1)*z):=by rw [aK.out,h3]
   have aW:Hid (eY xs bs=0/\jh xs bs=digs V L/\kj xs bs=j/\jg xs bs=bs.drop ((E.length+1)*z)):=⟨e1,e2,e3,e4⟩
   clear h1 h2 h3 e1 e2 e3 e4 m
   gi_wp2_with fail
   refine ⟨trivial,?_⟩;refine (CallsIn.inRound l (callsIn_wide.2 q)).mono ?_;rintro e w1 ⟨rfl,rfl⟩
   gi_wp2_with fail
   refine ⟨trivial,?_⟩;refine (CallsIn.inRound l (callsIn_wide.2 r)).mono ?_;rintro e w2 ⟨rfl,k2⟩;have I2:=aa (U.out.kept k2 (fun f=>f) (fun f=>f) (fun f=>f) (fun f=>f) (fun _ _ f=>f.elim));have R2:=aa (Y.out.grew k2);have S2:=aa (ab.out.grew k2);have cx:=I2.out.xb.cell;have fx:=I2.out.xb.frozen;have ck:=I2.out.kb.cell;have fk:=I2.out.kb.frozen;have ce:=I2.out.eb.cell;have fe:=I2.out.eb.frozen;have ar:gx≠gk/\gx≠ge/\gk≠ge:=by have:=a.out;omega
   obtain ⟨aA,aD,aF⟩:=ar;obtain ⟨aH,kS⟩:=I2.out.ends R2.out X.out S2.out aA aD aF (by have:=a.out;omega) (by have:=a.out;omega) (by have:=a.out;omega) g.out j 0;have a0:Hid (EndB w (((w2.setCell ⟨gx,0,none⟩ (.slice xo xn xc)).setCell ⟨gk,0,none⟩ (.int .i64 (j:Int))).setCell ⟨ge,0,none⟩ (.int .i64 0)) p B gx gk ge (jh xs bs) (kj xs bs) (eY xs bs) (jg xs bs) (.slice xo xn xc)):=by
    obtain ⟨q1,q2,q3,q4⟩:=aW.out;rw [q1,q2,q3,q4];exact aH
   have a3:Hid (Kept (fun b=>b=gx\/b=gk\/b=ge) w1 (((w2.setCell ⟨gx,0,none⟩ (.slice xo xn xc)).setCell ⟨gk,0,none⟩ (.int .i64 (j:Int))).setCell ⟨ge,0,none⟩ (.int .i64 0))):=(k2.any).trans kS;clear q r k2 kS aH
   gi_wp2_with fail
   exact ⟨a3.out,rfl,_,a0.out⟩
  ·have HN:Hid (BelK M t z bs (E ++ [(j,Value.slice xo xn xc)]).length):=by unfold Hid;rw [aZ];exact h2
   by_cases hV0:V=0
   ·obtain rfl:=m.2 hV0;clear h1 h2 m hV0 r
    gi_wp2_with fail
    refine ⟨trivial,?_⟩;refine (CallsIn.inRound l (callsIn_wide.2 q)).mono ?_;rintro e w1 ⟨rfl,rfl⟩;clear q
    gi_wp2_with fail
    refine ⟨trivial,?_⟩
    gi_wp2_with fail
    exact ⟨aj _ _,HN,U⟩
   ·have g3:(nb:Int) > 0:=by omega
    have a5:(0:Int)<(nb:Int):=by omega
    obtain ⟨C,hC⟩:∃ C,C=dR V M:=⟨_,rfl⟩
    rw [<- hC] at r;have g4:¬ C<0:=by
     rw [hC];unfold dR;rw [ai (by omega)]
     split <;> omega
    clear h1 h2 m hV0 hC
    gi_wp2_with fail
    refine ⟨trivial,?_⟩;refine (CallsIn.inRound l (callsIn_wide.2 q)).mono ?_;rintro e w1 ⟨rfl,rfl⟩
    gi_wp2_with fail
    refine ⟨trivial,?_⟩;refine (CallsIn.inRound l (callsIn_wide.2 r)).mono ?_;rintro e w2 ⟨rfl,k2⟩;have I2:=aa (U.out.kept k2 (fun f=>f) (fun f=>f) (fun f=>f) (fun f=>f) (fun _ _ f=>f.elim));have a2:=aa (k2.any (S:=fun b=>b=gx\/b=gk\/b=ge));clear q r k2
    gi_wp2_with fail
    exact ⟨a2.out,HN,I2⟩
 case done=>
  rintro D s W hD ⟨h0,h1,aR⟩ ⟨hK,hI⟩ F;have hf:=hK.out.spent az h0 h1;have e1:eY xs bs=150:=by rw [HE.out,hf];rfl
  have e2:jh xs bs=[]:=by rw [HX.out,e1];rfl
  have e3:kj xs bs=0:=by rw [aI.out,e1];rfl
  have e4:jg xs bs=[]:=by rw [aK.out,hf]
  have a1:Hid (eY xs bs=150/\jh xs bs=[]/\kj xs bs=0/\jg xs bs=[]):=⟨e1,e2,e3,e4⟩
  have cx:=hI.out.xb.cell;have fx:=hI.out.xb.frozen;have ck:=hI.out.kb.cell;have fk:=hI.out.kb.frozen;have ce:=hI.out.eb.cell;have fe:=hI.out.eb.frozen;have ar:gx≠gk/\gx≠ge/\gk≠ge:=by have:=a.out;omega
  obtain ⟨aA,aD,aF⟩:=ar;obtain ⟨G,kS⟩:=hI.out.ends (u:=.slice none 0 0) (Row.nil _ _) (fun b hb=>by cases hb) aR aA aD aF (by have:=a.out;omega) (by have:=a.out;omega) (by have:=a.out;omega) g.out 0 150;have y:=(kS.block D (lt_of_block F) (by have:=a.out;rintro (e | e | e) <;> omega)).trans F;have HF:Hid (EndB w ((((W.setCell ⟨gx,0,none⟩ (.slice none 0 0)).setCell ⟨gk,0,none⟩ (.int .i64 0)).setCell ⟨ge,0,none⟩ (.int .i64 150)).putObj D (.deferred none)) p B gx gk ge [] 0 150 [] (.slice none 0 0)):=G.put (.deferred none) y rfl (by have:=a.out;omega);have aV:=aa y;clear e1 e2 e3 e4 hf hK h0 h1 aR hI G kS y F T b0 b1 b2 b3 Z;go_wp2_with fail
  refine ⟨by simp,.inl ⟨_,_,rfl,run_takeDeferred aV.out,?_⟩⟩;have q1:=HF.out.xb.cell;have q2:=HF.out.kb.cell;have q3:=HF.out.eb.cell;obtain ⟨e1,e2,e3,e4⟩:=a1.out;rw [e1,e2,e3,e4];refine ⟨.tuple #[.slice none 0 0,.int .i64 0,.int .i64 150],?_,_,rfl,⟨Row.nil _ _,HF.out.new⟩,HF.out.scr,HF.out.old⟩;simp [results,Tryz.f81,go_sem,q1,q2,q3]
 case stop=>
  rintro D c s W hD ⟨rfl,u,G⟩ F;have hF:=G.put (.deferred none) F rfl (by have:=a.out;omega);obtain ⟨uo,un,uc,rfl,_⟩:=G.row.open;have HF:=aa hF;clear G hF
  gi_wp2
  refine ⟨by simp,.inl ⟨_,_,rfl,run_takeDeferred F,?_⟩⟩;have q1:=HF.out.xb.cell;have q2:=HF.out.kb.cell;have q3:=HF.out.eb.cell;refine ⟨.tuple #[.slice uo un uc,.int .i64 (kj xs bs:Nat),.int .i64 (eY xs bs:Nat)],?_,_,rfl,⟨HF.out.row,HF.out.new⟩,HF.out.scr,HF.out.old⟩;simp [results,Tryz.f81,go_sem,q1,q2,q3]

theorem Gf (p:Option Addr) (B:Nat) (bs xs:List Nat) (v:Value) (w:World) (h:Lsc w p B bs) (hB:B<=w.heap.size) (b:Digs bs 256) (hv:Row .u64 w v xs) (hd:Digs xs) (hl:xs.length<=300) (a:2<=val xs) :
  Calls prog 81 #[.pointer p,v] w fun e w'=>∃ u,e=.returned (.tuple #[u,.int .i64 (kj xs bs:Nat),.int .i64 (eY xs bs:Nat)])/\Row .u64 w' u (jh xs bs)/\Lsc w' p B (jg xs bs)/\Kept (ofP p) w w':=by
 refine (xX p B bs xs v w h hB b hv hd hl a).mono ?_;rintro e w' ⟨u,he,h1,h2⟩;exact ⟨u,he,h1.1,h2⟩

open Go.RowKit

def NoTab (_:World):Prop:=True

theorem se {xs bs:List Nat} (h:300<xs.length\/val xs<2):jh xs bs=[]/\kj xs bs=0/\jg xs bs=bs:=by
 have e:eY xs bs≠0:=by
  unfold eY
  split
  ·omega
  ·next h1=>
   rw [ah (by omega)];omega
 exact ⟨ai e,ai e,ah h⟩

theorem Gk (p:Option Addr) (B:Nat) (bs xs:List Nat) (v:Value) (w:World) (h:Lsc w p B bs) (hB:B<=w.heap.size) (a:Digs bs 256) (hv:Row .u64 w v xs) (hd:Digs xs) (hl:xs.length<=1000000) :
  Calls prog 81 #[.pointer p,v] w fun e w'=>∃ u,e=.returned (.tuple #[u,.int .i64 (kj xs bs:Nat),.int .i64 (eY xs bs:Nat)])/\Row .u64 w' u (jh xs bs)/\Lsc w' p B (jg xs bs)/\Kept (ofP p) w w':=by
 by_cases hb:300<xs.length\/val xs<2
 ·obtain ⟨e1,e2,e3⟩:=se (bs:=bs) hb;rw [e1,e2,e3];refine (qU p B bs xs v w h hv hd hl hb).mono ?_;rintro e w' ⟨rfl,h1,k1⟩;exact ⟨_,rfl,Row.nil _ _,h1,k1.any⟩
 ·exact Gf p B bs xs v w h hB a hv hd (by omega) (by omega)

theorem zB (p:Option Addr) (B:Nat) (bs xs:List Nat) (v:Value) (w:World) (h:Lsc w p B bs) (hB:B<=w.heap.size) (a:Digs bs 256) (hv:Row .u64 w v xs) (hd:Digs xs) (hl:xs.length<=1000000) :
  Calls prog 81 #[.pointer p,v] w fun e w'=>∃ u,e=.returned (.tuple #[u,.int .i64 (kj xs bs:Nat),.int .i64 (eY xs bs:Nat)])/\(Row .u64 w' u (jh xs bs)/\∀ b,u.ownBlock=some b->w.heap.size<=b)/\Lsc w' p B (jg xs bs)/\Kept (ofP p) w w':=by
 by_cases hb:300<xs.length\/val xs<2
 ·obtain ⟨e1,e2,e3⟩:=se (bs:=bs) hb;rw [e1,e2,e3];refine (qU p B bs xs v w h hv hd hl hb).mono ?_;rintro e w' ⟨rfl,h1,k1⟩;exact ⟨_,rfl,⟨Row.nil _ _,(fun b hb=>by cases hb)⟩,h1,k1.any⟩
 ·exact xX p B bs xs v w h hB a hv hd (by omega) (by omega)

theorem pA {a y:Nat} (h:ofP (some ⟨a,0,none⟩) y):y=a:=(Option.some.inj h).symm

theorem qd (V n:Nat):∀ i,i<=n->bev (bes V n i)=V/256^(n-i)%256^i
 | 0,_=>by simp [bes,bev,Nat.mod_one]
 | i+1,h=>by
  unfold bes;rw [mD,qd V n i (by omega)];unfold dig;rw [show n-i=(n-1-i)+1 by omega,show n-(i+1)=n-1-i by omega,aH 256 (n-1-i),<- cK];generalize V/256^(n-1-i)=A;rw [aH,aF (256^i),j7];omega

theorem oR {V n:Nat} (h:V<256^n):bev (bes V n n)=V:=by
 rw [qd V n n (leR _),bJ,cw,eX,ax h]

theorem BA (N:Nat):N<256^fw N:=by
 have h:=(aX N (8*fw N)).1 (by unfold fw;omega)
 rwa [bh] at h

theorem EG {ns:List Nat} {e:Nat} {ms:List Nat} (h1:fW ns e=0) (h2:ms.length=fw (val ns)) (h3:bev ms<val ns):qY ns e ms=0:=by
 unfold qY jq;rw [ah h1,ah ⟨h2,h3⟩]

def KS.light (s:KS):Prop:=s.nl<=1000/\s.dl<=1000/\s.pl<=1000/\s.ql<=1000/\s.dpl<=1000/\s.dql<=1000/\s.qil<=1000

theorem KS.few.light {s:KS} (h:s.few):s.light:=by
 obtain ⟨h0,h1,h2,h3,h4,h5,h6⟩:=h;have a0:=h0.le;have a1:=h1.le;have a2:=h2.le;have a3:=h3.le;have a4:=h4.le;have a5:=h5.le;have a6:=h6.le;exact ⟨by omega,by omega,by omega,by omega,by omega,by omega,by omega⟩

def AtOk (a:Int):Prop:=-9223372036854775808<=a/\a<=9223372036854775807

def PrvL (ans ads aps aqs adps adqs aqis:List Nat) (e:Nat) (at_:Int) (fs cs bs:List Nat) (E:Nat) (RL rest:List Nat):Prop:=
 (¬ KeyGood ans ads aps aqs adps adqs aqis e/\E=190/\RL=[]/\rest=bs) \/
 (KeyGood ans ads aps aqs adps adqs aqis e/\jq (val ans) cs=1/\E=1/\RL=[]/\rest=bs) \/
 (KeyGood ans ads aps aqs adps adqs aqis e/\jq (val ans) cs=0/\∃ r1 k e1,nh ans bs=(r1,k,e1,rest) /\
  ((e1≠0/\E=e1/\RL=[])\/(e1=0/\∃ T,T<val ans/\val r1*T%val ans=1/\∃ m,m=pG at_ fs (bev cs*(val r1^e%val ans)%val ans) T (val ans) (val aps) (val aqs) (val adps) (val adqs) (val aqis) ans.length (ar (val aps)) (ar (val aqs)) /\
   ((m^e%val ans≠bev cs/\E=220/\RL=List.replicate cs.length 0)\/(m^e%val ans=bev cs/\E=0/\RL=bes m cs.length cs.length)))))

theorem PrvL.digs {ns ds ps qs a b c:List Nat} {e:Nat} {at_:Int} {fs cs bs:List Nat} {E:Nat} {RL rest:List Nat} (h:PrvL ns ds ps qs a b c e at_ fs cs bs E RL rest):Digs RL 256:=by
 rcases h with ⟨_,_,rfl,_⟩ | ⟨_,_,_,rfl,_⟩ | ⟨_,_,_,_,_,_,⟨_,_,rfl⟩ | ⟨_,_,_,_,_,_,⟨_,_,rfl⟩ | ⟨_,_,rfl⟩⟩⟩
 ·exact Digs.nil _
 ·exact Digs.nil _
 ·exact Digs.nil _
 ·exact fun d hd=>by rw [(eu.1 hd).2];omega
 ·exact oQ _ _ _

def Gp:Prop:=∀ (s:KS) (l:KL) (co:Option Addr) (cl cc:Nat) (cs:List Nat) (p:Option Addr) (B:Nat) (bs:List Nat) (at_:Int) (fo:Option Addr) (fl fc:Nat) (fs:List Nat) (w:World),s.en<18446744073709551616->s.Rows w l->l.Digs->s.light->Row .u8 w (.slice co cl cc) cs->Digs cs 256->cl<=10000->Lsc w p B bs->B<=w.heap.size->Digs bs 256->bs.length<=10000->Row .u64 w (.slice fo fl fc) fs->Digs fs->fl<=1000->AtOk at_ ->
 Calls prog 19 #[.pointer none,.agg s.v,.slice co cl cc,.pointer p,.agg #[.int .i64 at_,.slice fo fl fc]] w fun q w'=>∃ v' E,q=.returned (.tuple #[v',.int .i64 ((E:Nat):Int)])/\∃ RL rest,PrvL l.n l.d l.p l.q l.dp l.dq l.qi s.en at_ fs cs bs E RL rest/\(Row .u8 w' v' RL/\∀ b,v'.ownBlock=some b->w.heap.size<=b)/\Kept (ofP p) w w'

def EF:Prop:=∀ (p:Option Addr) (B:Nat) (bs ns:List Nat) (ao:Option Addr) (L cap:Nat) (r1:List Nat) (r2 r3:Nat) (r4:List Nat) (w:World),nh ns bs=(r1,r2,r3,r4)->Lsc w p B bs->B<=w.heap.size->Digs bs 256->bs.length<=10000->Row .u64 w (.slice ao L cap) ns->Digs ns->L<=1000 ->
 Calls prog 15 #[.pointer p,.slice ao L cap] w fun e w'=>∃ u,e=.returned (.tuple #[u,.int .i64 (r2:Nat),.int .i64 (r3:Nat)])/\(Row .u64 w' u r1/\∀ b,u.ownBlock=some b->w.heap.size<=b)/\Lsc w' p B r4/\Kept (ofP p) w w'

theorem EU (s:KS) (co bo fo:Option Addr) (cl cc bl bc fl fc:Nat) (at_:Int) (R:Bool) (hR:R=true↔s.few/\s.nl<=9/\cl<=200/\bl<=500/\fl<=20) (w:World) :
  Calls prog 10 #[.agg s.v,.slice co cl cc,.slice bo bl bc,.agg #[.int .i64 at_,.slice fo fl fc]] w fun r w'=>r=.returned (.bool R)/\Kept af w w':=by
 obtain ⟨W,hW⟩:∃ W,W=(w.alloc (.cells s.v 26)).alloc (.cells #[.int .i64 at_,.slice fo fl fc] 31):=⟨_,rfl⟩
 have k0:Kept af w W:=by rw [hW];exact ((aj af w).alloc _).alloc _
 have b1:W.heap[w.heap.size]? = some (.cells s.v 26 (0,0)):=by rw [hW];exact au (heap_alloc_new _ _)
 have b2:W.heap[w.heap.size+1]? = some (.cells #[.int .i64 at_,.slice fo fl fc] 31 (0,0)):=by
  rw [hW];have:=heap_alloc_new (w.alloc (.cells s.v 26)) (.cells #[.int .i64 at_,.slice fo fl fc] 31)
  rwa [World.size_alloc] at this
 obtain ⟨d0,d1,d2,d3,d4,d5,d6,d7⟩:=bH b1;have HC:Hid (∀ W',Kept af W W'->W'.cell? ⟨w.heap.size,0,none⟩=some (.slice s.no s.nl s.nc)/\W'.cell? ⟨w.heap.size+1,1,none⟩=some (.slice fo fl fc)):=fun W' k=>⟨(bH ((k.block _ (lt_of_block b1) (fun f=>f)).trans b1)).1,k.cellN ((cell_of_row W _ 1 _ _ _ b2).trans rfl)⟩
 have HW:=aa hW;have b:=aa k0;clear hW k0 b1 b2;by_cases h0:s.few
 ·have J0:=Ai s true (iff_of_true rfl h0) W;by_cases h1:s.nl<=9
  ·have g1:(s.nl:Int)<=9:=by omega
   by_cases h2:cl<=200
   ·have g2:(cl:Int)<=200:=by omega
    by_cases h3:bl<=500
    ·have g3:(bl:Int)<=500:=by omega
     by_cases h4:fl<=20
     ·have g4:(fl:Int)<=20:=by omega
      obtain rfl:R=true:=hR.2 ⟨h0,h1,h2,h3,h4⟩;clear hR h0 h1 h2 h3 h4;unfold KS.v at HW ⊢;go_enter func10,ntmps10;go_wp2_with (rw [<- HW.out]);refine J0.mono ?_;rintro r w1 ⟨rfl,k1⟩;obtain ⟨c0,c1⟩:=HC.out w1 k1;have a:=aa (b.out.trans k1);clear J0 k1 HC;go_wp2_with fail;go_ret;exact ⟨by first | rfl | (simp;omega),a.out⟩
     ·have g4:¬ (fl:Int)<=20:=by omega
      obtain rfl:R=false:=by
       cases e:R with
       | false=>rfl
       | true=>exact absurd (hR.1 e).2.2.2.2 h4
      clear hR h0 h1 h2 h3 h4;unfold KS.v at HW ⊢;go_enter func10,ntmps10;go_wp2_with (rw [<- HW.out]);refine J0.mono ?_;rintro r w1 ⟨rfl,k1⟩;obtain ⟨c0,c1⟩:=HC.out w1 k1;have a:=aa (b.out.trans k1);clear J0 k1 HC;go_wp2_with fail;go_ret;exact ⟨by first | rfl | (simp;omega),a.out⟩
    ·have g3:¬ (bl:Int)<=500:=by omega
     obtain rfl:R=false:=by
      cases e:R with
      | false=>rfl
      | true=>exact absurd (hR.1 e).2.2.2.1 h3
     clear hR h0 h1 h2 h3;unfold KS.v at HW ⊢;go_enter func10,ntmps10;go_wp2_with (rw [<- HW.out]);refine J0.mono ?_;rintro r w1 ⟨rfl,k1⟩;obtain ⟨c0,c1⟩:=HC.out w1 k1;have a:=aa (b.out.trans k1);clear J0 k1 HC;go_wp2_with fail;go_ret;exact ⟨by first | rfl | (simp;omega),a.out⟩
   ·have g2:¬ (cl:Int)<=200:=by omega
    obtain rfl:R=false:=by
     cases e:R with
     | false=>rfl
     | true=>exact absurd (hR.1 e).2.2.1 h2
    clear hR h0 h1 h2;unfold KS.v at HW ⊢;go_enter func10,ntmps10;go_wp2_with (rw [<- HW.out]);refine J0.mono ?_;rintro r w1 ⟨rfl,k1⟩;obtain ⟨c0,c1⟩:=HC.out w1 k1;have a:=aa (b.out.trans k1);clear J0 k1 HC;go_wp2_with fail;go_ret;exact ⟨by first | rfl | (simp;omega),a.out⟩
  ·have g1:¬ (s.nl:Int)<=9:=by omega
   obtain rfl:R=false:=by
    cases e:R with
    | false=>rfl
    | true=>exact absurd (hR.1 e).2.1 h1
   clear hR h0 h1;unfold KS.v at HW ⊢;go_enter func10,ntmps10;go_wp2_with (rw [<- HW.out]);refine J0.mono ?_;rintro r w1 ⟨rfl,k1⟩;obtain ⟨c0,c1⟩:=HC.out w1 k1;have a:=aa (b.out.trans k1);clear J0 k1 HC;go_wp2_with fail;go_ret;exact ⟨by first | rfl | (simp;omega),a.out⟩
 ·have J0:=Ai s false (iff_of_false (by decide) h0) W;obtain rfl:R=false:=by
   cases e:R with
   | false=>rfl
   | true=>exact absurd (hR.1 e).1 h0
  clear hR h0;unfold KS.v at HW ⊢;go_enter func10,ntmps10;go_wp2_with (rw [<- HW.out]);refine J0.mono ?_;rintro r w1 ⟨rfl,k1⟩;obtain ⟨c0,c1⟩:=HC.out w1 k1;have a:=aa (b.out.trans k1);clear J0 k1 HC;go_wp2_with fail;go_ret;exact ⟨by first | rfl | (simp;omega),a.out⟩

end Go.Proofs.YtkaojflnghfmcaaGreatDoor
