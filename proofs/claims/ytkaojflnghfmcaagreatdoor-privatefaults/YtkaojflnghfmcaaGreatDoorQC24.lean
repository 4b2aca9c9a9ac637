/- Put together of: NatE NatF NatG NatH NatI. -/
import Derived.Test.YtkaojflnghfmcaaGreatDoorQC23

namespace Go.Proofs.YtkaojflnghfmcaaGreatDoor
open _root_.Go.Proofs.Tryz
set_option maxRecDepth 100000
set_option maxHeartbeats 4000000
open Go.RowKit Go.Shelf

attribute [local go_sem] Oper.semAt_some

theorem sB {L r j:Nat}:j ∈ eJ L r↔r<=j/\j<L:=by
 unfold eJ;simp only [ll,List.mem_range];constructor
 ·rintro ⟨i,hi,rfl⟩;omega
 ·rintro ⟨h1,h2⟩;exact ⟨L-1-j,by omega,by omega⟩

theorem sV {L r:Nat} {a:List (Fin L)} (h:a.map Fin.val=eJ L r) {j:Nat} (h1:r<=j) (h2:j<L):∃ x ∈ a,x.val=j:=by
 have:j ∈ a.map Fin.val:=by rw [h];exact sB.2 ⟨h1,h2⟩
 simpa using this

theorem yr {L r:Nat} {a:List (Fin L)} {x:Fin L} (hr:r<L) (h:(a ++ [x]).map Fin.val=eJ L r):x.val=r/\a.map Fin.val=eJ L (r+1):=by
 rw [kr hr,dt] at h;obtain ⟨h1,h2⟩:=List.append_inj' h (by simp);exact ⟨by simpa using h2,h1⟩

theorem mU (u v:Value) (xs ys:List Nat) (w:World) (hu:Row .u64 w u xs) (hv:Row .u64 w v ys) (O:Digs xs) (P:Digs ys) :
  Calls prog 64 #[u,v] w fun r w'=>r=.returned (.int .i64 (dR (val xs) (val ys)))/\Kept af w w':=by
 obtain ⟨R,hR⟩:∃ R,R=dR (val xs) (val ys):=⟨_,rfl⟩
 rw [<- hR];have HR:Hid (R=dR (val xs) (val ys)):=hR;clear hR;have X:=fun ao n d (e:u=.slice ao n d) W (hk:Kept af w W)=>AP ao n d xs W (e ▸ hu.grew hk) O
 have Y:=fun ao n d (e:v=.slice ao n d) W (hk:Kept af w W)=>AP ao n d ys W (e ▸ hv.grew hk) P
 obtain ⟨ao,n,d,rfl,ag,c1,c2,c3,aD⟩:=hu.open;obtain ⟨bo,m,a,rfl,ah,d1,d2,d3,aE⟩:=hv.open;have X:=X ao n d rfl;have Y:=Y bo m a rfl;obtain ⟨A,hA,lA,dA,vA,gA⟩:=qJ O;obtain ⟨B,hB,lB,dB,vB,gB⟩:=qJ P;have rA:Row .u64 w (.slice ao (ar (val xs)) d) A:=hA ▸ hu.cut (jX O);have rB:Row .u64 w (.slice bo (ar (val ys)) a) B:=hB ▸ hv.cut (jX P);have HW:Hid (dR (ar (val xs)) (ar (val ys))=0\/dR (ar (val xs)) (ar (val ys))=R):=by
  unfold Hid;rw [HR.out];by_cases e:ar (val xs)=ar (val ys)
  ·exact .inl (mG.2 e)
  ·exact .inr (yh e)
 rw [<- vA,<- vB] at HR;clear hA hB gA gB vA vB hu hv aD aE;have w1:ar (val xs)<=n:=by have:=jX O;have:=ag.out;omega
 have w2:ar (val ys)<=m:=by have:=jX P;have:=ah.out;omega
 clear O P ag ah;generalize ar (val xs)=p at *;generalize ar (val ys)=q at *;refine (callsIn_wide (n:=9)).1 ?_;refine callsIn_of_wp_marks func64 rfl trivial ?_ rfl;simp only [ntmps64,iF,cI,eS,Nat.reduceAdd,Nat.reduceSub,iB,iC,iE,iD,bw,fd];refine wpIn_wide.2 ?_;go_wp2_with fail;have G:Kept af w ((w.alloc (.cells #[.slice bo m a] 23)).alloc (.cells #[.int .i64 0] 3)):=((aj af w).alloc _).alloc _
 have ai:((w.alloc (.cells #[.slice bo m a] 23)).alloc (.cells #[.int .i64 0] 3)).cell? ⟨w.heap.size,0,none⟩=some (.slice bo m a):=((Boxed.new w 23 (.slice bo m a)).alloc _).cell;have aB:((w.alloc (.cells #[.slice bo m a] 23)).alloc (.cells #[.int .i64 0] 3)).frozen? ⟨w.heap.size,0,none⟩=false:=((Boxed.new w 23 (.slice bo m a)).alloc _).frozen;have ak:((w.alloc (.cells #[.slice bo m a] 23)).alloc (.cells #[.int .i64 0] 3)).cell? ⟨w.heap.size+1,0,none⟩=some (.int .i64 0):=by have:=(Boxed.new (w.alloc (.cells #[.slice bo m a] 23)) 3 (.int .i64 0)).cell;rwa [World.size_alloc] at this
 have am:((w.alloc (.cells #[.slice bo m a] 23)).alloc (.cells #[.int .i64 0] 3)).frozen? ⟨w.heap.size+1,0,none⟩=false:=by have:=(Boxed.new (w.alloc (.cells #[.slice bo m a] 23)) 3 (.int .i64 0)).frozen;rwa [World.size_alloc] at this
 have ap:((w.alloc (.cells #[.slice bo m a] 23)).alloc (.cells #[.int .i64 0] 3)).heap.size=w.heap.size+2:=by simp
 generalize hw1:(w.alloc (.cells #[.slice bo m a] 23)).alloc (.cells #[.int .i64 0] 3)=W1 at *;clear hw1
 refine Code.wp_mono (Q:=Exit.then (fun a' w'=>a'={ tmps:=#[.slice ao p d,.slice bo m a,undef,.pointer (some ⟨w.heap.size,0,none⟩),.pointer (some ⟨w.heap.size+1,0,none⟩),undef,undef,undef,undef,.slice ao n d,.slice ao p d,.slice bo m a,.slice bo q a,undef,undef,undef,undef,undef,undef,undef,undef,undef,undef,undef,undef,undef,undef,undef,undef,undef,undef,undef,undef,undef],defers:=[] }/\w'.cell? ⟨w.heap.size,0,none⟩=some (.slice bo q a)/\w'.cell? ⟨w.heap.size+1,0,none⟩=some (.int .i64 0)/\w'.frozen? ⟨w.heap.size+1,0,none⟩=false/\w'.heap.size=w.heap.size+2/\Kept af w w') (fun _ _ _=>False)) ?_ ?_
 ·rintro e a' w' h;cases e with
  | normal=>
   obtain ⟨rfl,ay,ac,az,I,ae⟩:=h;have hC:=Any.cmp_Compare_int Iu (p:Int) (q:Int) w';rw [EP] at hC;clear X Y G ai aB ak am ap;by_cases hpq:p=q
   ·subst hpq;rw [lF rfl] at hC;clear HW;have hD:=callsIn_wide.1 (Cr Fence.wide 0 trivial rfl ao p d w');go_wp2_with fail;refine hC.mono ?_;rintro e w3 ⟨rfl,rfl⟩;go_wp2_with fail;refine hD.mono ?_;rintro e w4 ⟨rfl,rfl⟩;clear hC hD;have bN:=Boxed.new w3 23 (.slice ao p d);rw [I] at bN;have z:∀ b,(Value.slice ao p d).ownBlock=some b->0<p->b<w.heap.size:=by
     intro b hb hp;obtain ⟨aI,n',au,e1,aC,_,_,_,h4⟩:=rA.open;cases e1
     obtain ⟨b',off,rfl,hc⟩:=h4 0 hp;cases hb
     exact World.block_lt_of_cell? w _ hc
    have ax:Below w.heap.size w (w3.alloc (.cells #[.slice ao p d] 23)):=(ae.alloc _).below (leR _) (fun _ f=>f.elim);have aa:=rA.grew (ae.alloc (.cells #[.slice ao p d] 23));have Z:Hid (∀ W,Below w.heap.size w W->Row .u64 W (.slice bo p a) B):=fun W hb=>rB.kept (S:=af) ⟨hb.os,hb.tape,hb.output,hb.size,fun k hk _=>hb.block k hk⟩ (fun _ _ f=>f)
    go_wp2_with fail;obtain ⟨g,hg⟩:∃ g:Nat->Nat,∀ j,A.getD j 0=g j:=⟨_,fun _=>rfl⟩
    refine (wpIn_wide (n:=9)).1 ?_;refine wpIn_rangeFunc_ownG (F:=Fence.wide) (n:=9) rfl (by omega) (gf:=173) (lb:=#[.pointer (some ⟨w.heap.size+2,0,none⟩)]) rfl trivial (enters_of func173 (by kernel_rfl) rfl)
     (yq Fence.wide 8 trivial rfl (by omega) (w.heap.size+2) p g (.slice ao p d) A lA hg (fun k=>k=w.heap.size+2\/((Value.slice ao p d).ownBlock=some k/\0<p)) (.inl rfl) (fun b hb hp=>.inr ⟨hb,hp⟩) _ ?hsw bN.cell aa) KeepB.trans (KeepB.put ?hsw2) (Below.refl _ _) (fun _=>rfl)
     (fun L W=>((∀ x ∈ L,g x.val=B.getD x.val 0)/\W.cell? ⟨w.heap.size,0,none⟩=some (.slice bo p a)/\W.cell? ⟨w.heap.size+1,0,none⟩=some (.int .i64 0)/\W.frozen? ⟨w.heap.size+1,0,none⟩=false)/\Below w.heap.size w W)
     (fun c L W=>(c=.ret/\∃ V o,L=V ++ [o]/\(∀ x ∈ V,g x.val=B.getD x.val 0)/\g o.val≠B.getD o.val 0/\W.cell? ⟨w.heap.size+1,0,none⟩=some (.int .i64 (dR (g o.val) (B.getD o.val 0))))/\Below w.heap.size w W)
     (OwnFrom.and (Own.from (fun s A B aH hs hg hr=>⟨hs.1,cell_kept hs.2.1 hg hr,cell_kept hs.2.2.1 hg hr,(frozen_kept hs.2.2.1 hg hr).trans hs.2.2.2⟩) _) (ownFrom_below (leR _) (by simp;omega)))
     (fun c=>OwnFrom.and (Own.from (fun s A B aH hs hg hr=>by obtain ⟨hc,V,o,e1,e2,e3,e4⟩:=hs;exact ⟨hc,V,o,e1,e2,e3,cell_kept e4 hg hr⟩) _) (ownFrom_below (leR _) (by simp;omega)))
     ⟨⟨by simp,Ed _ ay,Ed _ ac,Cz _ ac az⟩,ax⟩
     ?act ?assign ?body ?done ?stop
    case hsw=>
     rintro k (rfl | ⟨hk,hp⟩)
     ·simp [I]
     ·have:=z k hk hp;simp [I];omega
    case hsw2=>
     rintro k (rfl | ⟨hk,hp⟩)
     ·simp [I]
     ·have:=z k hk hp;simp [I];omega
    case assign=>
     intro l x W K hK
     gi_wp2
     exact hK
    case body=>
     rintro l L x W ⟨⟨hp,al,E,an⟩,hB⟩ _;obtain ⟨aJ,q',av,e1,aC,_,_,_,h4⟩:=(Z.out W hB).open;cases e1
     have hx:=x.isLt;obtain ⟨b,off,rfl,hc⟩:=h4 x.val hx;have hN:=Fl (g x.val) (B.getD x.val 0) W;have HP:Hid (∀ x ∈ L,g x.val=B.getD x.val 0):=hp;have HX:Hid (∃ y,y=x):=⟨_,rfl⟩
     obtain ⟨yb,J⟩:∃ yb,yb=B.getD x.val 0:=⟨_,rfl⟩
     rw [<- J] at hN;rw [<- J] at hc;clear h4 hp rA rB Z aa;by_cases he:g x.val=yb
     ·rw [lF he] at hN;have HE:Hid (g x.val=B.getD x.val 0):=by rw [<- J];exact he
      clear J he hg
      gi_wp2_with (refine ⟨trivial,?_⟩;gi_at_call 117;refine (CallsIn.inRound l (callsIn_wide.2 hN)).mono ?_;rintro e w' ⟨rfl,rfl⟩)
      refine ⟨KeepsFrom.refl _ _,KeepB.refl _ _,⟨fun y hy=>?_,al,E,an⟩,hB⟩;rcases List.mem_append.1 hy with h | h
      ·exact HP.out y h
      ·rw [List.mem_singleton.1 h];exact HE.out
     ·have h0:dR (g x.val) yb≠0:=fun h=>he (mG.1 h)
      have HC:Hid (dR (g x.val) yb=dR (g x.val) (B.getD x.val 0)):=by rw [J];rfl
      have HE:Hid (g x.val≠B.getD x.val 0):=by rw [<- J];exact he
      generalize dR (g x.val) yb=C at *;clear J he hg
      gi_wp2_with (refine ⟨trivial,?_⟩;gi_at_call 117;refine (CallsIn.inRound l (callsIn_wide.2 hN)).mono ?_;rintro e w' ⟨rfl,rfl⟩)
      exact ⟨(KeepsOthers.setCell _ _ _).from _,⟨rfl,L,x,rfl,HP.out,HE.out,by rw [<- HC.out];exact World.cell?_setCell_same _ _ _ E⟩,hB.setCell (p:=⟨w.heap.size+1,0,none⟩) (by simp) _⟩
    case done=>
     rintro D ys W hD aq ⟨⟨M,al,E,an⟩,hB⟩ hK;have aw:A=B:=by
      apply List.ext_getElem
      ·rw [lA,lB]
      ·intro i h1 h2;obtain ⟨x,hx,aF⟩:=sV aq (aP i) (show i<p by omega);have:=M x hx;rw [aF,<- hg,aA,aA,aQ h1,aQ h2] at this;simpa using this
     rw [aw,lF rfl] at HR;clear M aq rA rB Z aa z hg;go_wp2;have ab:=(KeepsOthers.setCell W ⟨w.heap.size+1,0,none⟩ (.int .i64 0)).same D _ hK rfl;refine ⟨by simp,.inl ⟨_,_,rfl,run_takeDeferred ab,?_⟩⟩;have N:=cell_kept (World.cell?_setCell_same W ⟨w.heap.size+1,0,none⟩ (.int .i64 0) E) (grownBy_putObj' _ D (.deferred none)) (fun r e=>by cases e;exact ⟨_,ab,rfl⟩);have t:=(hB.setCell (p:=⟨w.heap.size+1,0,none⟩) (by simp) (.int .i64 0)).trans (belowK_b (w:=w) (leR _) _ D _ (.deferred none) (by simp [I] at hD;omega) ab rfl rfl);refine ⟨.int .i64 0,?_,by rw [HR.out],⟨t.os,t.tape,t.output,t.size,fun k hk _=>t.block k hk⟩⟩;simp [results,Tryz.f64,go_sem,N]
    case stop=>
     rintro D c L W hD ⟨r,hr,U⟩ ⟨⟨rfl,V,o,rfl,e2,e3,E⟩,hB⟩ hK;obtain ⟨H,T⟩:=yr hr U;rw [H,<- hg] at e3 E;have ad:=EQ dA dB (by rw [lA,lB]) (show r<A.length by omega) (fun j h1 h2=>by
      obtain ⟨x,hx,aG⟩:=sV T h1 (show j<p by omega);have:=e2 x hx
      rwa [aG,<- hg] at this) e3
     rw [ad,<- HR.out] at E;clear e2 e3 U T H rA rB Z aa z hg
     gi_wp2
     refine ⟨by simp,.inl ⟨_,_,rfl,run_takeDeferred hK,?_⟩⟩;have N:=cell_kept E (grownBy_putObj' _ D (.deferred none)) (fun r e=>by cases e;exact ⟨_,hK,rfl⟩);have t:=hB.trans (belowK_b (w:=w) (leR _) W D _ (.deferred none) (by simp [I] at hD;omega) hK rfl rfl);refine ⟨.int .i64 R,?_,rfl,⟨t.os,t.tape,t.output,t.size,fun k hk _=>t.block k hk⟩⟩;simp [results,Tryz.f64,go_sem,N]
   ·rw [show dR p q=R from HW.out.resolve_left (fun h=>hpq (mG.1 h))] at hC;have aK:R≠0:=by
     rw [<- HW.out.resolve_left (fun h=>hpq (mG.1 h))];exact fun h=>hpq (mG.1 h)
    go_wp2_with fail;refine hC.mono ?_;rintro e w3 ⟨rfl,rfl⟩;go_wp2;have N:=World.cell?_setCell_same w3 ⟨w.heap.size+1,0,none⟩ (.int .i64 R) ac;refine ⟨.int .i64 R,?_,rfl,ae.setCell ⟨w.heap.size+1,0,none⟩ (fun h=>absurd h (by simp)) _⟩;simp [results,Tryz.f64,go_sem,N]
  | _=>exact h.elim
 ·go_region_with (first
   | (go_at_call_of 114 ao;refine (X _ ?_).mono ?_;(first | exact G | exact G.drew | exact G.drewN _);rintro e w' ⟨rfl,rfl⟩)
   | (go_at_call_of 114 bo;refine (Y _ ?_).mono ?_;(first | exact G | exact G.drew | exact G.drewN _);rintro e w' ⟨rfl,rfl⟩))
  all_goals exact ⟨rfl,World.cell?_setCell_same _ _ _ ai,(World.cell?_setCell_other _ _ _ _ (by simp)).trans ak,(World.frozen?_setCell _ _ _ _).trans am,by simpa using ap,(G.setCell ⟨w.heap.size,0,none⟩ (fun h=>absurd h (by simp)) _).drew⟩

attribute [local go_sem] Oper.semAt_some

theorem AU (x y:Nat) (hx:x<72057594037927936) (hy:y<256):bits .or .u64 ((x:Int)*256) (y:Int)=((x*256+y:Nat):Int):=by
 have h:=u64_or_nat (x*256) y (by omega) (by omega);rw [nat_join 8 (x*256) y (by omega) (by omega)] at h;rw [show (x:Int)*256=((x*256:Nat):Int) by omega,h]

theorem zN (m:List Nat):∀ a,m.foldl (fun a b=>a*256+b) a=a*256^m.length+bev m:=by
 unfold bev
 induction m with
 | nil=>intro a;simp
 | cons x m ih=>
  intro a;rw [List.foldl_cons,ih,List.foldl_cons,ih (0*256+x),cI,aH];simp only [ja,dz,cJ,bf,iG,aF 256]

theorem iO (l m:List Nat):bev (l ++ m)=bev l*256^m.length+bev m:=by
 show (l ++ m).foldl _ 0=_
 rw [List.foldl_append,zN];rfl

theorem qZ {l:List Nat} (h:Digs l 256):bev l<256^l.length:=by
 induction l with
 | nil=>simp [bev]
 | cons x m ih=>
  have e:=iO [x] m;rw [ow] at e;have hx:=h.head;have hm:=ih h.tail;rw [e,cI,aH];have:(x+1)*256^m.length<=256*256^m.length:=bI _ hx;rw [cJ,jF] at this;have e2:bev [x]=x:=by simp [bev]
  rw [e2,aF (256^m.length)];omega

theorem IA (ao:Option Addr) (a g:Nat) (bs:List Nat) (w:World) (h:Row .u8 w (.slice ao a g) bs) (hd:Digs bs 256) (hl:a<=8) :
  Calls prog 171 #[.slice ao a g] w fun e w'=>e=.returned (.int .u64 (bev bs:Nat))/\w'=w:=by
 obtain ⟨n,m,j,e,hL,_,_,_,d⟩:=h.open;cases e
 have HR:Hid (∀ i,i<a->NumAt .u8 w ao bs i):=d;clear d h;have o:min (a:Int) 8=(a:Int):=by omega
 have c:bs.take a=bs:=by rw [dJ];have:=hL.out;omega
 have HA:Hid (bev (bs.take a)=bev bs):=congrArg bev c;clear c;go_enter func171,ntmps171;go_wp2_with fail;go_loop [3,8] (fun x i=>∃ k:Nat,k<=a/\i=.int .i64 (k:Int)/\∃ t:Nat,Hid (t=bev (bs.take k))/\x=.int .u64 (t:Int)) (fun _ i=>((a:Int)-intOf i).toNat)
 case atStart=>exact ⟨0,by omega,rfl,0,by simp [Hid,bev],rfl⟩
 case round=>
  obtain ⟨k,hk,rfl,t,ht,rfl⟩:=hrel;by_cases hp:k<a
  ·obtain ⟨b,off,rfl,hc⟩:=HR.out k hp;have hz:bs.getD k 0<256:=hd.getD (by omega) k;have l:t<72057594037927936:=by
    rw [ht.out];have h1:=qZ (hd.take k);have h2:(256:Nat)^(bs.take k).length<=256^7:=aY (by omega) (by rw [aO];omega);omega
   have hs:Hid (bev (bs.take (k+1))=t*256+bs.getD k 0):=by
    unfold Hid;rw [ht.out];exact lP (by have:=hL.out;omega)
   generalize bs.getD k 0=z at *;have p:=AU t z l hz;go_wp2_with fail;go_round
   case rel=>exact ⟨k+1,by omega,by go_num,t*256+z,hs.out.symm,rfl⟩
   case measure=>simp [intOf];omega
  ·obtain rfl:k=a:=by omega
   go_wp2_with fail;go_ret;have f:=ht.out.trans HA.out;exact ⟨by rw [f];rfl,rfl⟩

theorem Row.tail {k:IntKind} {w:World} {b off m c:Nat} {z:Nat} {zs:List Nat} (h:Row k w (.slice (some ⟨b,off,none⟩) (m+1) c) (z :: zs)) (hc:1<c):Row k w (.slice (some ⟨b,off+1,none⟩) m (c-1)) zs:=by
 obtain ⟨ao,d,e,h1,h2,_,h4⟩:=h;cases e
 refine ⟨_,_,rfl,by simp at h1;omega,by omega,(fun e=>by cases e),fun i hi=>?_⟩;obtain ⟨b',f,e,a⟩:=h4 (i+1) (by simp;omega);cases e
 exact ⟨b,off+1,rfl,by rw [show off+1+i=off+(i+1) by omega,a];rfl⟩

theorem Row.none0 (k:IntKind) (w:World) (ao:Option Addr) (a:Nat) (hc:a<=maxLen) (hn:ao=none->a=0):Row k w (.slice ao 0 a) []:=⟨ao,a,rfl,aP _,hc,hn,fun i hi=>absurd hi (by simp)⟩

theorem Fo (v:Value) (bs:List Nat) (w:World) (h:Row .u8 w v bs) :
  Calls prog 166 #[v,.int .u8 0] w fun r w'=>∃ v',r=.returned v'/\∃ k,Row .u8 w v' (bs.drop k)/\k<=bs.length/\(∀ i,i<k->bs.getD i 0=0)/\(k=bs.length\/bs.getD k 0≠0)/\(v'.ownBlock=v.ownBlock\/v'.ownBlock=none)/\w'=w:=by
 obtain ⟨ob,t⟩:∃ ob,ob=v.ownBlock:=⟨_,rfl⟩
 rw [<- t];have E:Hid (v.ownBlock=ob):=t.symm;clear t;obtain ⟨ao,n,H,rfl,hL,h1,h2,h3,_⟩:=h.open;have hr:=h;clear h;go_enter func166,ntmps166;go_wp2_with fail;go_loop [0] (fun a=>∃ k,Hid (k<=bs.length/\Row .u8 w a (bs.drop k)/\(∀ i,i<k->bs.getD i 0=0)/\a.ownBlock=ob)) (fun a=>uF a)
 case atStart=>exact ⟨0,aP _,by simpa using hr,fun i hi=>by omega,E.out⟩
 case round=>
  obtain ⟨k,hk⟩:=hrel;obtain ⟨p,c,hz,g⟩:=hk.out;obtain ⟨G,m,d,rfl,hM,g1,g2,g3,g4⟩:=c.open;have HM:Hid (m=bs.length-k):=by have:=hM.out;rw [b9] at this;exact this.symm
  cases m with
  | zero=>
   have C:Hid (k=bs.length):=by have:=HM.out;show k=bs.length;omega
   clear g4 c hr g hz h1 h2 h3 hL hM p;go_wp2;go_ret;obtain ⟨p,c,hz,g⟩:=hk.out;exact ⟨_,rfl,k,by rw [mj (by have:=C.out;omega)];exact Row.nil _ _,p,hz,.inl C.out,.inr rfl,rfl⟩
  | succ j=>
   obtain ⟨b,off,rfl,hc⟩:=g4 0 (by omega);rw [aU] at hc;have B:(bs.drop k).getD 0 0=bs.getD k 0:=by rw [aA,et,aA];rfl
   rw [B] at hc;have l:k<bs.length:=by have:=HM.out;omega
   have f:bs.drop k=bs.getD k 0 :: bs.drop (k+1):=by rw [dU l,aA,aQ l];rfl
   obtain ⟨z,x⟩:∃ z,z=bs.getD k 0:=⟨_,rfl⟩
   rw [<- x] at hc f;rw [f] at c;have HZ:Hid (z=bs.getD k 0):=x;have q:Hid (Row .u8 w (.slice (some ⟨b,off,none⟩) (j+1) d) (z :: bs.drop (k+1))):=c;have y:Hid (k<bs.length):=l;clear x g4 c hr g hz h1 h2 h3 hL hM p B f l;by_cases h0:z=0
   ·subst h0;have o:∀ i,i<k+1->bs.getD i 0=0:=fun i hi=>by
     by_cases e:i=k
     ·subst e;exact HZ.out.symm
     ·exact hk.out.2.2.1 i (by omega)
    have A:Hid (∀ i,i<k+1->bs.getD i 0=0):=o;clear o;by_cases hcap:d=1
    ·obtain rfl:j=0:=by omega
     subst hcap;have s:Hid (bs.drop (k+1)=[]):=by
      show bs.drop (k+1)=[]
      rw [mj];have:=HM.out;omega
     go_wp2;go_round
     case rel=>exact ⟨k+1,y.out,by rw [s.out];exact Row.none0 _ _ _ _ (by unfold maxLen;omega) (fun e=>by cases e),A.out,hk.out.2.2.2⟩
     case measure=>simp [uF]
    ·have F:1<d:=by omega
     have I:(1:Int)<=(d:Int):=by omega
     have J:¬ (1:Nat)=d:=by omega
     have L:¬ (1:Int)=(d:Int):=by omega
     go_wp2;go_round
     case rel=>exact ⟨k+1,y.out,q.out.tail F,A.out,hk.out.2.2.2⟩
     case measure=>simp [uF]
   ·have M:((z:Int) == 0)=false:=by simp;omega
    have N:¬ ((z:Int)=0):=by omega
    have D:Hid (bs.getD k 0≠0):=by rw [<- HZ.out];exact h0
    go_wp2;go_ret;obtain ⟨p,c,hz,g⟩:=hk.out;exact ⟨_,rfl,k,c,p,hz,.inr D.out,.inl g,rfl⟩

theorem Hb (v:Value) (bs:List Nat) (w:World) (h:Row .u8 w v bs) :
  Calls prog 112 #[v,.string { data:=#[0] }] w fun r w'=>∃ v',r=.returned v'/\∃ k,Row .u8 w v' (bs.drop k)/\k<=bs.length/\(∀ i,i<k->bs.getD i 0=0)/\(k=bs.length\/bs.getD k 0≠0)/\(v'.ownBlock=v.ownBlock\/v'.ownBlock=none)/\w'=w:=by
 have hT:=Fo v bs w h;obtain ⟨ao,n,c,rfl,hL,h1,h2,h3,_⟩:=h.open;cases n with
 | zero=>
  have b:bs=[]:=jZ hL.out;subst b;clear hT hL h;go_enter func112,ntmps112;go_wp2_with fail;go_ret;exact ⟨_,rfl,0,Row.nil _ _,leR _,fun i hi=>by omega,.inl rfl,.inr rfl,rfl⟩
 | succ j=>
  clear h;go_enter func112,ntmps112;go_wp2_with fail;refine hT.mono ?_;rintro e w' ⟨v',rfl,a⟩;go_wp2_with fail;go_ret;exact ⟨v',rfl,a⟩

attribute [local go_sem] Oper.semAt_some

theorem pX {bs:List Nat} (hd:Digs bs 256) (i:Nat) (h:8*i<bs.length) :
  bev ((bs.drop (bs.length-8*(i+1))).take (bs.length-8*i-(bs.length-8*(i+1))))=dig (bev bs) i:=by
 obtain ⟨s,hs⟩:∃ s,s=bs.length-8*(i+1):=⟨_,rfl⟩
 obtain ⟨e,he⟩:∃ e,e=bs.length-8*i:=⟨_,rfl⟩
 rw [<- hs,<- he];have f:s<e:=by omega
 have d:e<=bs.length:=by omega
 have a:bs=(bs.take s ++ (bs.drop s).take (e-s)) ++ bs.drop e:=by
  rw [dr];have h2:(bs.drop s).take (e-s) ++ bs.drop e=bs.drop s:=by
   have:=jD (e-s) (bs.drop s);rw [iY,show s+(e-s)=e by omega] at this;exact this
  rw [h2,jD]
 have b:bev bs=(bev (bs.take s)*256^(e-s)+bev ((bs.drop s).take (e-s)))*256^(8*i)+bev (bs.drop e):=by
  conv=>lhs;rw [a]
  rw [iO,iO,aO,b9,b9,cL (by omega),show bs.length-e=8*i by omega]
 have h1:bev (bs.drop e)<256^(8*i):=by
  have:=qZ (hd.drop e)
  rwa [b9,show bs.length-e=8*i by omega] at this
 have h2:bev ((bs.drop s).take (e-s))<256^(e-s):=by
  have:=qZ ((hd.drop s).take (e-s))
  rwa [aO,b9,cL (by omega)] at this
 have h3:e-s=8\/s=0:=by omega
 have c:e-s<=8:=by omega
 generalize bev ((bs.drop s).take (e-s))=M at *;have hp:(18446744073709551616:Nat)^i=256^(8*i):=by rw [bh]
 unfold dig;rw [hp,b,aF _ (256^(8*i)),fH (aC (by omega)),bj h1,aU];rcases h3 with h8 | h0
 ·rw [h8] at h2 ⊢;rw [show (256:Nat)^8=18446744073709551616 from rfl] at h2 ⊢;omega
 ·subst h0;have h4:M<18446744073709551616:=bd h2 (aR (aY (by omega) c) (leR (256^8)));rw [mx,show bev []=0 from rfl,ja,dz,ax h4]

theorem Row.part {k:IntKind} {w:World} {b off n c s e:Nat} {zs:List Nat} (h:Row k w (.slice (some ⟨b,off,none⟩) n c) zs) (h1:s<e) (h2:e<=n):Row k w (.slice (some ⟨b,off+s,none⟩) (e-s) (c-s)) ((zs.drop s).take (e-s)):=by
 obtain ⟨ao,d,e',c1,c2,_,h4⟩:=h;cases e'
 have hl:((zs.drop s).take (e-s)).length=e-s:=by rw [aO,b9];omega
 refine ⟨_,_,by rw [hl],by omega,by omega,(fun e=>by cases e),fun i hi=>?_⟩;rw [hl] at hi;obtain ⟨b',f,e',a⟩:=h4 (s+i) (by omega);cases e'
 refine ⟨b,off+s,rfl,?_⟩;rw [iG,a,aA,aA,dV,ah hi,et]

theorem IT (n:Nat) (hn:1<=n) (l Bs L:Nat) (g:Nat->Nat) (v:Value) (bs:List Nat) (hd:Digs bs 256) (hL:Hid ((bs.length+7)/8=L)) (hg:Hid (∀ j,dig (bev bs) j=g j)) (S:Nat->Prop) (hS:S Bs) (F:∀ b,v.ownBlock=some b->0<L->S b)
  (J Jx:List (Fin L)->World->Prop)
  (hY:∀ a (x:Fin L) W,J a W->a.length<L->YieldAt Fence.wide (n-1) prog l #[.int .i64 (x.val:Nat),.int .u64 (g x.val:Nat)] W fun e W'=>
   (e=.returned (.bool true)/\J (a ++ [x]) W'/\KeepB S W W')\/(e=.returned (.bool false)/\Jx (a ++ [x]) W'))
  (W:World) (D:W.cell? ⟨Bs,0,none⟩=some v) (hr:Row .u8 W v bs) (h0:J [] W) :
  CallsIn Fence.wide n prog 170 #[.func (.yield l) #[] #[],.pointer (some ⟨Bs,0,none⟩)] W fun e W'=>(∃ v,e=.returned v) /\
   ((∃ ys,ys.map Fin.val=List.range L/\J ys W')\/(∃ a,True/\Jx a W')):=by
 obtain ⟨ao,m,B,rfl,hN,c1,c2,c3,f⟩:=hr.open;have HL:Hid ((m+7)/8=L):=by rw [<- hN.out];exact hL
 have o:Hid (Row .u8 W (.slice ao m B) bs):=hr;have d:Hid (∀ i,i<m->NumAt .u8 W ao bs i):=f;clear f hr hL;refine callsIn_of_wp func170 rfl trivial ?_ rfl;simp only [ntmps170,iF,cI,eS,Nat.reduceAdd,Nat.reduceSub,iB,iC,iE,iD,bw,fd]
 gi_wp2
 gi_loopw [3,4] (fun e i wr=>∃ k r:Nat,Hid (k<=L/\r=m-8*k)/\r<=m/\e=.int .i64 (r:Int)/\i=.int .i64 (k:Int)/\(∃ a:List (Fin L),Hid (a.map Fin.val=List.range k)/\J a wr)/\KeepB S W wr)
  (fun e _ _=>(intOf e).toNat)
 case atStart=>exact ⟨0,m,⟨aP _,by omega⟩,leR _,rfl,rfl,⟨[],by simp [Hid],h0⟩,KeepB.refl _ _⟩
 case round=>
  obtain ⟨k,r,z,M,rfl,rfl,⟨a,c,C⟩,y⟩:=hrel;cases r with
  | zero=>
   have HK:Hid (k=L):=by have h1:=z.out;have h2:=HL.out;show k=L;omega
   gi_wp2
   go_end0
   exact ⟨⟨_,rfl⟩,.inl ⟨a,by rw [c.out,HK.out],C⟩⟩
  | succ q=>
   have w:k<L:=by have h1:=z.out;have h2:=HL.out;omega
   have hq:8*k+(q+1)=m:=by have h1:=z.out;omega
   have I:k<4611686018427387904:=by omega
   obtain ⟨s,hs⟩:∃ s:Nat,s=m-8*(k+1):=⟨_,rfl⟩
   have P:max ((q:Int)+1-8) 0=(s:Int):=by omega
   have N:s<q+1:=by omega
   have O:q+1-s<=8:=by omega
   have HS:Hid (s=m-8*(k+1)):=hs;clear hs;obtain ⟨b,off,rfl,_⟩:=d.out 0 (by omega);have h:=o.out.part N M;have hG:=IA (some ⟨b,off+s,none⟩) (q+1-s) (B-s) _ wr (y.row (fun b' hb hp=>by cases hb;exact F b rfl (by omega)) h) ((hd.drop s).take _) O;have hw:bev ((bs.drop s).take (q+1-s))=g k:=by
    rw [<- hg.out,<- pX hd k (by have:=hN.out;omega),hN.out,<- HS.out,show m-8*k=q+1 by omega]
   rw [hw] at hG;have G:=(y.cell (p:=⟨Bs,0,none⟩) hS).trans D;have A:a.length<L:=by
    have:=congrArg List.length c.out;rw [cf,mo] at this;omega
   obtain ⟨fn,tmps,assign,body,hy,hR⟩:=hY a ⟨k,w⟩ wr C A;dsimp only at hy;clear hw h d hq
   gi_wp2_with fail
   refine ⟨trivial,?_⟩;refine (callsIn_wide.2 hG).mono ?_;rintro e w' ⟨rfl,rfl⟩
   gi_wp2
   refine hR.mono ?_;rintro e W3 (⟨rfl,E,H⟩ | ⟨rfl,t⟩)
   ·gi_wp2
    go_roundw
    case rel=>exact ⟨k+1,s,⟨w,HS.out⟩,by have:=HS.out;omega,rfl,by go_num,⟨a ++ [⟨k,w⟩],by unfold Hid;rw [dt,c.out,j5];rfl,E⟩,y.trans H⟩
    case measure=>simp [intOf];omega
   ·gi_wp2
    refine bodyPost_ret (results_none rfl _ _ _) rfl ?_;exact ⟨⟨_,rfl⟩,.inr ⟨_,trivial,t⟩⟩

theorem Ge (ao:Option Addr) (b a:Nat) (w:World) :
  Calls prog 113 #[.slice ao b a] w fun e w'=>e=.returned (.func (.func 170) #[] #[.pointer (some ⟨w.heap.size,0,none⟩)])/\w'=w.alloc (.cells #[.slice ao b a] 27):=by
 go_enter func113,ntmps113;go_wp2;go_ret;exact ⟨rfl,rfl⟩

theorem B2 (n:Nat) (hn:1<=n) (Bs L:Nat) (g:Nat->Nat) (v:Value) (bs:List Nat) (hd:Digs bs 256) (hL:(bs.length+7)/8=L) (hg:∀ j,dig (bev bs) j=g j) (S:Nat->Prop) (hS:S Bs) (a:∀ b,v.ownBlock=some b->0<L->S b)
  (w:World) (d:∀ k,S k->k<w.heap.size) (c:w.cell? ⟨Bs,0,none⟩=some v) (hr:Row .u8 w v bs) :
  SeqStopsK Fence.wide n prog 170 #[.pointer (some ⟨Bs,0,none⟩)] (fun x:Fin L=>#[Value.int .i64 (x.val:Nat),Value.int .u64 (g x.val:Nat)]) (KeepB S) (fun ys=>ys.map Fin.val=List.range L) (fun _=>True) L w:=fun l J Jx W hW _ _ hY h0=>by
 have hk:KeepB S w W:=fun k hk=>hW.block k (d k hk)
 exact IT n hn l Bs L g v bs hd hL hg S hS a J Jx hY W ((hk.cell (p:=⟨Bs,0,none⟩) hS).trans c) (hk.row (fun b hb hp=>a b hb (by omega)) hr) h0

attribute [local go_sem] Oper.semAt_some

theorem zM {bs:List Nat} {k:Nat} (hk:k<=bs.length) (hz:∀ i,i<k->bs.getD i 0=0):bev (bs.drop k)=bev bs:=by
 have h:bev (bs.take k)=0:=by
  have a:∀ d ∈ bs.take k,d=0:=by
   intro d hd;obtain ⟨i,hi,rfl⟩:=List.mem_iff_getElem.1 hd;have b:i<k:=by rw [aO] at hi;omega
   have:=hz i b;rw [aA,aQ (by omega)] at this;simpa using this
  have:∀ l:List Nat,(∀ d ∈ l,d=0)->bev l=0:=by
   intro l
   induction l with
   | nil=>intro _;rfl
   | cons x m ih=>
    intro h;have e:=iO [x] m;rw [ow] at e;rw [e,ih (fun d hd=>h d (by simp [hd])),show bev [x]=x by simp [bev],h x (by simp),ja]
  exact this _ a
 have e:=iO (bs.take k) (bs.drop k);rw [jD,h,ja,dz] at e;exact e.symm

theorem om {bs:List Nat} (hd:Digs bs 256) (a:bs.length=0\/bs.getD 0 0≠0) (m:Nat):ar (bev bs)<=m↔bs.length<=8*m:=by
 rw [aG];have hp:(18446744073709551616:Nat)^m=256^(8*m):=by rw [bh]
 rw [hp];constructor
 ·intro h;rcases a with h0 | h0
  ·omega
  ·cases bs with
   | nil=>simp
   | cons x t=>
    have hx:x≠0:=by simpa using h0
    have e:=iO [x] t;rw [ow,show bev [x]=x by simp [bev]] at e;have h1:1*256^t.length<=x*256^t.length:=bI _ (by omega);have h2:(256:Nat)^t.length<256^(8*m):=by omega
    have:=(Nat.pow_lt_pow_iff_right (by omega:1<256)).1 h2;simp only [cI];omega
 ·intro h;exact bd (qZ hd) (aY (by omega) h)

def Put (g:Nat->Nat) (L n:Nat) (pre:List (Fin L)) (zs:List Nat):Prop:=zs.length=n/\∀ j,zs.getD j 0=if j ∈ pre.map Fin.val then g j else 0

theorem Put.step {g:Nat->Nat} {L n:Nat} {a:List (Fin L)} {zs:List Nat} (h:Put g L n a zs) (x:Fin L) (hx:x.val<n):Put g L n (a ++ [x]) (zs.set x.val (g x.val)):=by
 refine ⟨by rw [lj];exact h.1,fun j=>?_⟩;rw [aA,List.getElem?_set,dt];by_cases e:x.val=j
 ·subst e;simp [h.1,hx]
 ·rw [ai e,<- aA,h.2 j];have:¬ j=x.val:=fun h=>e h.symm
  simp [this]

theorem Put.all {g:Nat->Nat} {L n V:Nat} {a:List (Fin L)} {zs:List Nat} (h:Put g L n a zs) (hp:a.map Fin.val=List.range L) (hg:∀ j,dig V j=g j) (hV:ar V<=L):zs=digs V n:=by
 apply List.ext_getElem
 ·rw [h.1,ag]
 ·intro i h1 h2;have e:=h.2 i;rw [hp,aA,aQ h1,jn] at e;have e2:=iQ 18446744073709551616 V n i (by rw [<- h.1];exact h1);rw [aA,aQ h2,jn] at e2;rw [e,e2];by_cases hi:i<L
  ·rw [ah (by simpa using hi),hg]
  ·rw [ai (by simpa using hi)];unfold dig;rw [bj ((aG V i).1 (by omega)),iI]

attribute [local go_sem] Oper.semAt_some

theorem IB (v:Value) (bs:List Nat) (n:Int) (w:World) (h:Row .u8 w v bs) (hd:Digs bs 256) :
  Calls prog 63 #[v,.int .i64 n] w fun r w'=>∃ v',r=.returned (.tuple #[v',.int .i64 (dF (bev bs) n)])/\OwnN .u64 24 w' w.heap.size v' (ei (bev bs) n).length (ei (bev bs) n)/\Kept af w w':=by
 obtain ⟨i0,ak,am,an,ap⟩:=info_parts Tryz.info24;have hE:=xh n w;have hT:=Hb v bs w h;refine (callsIn_wide (n:=9)).1 ?_;refine callsIn_of_wp_marks func63 rfl trivial ?_ rfl;simp only [ntmps63,iF,cI,eS,Nat.reduceAdd,Nat.reduceSub,iB,iC,iE,iD,bw,fd];refine wpIn_wide.2 ?_;obtain ⟨RC,O⟩:∃ RC,RC=dF (bev bs) n:=⟨_,rfl⟩
 obtain ⟨RL,P⟩:∃ RL,RL=ei (bev bs) n:=⟨_,rfl⟩
 rw [<- O,<- P];have HC:Hid (RC=dF (bev bs) n):=O;have HL:Hid (RL=ei (bev bs) n):=P;clear O P;by_cases h1:300<n
 ·obtain ⟨e1,e2⟩:=tz (V:=bev bs) h1;rw [e1] at HC;rw [e2] at HL;rw [ah h1] at hE;clear e1 e2 hT;go_wp2_with fail;refine hE.mono ?_;rintro e w' ⟨rfl,rfl⟩;go_wp2;exact ⟨_,results_tmp2 rfl _ _ _,_,by rw [HC.out];rfl,by rw [HL.out];exact World.ownsRow_nil _ _ _ _,aj _ _⟩
 ·rw [ai h1] at hE;by_cases h2:n<0
  ·obtain ⟨e1,e2⟩:=lH (V:=bev bs) h1 (.inl h2);rw [e1] at HC;rw [e2] at HL;rw [ah h2] at hE;clear e1 e2 hT;go_wp2_with fail;refine hE.mono ?_;rintro e w' ⟨rfl,rfl⟩;go_wp2;exact ⟨_,results_tmp2 rfl _ _ _,_,by rw [HC.out];rfl,by rw [HL.out];exact World.ownsRow_nil _ _ _ _,aj _ _⟩
  ·rw [ai h2] at hE;obtain ⟨m,rfl⟩:=dY (show 0<=n by omega);go_wp2_with fail;refine hE.mono ?_;rintro e w' ⟨rfl,rfl⟩;go_wp2_with fail;refine hT.mono ?_;rintro e w' ⟨v',rfl,k,hr,hk,hz,T,al,rfl⟩;have E:=zM hk hz;have Q:=hd.drop k;have o:(bs.drop k).length=0\/(bs.drop k).getD 0 0≠0:=by
    rcases T with e | e
    ·left;rw [b9];omega
    ·right;rw [aA,et,<- aA];exact e
   have a:=om Q o m;have X:=(om Q o (((bs.drop k).length+7)/8)).2 (by omega);rw [<- E] at HC HL;clear hT hE hz T o E hd h hk;generalize bs.drop k=cs at *;clear al;obtain ⟨ao,q,i,rfl,N,g1,g2,g3,g4⟩:=hr.open;rw [N.out] at a;have h8:wrap64 (8*(m:Int))=8*m:=by simp [wrap64];omega
   by_cases h3:q<=8*m
   ·obtain ⟨e1,e2⟩:=rP (V:=bev cs) (n:=m) (by omega) (a.2 h3);rw [e1] at HC;rw [e2] at HL;have ab:¬ (q:Int) > 8*(m:Int):=by omega
    have HW:Hid (ar (bev cs)<=(cs.length+7)/8):=X;have au:(cs.length+7)/8<=m:=by have:=N.out;omega
    clear e1 e2 a X;have M:Hid (Row .u8 w' (.slice ao q i) cs):=hr;clear hr;go_wp2_with (at_make;refine wpList_make_full _ rfl _ _ 23 rfl w'.heap.size 24 i0 _ 1 underlying23 ak am an _ _ _ _ m rfl rfl rfl rfl (by rw [ap];omega) (by unfold maxLen;omega) (leR _) ?_;intro w1 I S;rw [bg] at I;have k1:=aV S);have ae:=lt_of_block (gV I);have Z:Hid _:=I;clear I S;have hD:=Ge ao q i (w1.alloc (.cells #[.slice (some ⟨w'.heap.size,0,none⟩) m m] 23));refine hD.mono ?_;rintro e w2 ⟨rfl,rfl⟩;clear hD;have bX:=Boxed.new w1 23 (.slice (some ⟨w'.heap.size,0,none⟩) m m)
    have bN:=Boxed.new (w1.alloc (.cells #[.slice (some ⟨w'.heap.size,0,none⟩) m m] 23)) 27 (.slice ao q i);rw [World.size_alloc] at bN;have kA:=(k1.alloc (.cells #[.slice (some ⟨w'.heap.size,0,none⟩) m m] 23)).alloc (.cells #[.slice ao q i] 27);have ac:=kA.below (leR _) (fun _ f=>f.elim);have y:=M.out.grew kA;have t:∀ b,(Value.slice ao q i).ownBlock=some b->0<(cs.length+7)/8->b<w'.heap.size:=by
     intro b hb hp;obtain ⟨b',off,rfl,hc⟩:=g4 0 (by have:=N.out;omega);cases hb
     exact World.block_lt_of_cell? w' _ hc
    clear g4;obtain ⟨g,hg⟩:∃ g:Nat->Nat,∀ j,dig (bev cs) j=g j:=⟨_,fun _=>rfl⟩
    have HG:Hid (∀ j,dig (bev cs) j=g j):=hg;go_wp2_with fail;refine (wpIn_wide (n:=9)).1 ?_;refine wpIn_rangeFunc_ownG (F:=Fence.wide) (n:=9) rfl (by omega) (gf:=170) (lb:=#[.pointer (some ⟨w1.heap.size+1,0,none⟩)]) rfl trivial (enters_of func170 (by kernel_rfl) rfl)
     (B2 8 (by omega) (w1.heap.size+1) ((cs.length+7)/8) g (.slice ao q i) cs Q rfl hg (fun k=>k=w1.heap.size+1\/((Value.slice ao q i).ownBlock=some k/\0<(cs.length+7)/8)) (.inl rfl) (fun b hb hp=>.inr ⟨hb,hp⟩) _ ?hsw bN.cell y) KeepB.trans (KeepB.put ?hsw2) (Below.refl _ _) (fun _=>rfl)
     (fun J W=>((∃ zs:List Nat,W.ownsRow w'.heap.size 24 1 (.slice (some ⟨w'.heap.size,0,none⟩) m m) m (zs.map fun z=>.int .u64 (z:Nat))/\Put g ((cs.length+7)/8) m J zs)/\Boxed W w1.heap.size 23 (.slice (some ⟨w'.heap.size,0,none⟩) m m))/\Below w'.heap.size w' W)
     (fun _ _ _=>False)
     (OwnFrom.and (Own.from (fun s A B av hs hg hr=>⟨by obtain ⟨zs,h1,h2⟩:=hs.1;exact ⟨zs,pD h1 hg hr,h2⟩,tU hs.2 hg hr⟩) _) (ownFrom_below (leR _) (by simp;omega)))
     (fun _ _ _ _ _ hs _ _=>hs)
     ⟨⟨⟨List.replicate m 0,World.ownsRow.alloc (World.ownsRow.alloc Z.out _) _,by simp,fun j=>by rw [aA,ee];split <;> simp⟩,bX.alloc _⟩,ac⟩
     ?act ?assign ?body ?done ?stop
    case hsw=>
     rintro k (rfl | ⟨hk,hp⟩)
     ·simp
     ·have:=t k hk hp;simp;omega
    case hsw2=>
     rintro k (rfl | ⟨hk,hp⟩)
     ·simp
     ·have:=t k hk hp;simp;omega
    case assign=>
     intro l x W K hK
     gi_wp2
     exact hK
    case body=>
     rintro l J x W ⟨⟨⟨zs,G,d⟩,H⟩,hB⟩ _;have hx:=x.isLt;have R:x.val<m:=by omega
     have hc:W.cell? ⟨w'.heap.size,x.val,none⟩=some (.int .u64 (zs.getD x.val 0:Nat)):=by
      rw [World.ownsRow.cellAt G x.val (by omega),bu,aQ (by rw [d.1];exact R),aA,aQ (by rw [d.1];exact R)];rfl
     have hf:=World.ownsRow.frozenAt G x.val;have U:=(World.ownsRow.stored G x.val (.int .u64 (g x.val:Nat))).1;have ad:=H.cell;have L:Hid (Put g ((cs.length+7)/8) m (J ++ [x]) (zs.set x.val (g x.val))):=d.step x R;have aa:Hid (World.ownsRow (W.setCell ⟨w'.heap.size,x.val,none⟩ (.int .u64 (g x.val:Nat))) w'.heap.size 24 1 (.slice (some ⟨w'.heap.size,0,none⟩) m m) m ((zs.map fun z=>.int .u64 (z:Nat)).set x.val (.int .u64 (g x.val:Nat)))):=U;generalize zs.getD x.val 0=old at *;clear U d hg y
     gi_wp2
     refine ⟨(KeepsOthers.setCell _ _ _).from _,?_,⟨⟨zs.set x.val (g x.val),by rw [bZ];exact aa.out,L.out⟩,fM H (show w1.heap.size≠w'.heap.size by omega) _⟩,hB.setCell (p:=⟨w'.heap.size,x.val,none⟩) (leR _) _⟩;rintro k (rfl | ⟨hk,hp⟩)
     ·exact Below.heap_setCell W _ _ _ (show w1.heap.size+1≠w'.heap.size by omega)
     ·have:=t k hk hp;exact Below.heap_setCell W _ _ _ (show k≠w'.heap.size by omega)
    case done=>
     rintro D ys W hD Y ⟨⟨⟨zs,G,d⟩,H⟩,hB⟩ hK;have aq:=d.all Y HG.out HW.out;subst aq;have ad:=H.cell;clear d hg y Y;go_wp2;refine ⟨by simp,.inl ⟨_,_,rfl,run_takeDeferred hK,?_⟩⟩;have C:=hB.trans (belowK_b (w:=w') (leR _) W D _ (.deferred none) (by simp at hD;omega) hK rfl rfl);refine ⟨_,results_tmp2 rfl _ _ _,_,by rw [HC.out];rfl,?_,⟨C.os,C.tape,C.output,C.size,fun k hk _=>C.block k hk⟩⟩;rw [HL.out];rw [ag];exact pD G (grownBy_putObj' _ D (.deferred none)) (fun r e=>by cases e;exact ⟨_,hK,rfl⟩)
    case stop=>
     rintro D c J W _ _ h _;exact h.elim
   ·obtain ⟨e1,e2⟩:=lH (V:=bev cs) (n:=(m:Int)) (by omega) (.inr (by simp;omega));rw [e1] at HC;rw [e2] at HL;have ab:(q:Int) > 8*(m:Int):=by omega
    clear e1 e2 a g4 hr;go_wp2;exact ⟨_,results_tmp2 rfl _ _ _,_,by rw [HC.out];rfl,by rw [HL.out];exact World.ownsRow_nil _ _ _ _,aj _ _⟩

theorem Fm (v:Value) (bs:List Nat) (n:Int) (w:World) (h:Row .u8 w v bs) (hd:Digs bs 256) :
  Calls prog 63 #[v,.int .i64 n] w fun r w'=>∃ v',r=.returned (.tuple #[v',.int .i64 (dF (bev bs) n)])/\Row .u64 w' v' (ei (bev bs) n)/\(∀ b,v'.ownBlock=some b->w.heap.size<=b)/\Kept af w w':=by
 refine (IB v bs n w h hd).mono ?_;rintro e w' ⟨v',he,h1,h2⟩;exact ⟨v',he,Row.of_own h1,fun b hb=>(World.ownsRow.lt h1 b hb).1,h2⟩

end Go.Proofs.YtkaojflnghfmcaaGreatDoor
