/- Put together of: LimP Pow2. -/
import Derived.Test.YtkaojflnghfmcaaGreatDoorQC13

namespace Go.Proofs.YtkaojflnghfmcaaGreatDoor
open _root_.Go.Proofs.Tryz
set_option maxRecDepth 100000
set_option maxHeartbeats 4000000
open Go.RowKit

theorem Slots.did {w w':World} {o o':Tr} {m:List Ev} {ao:Option Addr} {n:Nat} {A:Nat->Option Addr} {L C:Nat->Nat} (h:Slots w ao n A L C) (d:Did w o m w' o') (c:∀ a,ao=some a->¬ cN o a.block):Slots w' ao n A L C:=by
 intro i hi;obtain ⟨b,off,rfl,hc⟩:=h i hi;exact ⟨b,off,rfl,(World.cell?_of_block (a:=⟨b,off+i,none⟩) (d.kept.block b (World.block_lt_of_cell? w _ hc) (c _ rfl))).trans hc⟩

theorem DF (V U n q:Nat) (h:q<n):(digs V q ++ (digs U n).drop q).set q (dig V q)=digs V (q+1) ++ (digs U n).drop (q+1):=by
 rw [gH _ _ (by rw [ag];omega),ag,bJ,dU (show q<(digs U n).length by rw [ag];exact h),digs,lsZ,dr];rfl

theorem AH {w:World} {base g n q V U:Nat} {t:TypeId} (h:OwnN .u64 t w base (.slice (some ⟨g,0,none⟩) n n) n (digs V q ++ (digs U n).drop q)) (hq:q<n):w.cell? ⟨g,q,none⟩=some (.int .u64 (dig U q:Nat)):=by
 rw [World.ownsRow.cellAt h q (by omega),bu,ig (by rw [ag];omega),ag,bJ,et,aU,<- iQ 18446744073709551616 U n q hq,aA,aQ (show q<(digs U n).length by rw [ag];exact hq)];rfl

def gZ (X:Nat->Nat) (i p:Nat):Nat:=if i<p then X i else 0

theorem A3 (X:Nat->Nat) (i p q:Nat):bits .or .u64 (dig (gZ X i p) q:Nat) (bits .and .u64 (dig (X p) q:Nat) (msk (eqw (p:Int) (i:Int))))=(dig (gZ X i (p+1)) q:Nat):=by
 have hx:∀ Y,dig Y q<18446744073709551616:=fun Y=>ay _ (by omega)
 unfold eqw;by_cases h:p=i
 ·subst h;rw [ah rfl,show (1:Int)=((1:Nat):Int) from rfl,oD _ 1 (hx _)];unfold gZ;rw [ai (by omega),ah (by omega),show dig 0 q=0 by simp [dig],u64_or_nat 0 _ (by omega) (by have:=hx (X p);omega)];simp
 ·rw [ai (by omega),show (0:Int)=((0:Nat):Int) from rfl,oD _ 0 (hx _)];have e:gZ X i (p+1)=gZ X i p:=by
   unfold gZ;by_cases hi:i<p
   ·rw [ah (by omega),ah hi]
   ·rw [ai (by omega),ai hi]
  rw [e,show dig (X p) q*(0%2)=0 by simp,u64_or_nat _ 0 (hx _) (by omega)];simp

theorem GX (o:Tr) (ao:Option Addr) (m Y:Nat) (A:Nat->Option Addr) (L C:Nat->Nat) (l:Nat->List Nat) (i:Nat) (hi:i<18446744073709551616) (w:World) (ht:TrRoom w o m) (hs:Slots w ao m A L C) (ad:0<m->∀ a,ao=some a->¬ cN o a.block) (hr:∀ p,p<m->RowT w o (.slice (A p) (L p) (C p)) (l p)) (hd:∀ p,p<m->Digs (l p)) (hL:∀ p,p<m->L p<=100000000) (hm:m<=100000000) :
  Calls prog 263 #[aL o,.slice ao m Y,.int .u64 (i:Nat)] w fun e w'=>∃ v',e=.returned v' /\
   OwnN .u64 24 w' w.heap.size v' (fJ L m) (digs (gZ (fun p=>val (l p)) i m) (fJ L m))/\∃ o',Did w o (List.replicate m (1,(fJ L m:Nat),0)) w' o':=by
 obtain ⟨i0,ax,aA,aB,aC⟩:=info_parts Tryz.info24;have hC:=vW ao m Y A L C w (by omega) hs;have aG:fJ L m<=100000000:=sU L _ m hL;obtain ⟨X,hX⟩:∃ X:Nat->Nat,X=fun p=>val (l p):=⟨_,rfl⟩
 rw [<- hX];have hF:Hid (∀ o' W g p,p<m->TrIn W o'->RowT W o' (.slice (A p) (L p) (C p)) (l p)->W.heap[g]? = some (.cells #[.int .i64 (fJ L m:Nat)] 3 (0,0))->Calls prog 209 #[.slice (A p) (L p) (C p),.pointer (some ⟨g,0,none⟩)] W fun e w'=>∃ v',e=.returned v'/\RowT w' o' v' (digs (X p) (fJ L m))/\Kept af W w'/\(v'=.slice (A p) (L p) (C p)\/∀ b,v'.ownBlock=some b->W.heap.size<=b)):=fun o' W g p hp t r hg=>by
  rw [hX];refine El o' _ (l p) (fJ L m) g W t r (hd p hp) ?_ (by omega) hg;obtain ⟨_,_,_,e,h,_⟩:=r.1.open;simp only [Value.slice.injEq] at e;have h1:=h.out;have h2:=sN L m p hp;omega
 have N:Hid (∀ p,p<m->(l p).length=L p):=fun p hp=>by
  obtain ⟨_,_,_,e,h,_⟩:=(hr p hp).1.open;simp only [Value.slice.injEq] at e;have h1:=h.out;omega
 have HT:=aa ht;have HS:=aa hs;have aq:=aa ad;have HR:=aa hr;obtain ⟨tp,U⟩:∃ tp,tp=aL o:=⟨_,rfl⟩
 rw [<- U];have au:=aa U;clear ht hs ad hr hd hL U hX;generalize fJ L m=n at *;go_enter func263,ntmps263;go_wp2_with fail;refine hC.mono ?_;rintro e w1 ⟨rfl,M⟩;have c:w1.heap[w.heap.size]? = some (.cells #[.int .i64 (n:Nat)] 3 (0,0)):=by rw [M];exact heap_alloc_new _ _
 have k1:Kept af w w1:=by rw [M];exact (aj af w).alloc _
 have am:w1.heap.size=w.heap.size+1:=by rw [M];simp
 obtain ⟨g,hg⟩:∃ g,g=w.heap.size:=⟨_,rfl⟩
 rw [<- hg] at c ⊢;have HG:Hid (g=w.heap.size/\w1.heap.size=w.heap.size+1):=⟨hg,am⟩
 clear hC M am hg;go_wp2_with (at_make;refine wpList_make_full _ rfl _ _ 23 rfl w1.heap.size 24 i0 _ 1 underlying23 ax aA aB _ _ _ _ n rfl rfl rfl rfl (by rw [aC];omega) (by unfold maxLen;omega) (leR _) ?_;intro w5 I ak);rw [bg] at I;have k5:=aV ak;have B:=(k5.block g (lt_of_block c) (fun f=>f)).trans c;have j:OwnN .u64 24 w5 w.heap.size (.slice (some ⟨w1.heap.size,0,none⟩) n n) n (digs (gZ X i 0) n):=by
  have e:digs (gZ X i 0) n=List.replicate n 0:=by
   have:=ir (ys:=[]) (V:=0) (m:=n) (Digs.nil _) rfl (aP _);simpa [gZ] using this
  rw [e];exact cE I (fun b hb=>aR k1.size (I.lt b hb).1)
 have d5:Did w o (List.replicate 0 (1,(n:Int),0)) w5 o:=Did.of_kept (k1.trans k5) HT.out.1;obtain ⟨h,hh⟩:∃ h,h=w1.heap.size:=⟨_,rfl⟩
 rw [<- hh] at j ⊢;have HH:Hid (h=g+1/\w.heap.size<=h):=by have:=HG.out;unfold Hid;omega
 clear ak I k5 k1 c hh;go_loopw [23] (fun ii wr=>∃ (p:Nat) (o':Tr),p<=m/\ii=.int .i64 (p:Int)/\Hid (Did w o (List.replicate p (1,(n:Int),0)) wr o')/\Hid (wr.heap[g]? = some (.cells #[.int .i64 (n:Nat)] 3 (0,0)))/\Hid (OwnN .u64 24 wr w.heap.size (.slice (some ⟨h,0,none⟩) n n) n (digs (gZ X i p) n))) (fun ii _=>m-(intOf ii).toNat)
 case atStart=>exact ⟨0,o,aP _,rfl,d5,B,j⟩
 case round=>
  clear d5 B j;obtain ⟨p,o1,hp,rfl,v,c,H⟩:=hrel;by_cases hpm:p<m
  ·have g1:(p:Int)<(m:Int):=by omega
   have J:TrRoom wr o1 (m-p):=v.out.room (by rw [be,show p+(m-p)=m by omega];exact HT.out);have hS:=fz o1 n wr J.1;rw [v.out.ptr,<- au.out] at hS;go_wp2_with fail;refine hS.mono ?_;rintro e w2 ⟨rfl,o2,dd⟩;have d2:Hid (Did w o (List.replicate (p+1) (1,(n:Int),0)) w2 o2):=by
    have:=v.out.trans dd;rw [gG];exact this
   have T:TrIn w2 o2:=(d2.out.room (k:=m-(p+1)) (by rw [be,show p+1+(m-(p+1))=m by omega];exact HT.out)).1;have F:=(dd.kept.block g (lt_of_block c.out) (aI c.out J.1 (by decide) (by decide))).trans c.out;have Q:=dd.kept.own H.out (eG H.out J.1);have al:=(HR.out p hpm).did d2.out;obtain ⟨bb,off,rfl,s⟩:=(HS.out.did d2.out (aq.out (by omega))) p hpm;have Z:=hF.out o2 w2 g p hpm T al F;have d:=N.out p hpm;have D:Hid (n≠0->L p=n->∀ b,(Value.slice (A p) (L p) (C p)).ownBlock=some b->b<w.heap.size):=fun h0 h1 b hb=>(HR.out p hpm).1.lt (fun e=>by rw [e] at d;simp at d;omega) b hb
   clear hS dd J v c H al d;generalize A p=a0 at *;generalize L p=l0 at *;generalize C p=c0 at *;go_wp2_with fail;refine Z.mono ?_;rintro e w3 ⟨v1,rfl,S,k3,hnew⟩;have ay:Hid (n≠0->∀ b,v1.ownBlock=some b->b≠h):=by
    intro h0 b hb e;subst e;have ab:=HH.out;rcases hnew with rfl | hnew
    ·obtain ⟨_,_,_,e,hl,_⟩:=S.1.open;simp only [Value.slice.injEq] at e;have h1:=hl.out;rw [ag] at h1;have:=D.out h0 (by omega) b hb;omega
    ·have h1:=hnew b hb;have h2:=(Q.lt b rfl).2;omega
   have R:=k3.own Q (fun _ _ f=>f);have ae:=aa ((k3.block g (lt_of_block F) (fun f=>f)).trans F);have d3:=aa (d2.out.grew k3);have az:=aa (T.grew k3);obtain ⟨a1,n1,c1,rfl,ac,_,_,_,P⟩:=S.1.open;obtain rfl:n1=n:=by rw [<- ac.out,ag]
   have hE:=fun W=>Ga (p:Int) (i:Int) (by omega) (by omega) (by omega) (by omega) W
   have E:0<=eqw (p:Int) (i:Int)/\eqw (p:Int) (i:Int)<=1:=by
    unfold eqw;by_cases h:(p:Int)=(i:Int)
    ·rw [ah h];omega
    ·rw [ai h];omega
   have hK:=fun W=>qQ (eqw (p:Int) (i:Int)) E.1 (by omega) W
   have O:Hid (∀ q,bits .or .u64 (dig (gZ X i p) q:Nat) (bits .and .u64 (dig (X p) q:Nat) (msk (eqw (p:Int) (i:Int))))=(dig (gZ X i (p+1)) q:Nat)):=fun q=>A3 X i p q
   clear Z hnew D F T d2 Q k3 s S ac E;generalize eqw (p:Int) (i:Int)=eq at *;generalize msk eq=mk at *;go_wp2_with fail;refine (hE _).mono ?_;rintro e ap ⟨rfl,rfl⟩;go_wp2_with fail;refine (hK _).mono ?_;rintro e ap ⟨rfl,rfl⟩;clear hE hK;generalize gZ X i p=V at *;have aw:Hid (¬ cN o2 h):=eG R az.out h rfl;go_wp2_with fail;go_loopw [41] (fun jj wr=>∃ (q:Nat),q<=n1/\jj=.int .i64 (q:Int)/\OwnN .u64 24 wr w.heap.size (.slice (some ⟨h,0,none⟩) n1 n1) n1 (digs (gZ X i (p+1)) q ++ (digs V n1).drop q)/\Kept (fun b=>b=h) ap wr) (fun jj _=>n1-(intOf jj).toNat)
   case atStart=>exact ⟨0,aP _,rfl,by rw [digs,bw,gC];exact R,aj _ _⟩
   case round=>
    clear R;obtain ⟨q,hq,rfl,ho,G⟩:=hrel;by_cases hqn:q<n1
    ·have g2:(q:Int)<(n1:Int):=by omega
     have g0:(0:Int)<=(q:Int):=bY _;obtain ⟨b1,aD,rfl,aF⟩:=eC ((P q hqn).kept G (fun a ha=>ay.out (by omega) _ (by rw [ha];rfl))) hqn;have aE:=AH ho hqn;have hf:=World.ownsRow.frozenAt ho q;have an:=fun u=>(World.ownsRow.stored ho q u).1
     have aH:=O.out q;have ar:Hid (OwnN .u64 24 (wr.setCell ⟨h,q,none⟩ (.int .u64 (dig (gZ X i (p+1)) q:Nat))) w.heap.size (.slice (some ⟨h,0,none⟩) n1 n1) n1 (digs (gZ X i (p+1)) (q+1) ++ (digs V n1).drop (q+1))):=by
      have:=an (.int .u64 (dig (gZ X i (p+1)) q:Nat));unfold Hid OwnN;rw [<- DF _ _ n1 q hqn,bZ];exact this
     clear an P O;generalize dig (X p) q=x at *;generalize dig V q=y at *;generalize dig (gZ X i (p+1)) q=z at *;go_wp2_with fail;go_region
     all_goals
      go_wp2_with fail;go_roundw
      case rel=>exact ⟨q+1,by omega,by go_num,ar.out,(G.setCell _ (fun _=>rfl) _).drew⟩
      case measure=>simp [intOf];omega
    ·have g2:¬ (q:Int)<(n1:Int):=by omega
     have e:q=n1:=by omega
     subst e;rw [mj (by rw [ag];exact leR _),dI] at ho;have ab:=HH.out;have d4:Hid (Did w o (List.replicate (p+1) (1,(q:Int),0)) wr o2):=d3.out.wroteNew G ab.2 aw.out;have av:Hid (wr.heap[g]? = some (.cells #[.int .i64 (q:Nat)] 3 (0,0))):=(G.block g (lt_of_block ae.out) (by omega)).trans ae.out;clear P O;go_wp2_with fail;go_roundw
     case rel=>exact ⟨p+1,o2,by omega,by go_num,d4,av,ho⟩
     case measure=>simp [intOf];omega
  ·have g1:¬ (p:Int)<(m:Int):=by omega
   have e:p=m:=by omega
   subst e;go_wp2_with fail;go_ret;exact ⟨_,rfl,H.out,o1,v.out⟩

open Go.RowKit Go.Shelf

attribute [local go_sem] Oper.semAt_some

theorem AS (q x y:Nat) (h1:x%2^q=0) (h2:y<2^q) (h3:x+y<18446744073709551616):bits .or .u64 (x:Int) (y:Int)=((x+y:Nat):Int):=by
 have hx:x<18446744073709551616:=by omega
 have hy:y<18446744073709551616:=by omega
 rw [u64_or_nat _ _ hx hy]
 congr 1
 obtain ⟨k,rfl⟩:∃ k,x=2^q*k:=⟨x/2^q,(Nat.mul_div_cancel' (lr h1)).symm⟩
 exact (ki h2 k).symm

theorem Ik (y:Nat) (hy:y<18446744073709551616) (w:World) :
  Calls prog 272 #[.int .u64 (y:Nat),.int .i64 4] w fun e w'=>e=.returned (.int .u64 (nJ y:Nat))/\w'=w:=by
 have ho:=AS 4 (y*16%18446744073709551616) (y/1152921504606846976) (by omega) (by omega) (by omega);have hr:((nJ y:Nat):Int)=((y*16%18446744073709551616+y/1152921504606846976:Nat):Int):=rfl;rw [<- hr] at ho;rw [show ((y*16%18446744073709551616:Nat):Int)=IntKind.u64.wrap ((y:Int)*16) by rw [IntKind.wrap_u64];simp,show ((y/1152921504606846976:Nat):Int)=(y:Int)/1152921504606846976 by simp] at ho;clear hr;have a:bits .and .u64 4 63=4:=by decide +kernel
 generalize nJ y=z at *;go_enter func272,ntmps272;go_wp2_with fail;go_ret;exact ⟨rfl,rfl⟩

theorem Gq (y:Nat) (hy:y<18446744073709551616):bits .and .u64 (y:Int) 15=((y%16:Nat):Int):=by
 have h:=u64_and_nat y 15 hy (by omega);rw [show (15:Int)=((15:Nat):Int) from rfl,h]
 congr 1
 exact Nat.and_two_pow_sub_one_eq_mod y 4

theorem IS (n:Nat) (hn:1<=n) (l Bs L N:Nat) (g:Nat->Nat) (v:Value) (ys:List Nat) (hd:Digs ys) (hL:Hid (ys.length=L)) (hN:Hid (16*L=N)) (hb:L<=1000000) (hg:Hid (∀ j,tO ys L j=g j)) (S:Nat->Prop) (hS:S Bs) (O:∀ b,v.ownBlock=some b->0<L->S b)
  (J Jx:List (Fin N)->World->Prop)
  (hY:∀ a (x:Fin N) W,J a W->a.length<N->YieldAt Fence.wide (n-1) prog l #[.int .u64 (g x.val:Nat)] W fun e W'=>
   (e=.returned (.bool true)/\J (a ++ [x]) W'/\KeepB S W W')\/(e=.returned (.bool false)/\Jx (a ++ [x]) W'))
  (W:World) (H:W.cell? ⟨Bs,0,none⟩=some v) (hr:Row .u64 W v ys) (h0:J [] W) :
  CallsIn Fence.wide n prog 271 #[.func (.yield l) #[] #[],.pointer (some ⟨Bs,0,none⟩)] W fun e W'=>(∃ v,e=.returned v) /\
   ((∃ zs,zs.map Fin.val=List.range N/\J zs W')\/(∃ a,True/\Jx a W')):=by
 obtain ⟨ao,m,R,rfl,o,c1,c2,c3,t⟩:=hr.open;obtain rfl:m=L:=by rw [<- o.out];exact hL.out
 have f:Hid (∀ i,i<m->NumAt .u64 W ao ys i):=t;have B:Hid (∀ (y:Nat) (w:World),y<18446744073709551616->Calls prog 272 #[.int .u64 (y:Nat),.int .i64 4] w fun e w'=>e=.returned (.int .u64 (nJ y:Nat))/\w'=w):=fun y w hy=>Ik y hy w
 have HD:Hid (∀ i,ys.getD i 0<18446744073709551616):=fun i=>hd.getD (by omega) i
 clear t hr hL o hd;refine callsIn_of_wp func271 rfl trivial ?_ rfl;simp only [ntmps271,iF,cI,eS,Nat.reduceAdd,Nat.reduceSub,iB,iC,iE,iD,bw,fd]
 gi_wp2
 gi_loopw [7] (fun i wr=>∃ k:Nat,k<=m/\i=.int .i64 (k:Int)/\(∃ a:List (Fin N),Hid (a.map Fin.val=List.range (16*k))/\J a wr)/\KeepB S W wr)
  (fun i _=>m-(intOf i).toNat)
 case atStart=>exact ⟨0,aP _,rfl,⟨[],by simp [Hid],h0⟩,KeepB.refl _ _⟩
 case round=>
  obtain ⟨k,hk,rfl,⟨a,A,F⟩,D⟩:=hrel;by_cases hkm:k<m
  ·have gk:(k:Int)<(m:Int):=by omega
   obtain ⟨i,hi⟩:∃ i:Nat,i=m-1-k:=⟨_,rfl⟩
   have gi:(m:Int)-1-(k:Int)=(i:Int):=by omega
   have T:(0:Int)<=(i:Int):=by omega
   have U:(i:Int)<(m:Int):=by omega
   have HI:Hid (i=m-1-k):=hi;clear hi;obtain ⟨b,off,rfl,hc⟩:=f.out i (by have:=HI.out;omega);have V:wr.cell? ⟨b,off+i,none⟩=some (.int .u64 (ys.getD i 0:Nat)):=(D.cell (p:=⟨b,off+i,none⟩) (O b rfl (by omega))).trans hc;have P:=(D.cell (p:=⟨Bs,0,none⟩) hS).trans H;have HY:Hid (ys.getD i 0<18446744073709551616):=HD.out i;have HG:Hid (∀ q,q<16->mZ (ys.getD i 0) (q+1)%16=g (16*k+q)):=fun q hq=>by
    rw [<- hg.out];unfold tO;rw [show (16*k+q)/16=k by omega,show (16*k+q)%16=q by omega,HI.out]
   generalize ys.getD i 0=y at *;clear hc f
   gi_wp2
   gi_loopw [4,18] (fun wv q G=>∃ r:Nat,r<=16/\q=.int .i64 (r:Int)/\wv=.int .u64 ((mZ y r:Nat):Int)/\(∃ a:List (Fin N),Hid (a.map Fin.val=List.range (16*k+r))/\J a G)/\KeepB S W G)
    (fun _ q _=>16-(intOf q).toNat)
   case atStart=>exact ⟨0,aP _,rfl,rfl,⟨a,A,F⟩,D⟩
   case round=>
    obtain ⟨r,hr,rfl,rfl,⟨d,c,E⟩,h⟩:=hrel;by_cases hr16:r<16
    ·have gr:(r:Int)<16:=by omega
     have hx:16*k+r<N:=by have:=hN.out;omega
     have s:d.length<N:=by
      have:=congrArg List.length c.out;rw [cf,mo] at this;omega
     have M:=B.out (mZ y r) wr (rQ HY.out r);have hz:=Gq (nJ (mZ y r)) (xE (rQ HY.out r));have e1:nJ (mZ y r)%16=g (16*k+r):=HG.out r hr16;rw [e1] at hz;obtain ⟨fn,tmps,assign,body,hy,hR⟩:=hY d ⟨16*k+r,hx⟩ wr E s;dsimp only at hy;have HZ:Hid (nJ (mZ y r)=mZ y (r+1)):=rfl;clear e1;generalize nJ (mZ y r)=z at *
     gi_wp2_with fail
     refine ⟨trivial,?_⟩;refine (callsIn_wide.2 M).mono ?_;rintro e w' ⟨rfl,rfl⟩
     gi_wp2
     refine hR.mono ?_;rintro e W3 (⟨rfl,I,Q⟩ | ⟨rfl,C⟩)
     ·gi_wp2
      go_roundw
      case rel=>exact ⟨r+1,hr16,by go_num,by rw [HZ.out],⟨d ++ [⟨16*k+r,hx⟩],by unfold Hid;rw [dt,c.out,<- iG,j5];rfl,I⟩,h.trans Q⟩
      case measure=>simp [intOf];omega
     ·gi_wp2
      refine bodyPost_ret (results_none rfl _ _ _) rfl ?_;exact ⟨⟨_,rfl⟩,.inr ⟨_,trivial,C⟩⟩
    ·obtain rfl:r=16:=by omega
     gi_wp2
     go_roundw
     case rel=>exact ⟨k+1,hkm,by go_num,⟨d,by unfold Hid;rw [c.out];congr 1,E⟩,h⟩
     case measure=>simp [intOf];omega
  ·obtain rfl:k=m:=by omega
   gi_wp2
   go_end0
   exact ⟨⟨_,rfl⟩,.inl ⟨a,by rw [A.out,hN.out],F⟩⟩

theorem Gc (ao:Option Addr) (b a:Nat) (w:World) :
  Calls prog 261 #[.slice ao b a] w fun e w'=>e=.returned (.func (.func 271) #[] #[.pointer (some ⟨w.heap.size,0,none⟩)])/\w'=w.alloc (.cells #[.slice ao b a] 23):=by
 go_enter func261,ntmps261;go_wp2;go_ret;exact ⟨rfl,rfl⟩

theorem BY (n:Nat) (hn:1<=n) (Bs L N:Nat) (g:Nat->Nat) (v:Value) (ys:List Nat) (hd:Digs ys) (hL:ys.length=L) (hN:16*L=N) (hb:L<=1000000) (hg:∀ j,tO ys L j=g j) (S:Nat->Prop) (hS:S Bs) (a:∀ b,v.ownBlock=some b->0<L->S b)
  (w:World) (d:∀ k,S k->k<w.heap.size) (c:w.cell? ⟨Bs,0,none⟩=some v) (hr:Row .u64 w v ys) :
  SeqStopsK Fence.wide n prog 271 #[.pointer (some ⟨Bs,0,none⟩)] (fun x:Fin N=>#[Value.int .u64 (g x.val:Nat)]) (KeepB S) (fun zs=>zs.map Fin.val=List.range N) (fun _=>True) N w:=fun l J Jx W hW _ _ hY h0=>by
 have hk:KeepB S w W:=fun k hk=>hW.block k (d k hk)
 exact IS n hn l Bs L N g v ys hd hL hN hb hg S hS a J Jx hY W ((hk.cell (p:=⟨Bs,0,none⟩) hS).trans c) (hk.row (fun b hb hp=>a b hb (by omega)) hr) h0

theorem ph {w:World} {o:Tr} (ht:TrIn w o) {b:Nat} (hb:cN o b):∃ c ty f,w.heap[b]? = some (.cells c ty f):=by
 cases o with
 | none=>exact hb.elim
 | some x=>
  obtain ⟨p,g,l⟩:=x;obtain ⟨⟨u,s,hp,hg,hr,_⟩,_⟩:=ht;rcases hb with rfl | hb
  ·exact ⟨_,_,_,hp⟩
  ·rcases hr.2 with ⟨rfl,_⟩ | ⟨g2,cap2,cur2,rfl,_,hgg2,_⟩
   ·rw [<- hg] at hb;cases hb
   ·rw [<- hg] at hb;have e:g2=b:=by simpa [Value.ownBlock] using hb
    subst e;exact ⟨_,_,_,hgg2⟩

structure RSt (W0 W w:World) (o o1 oc:Tr) (bP n V P:Nat) (qv:Value) (m:List Ev):Prop where
 box:Box w bP qv 23
 num:MonAt w qv n V P
 did:Did W0 o m w oc
 kept:Kept (fun b=>b=bP\/cN o1 b) W w
 foot:∀ b,b<W.heap.size->cN oc b->cN o1 b

theorem RSt.step {W0 W w w':World} {o o1 oc od:Tr} {bP n V P:Nat} {qv:Value} {m mm:List Ev} (h:RSt W0 W w o o1 oc bP n V P qv m) (ht:TrIn w oc) (d:Did w oc mm w' od):RSt W0 W w' o o1 od bP n V P qv (m ++ mm):=
 ⟨h.box.did d ht (by decide) (by decide),h.num.did d ht,h.did.trans d,h.kept.next d.kept (fun x hx f=>.inr (h.foot x hx f)),fun b hb f=>h.foot b hb (d.foot (bd hb h.kept.size) f)⟩

theorem RSt.put {W0 W w:World} {o o1 oc:Tr} {bP n V P Q:Nat} {qv zv:Value} {m:List Ev} (h:RSt W0 W w o o1 oc bP n V P qv m) (ht:TrIn w oc) (hz:MonAt w zv n V Q) (hb:W0.heap.size<=bP):RSt W0 W (w.setCell ⟨bP,0,none⟩ zv) o o1 oc bP n V Q zv m:=by
 have kb:=aD w bP zv;have c:∀ b,zv.ownBlock=some b->¬ b=bP:=fun b e f=>by
  subst f;obtain ⟨cs,fr,hg⟩:=hz.2 b e;have a:w.heap[b]? = _:=h.box;rw [a] at hg;simp only [ik,Obj.cells.injEq] at hg;exact absurd hg.2.1 (by decide)
 exact ⟨h.box.set zv,hz.kept kb c,h.did.wroteNew kb hb (h.box.apart ht (by decide) (by decide)),h.kept.next kb (fun x _ e=>.inl e),h.foot⟩

theorem RSt.drew {W0 W w:World} {o o1 oc:Tr} {bP n V P:Nat} {qv:Value} {m:List Ev} (h:RSt W0 W w o o1 oc bP n V P qv m):RSt W0 W w.drew o o1 oc bP n V P qv m:=
 ⟨h.box,h.num.grew (aj af w).drew,h.did.grew (aj af w).drew,h.kept.drew,h.foot⟩

def jJ (n:Nat):List Ev:=List.replicate 16 (1,(n:Int),0)

def pQ (n:Nat):List Ev:=(List.replicate 4 (fA n)).flatten ++ (jJ n ++ fA n)

theorem vj {n:Nat} (h:n<=130):(pQ n).length<=11000:=by
 obtain ⟨h1,_,_⟩:=gU h;have h2:=kQ h1 4;unfold pQ jJ;rw [aZ,aZ,be];omega

theorem nV (n:Nat):∀ k,fJ (fun _=>n) (k+1)=n
 | 0=>by simp [fJ]
 | k+1=>by
  have:=nV n k;rw [fJ,this];simp

theorem Hk (o:Tr) (g c n V X i:Nat) (A:Nat->Option Addr) (C:Nat->Nat) (w0 w:World) (xv:Value) (ht:TrRoom w o 2000) (hV:0<V) (b:V<18446744073709551616^n) (hn:n<=130) (hT:Tab8 w0 w xv (.slice (some ⟨g,0,none⟩) 16 c) n 16 A C V X) (hi:i<16) :
  Calls prog 263 #[aL o,.slice (some ⟨g,0,none⟩) 16 c,.int .u64 (i:Nat)] w fun e w'=>∃ zo zc,e=.returned (.slice zo n zc)/\MonAt w' (.slice zo n zc) n V (X^i)/\Fresh w (.slice zo n zc)/\∃ o',Did w o (jJ n) w' o':=by
 have f:fJ (fun _=>n) 16=n:=nV n 15;refine (GX o (some ⟨g,0,none⟩) 16 c A (fun _=>n) C (fun j=>digs (mon n V (X^j)) n) i (by omega) w (ht.less (by omega)) (fun j hj=>⟨g,0,rfl,by rw [dz];exact hT.at hj⟩) (fun _ a e=>by cases e;exact mf hT.1 ht.1 g rfl) (fun p hp=>(hT.2 p hp).1.2.rowT (hT.2 p hp).1.1 ht.1) (fun p hp=>ak (by omega) _ _) (fun _ _=>by omega) (by omega)).mono ?_;rintro e w' ⟨v',rfl,ho,o',d⟩;rw [f] at ho d;have hp:gZ (fun p=>val (digs (mon n V (X^p)) n)) i 16=mon n V (X^i):=by
  unfold gZ;rw [ah hi];exact kt hV b
 rw [hp] at ho;have hA:MonAt w' v' n V (X^i):=⟨cW ho (ag _ _ _),U64s.own ho⟩
 obtain ⟨zo,zc,rfl⟩:=hA.shape;exact ⟨zo,zc,rfl,hA,Fresh.own ho (leR _),o',d⟩

attribute [local go_sem] Oper.semAt_some

def iU (n L k:Nat):List Ev:=(1,(L:Int),0) :: (List.replicate k (pQ n)).flatten

theorem tC (n L k:Nat):iU n L (k+1)=iU n L k ++ pQ n:=by
 unfold iU;rw [gG,List.flatten_append,fd];simp

theorem kD {n:Nat} (h:n<=130) (L k:Nat):(iU n L k).length<=1+k*11000:=by
 have:=kQ (vj h) k;unfold iU;rw [cI];omega

def mi {N:Nat} (g:Nat->Nat) (pre:List (Fin N)):Nat:=vk (pre.map fun x=>g x.val)

theorem zx {N:Nat} (g:Nat->Nat) (a:List (Fin N)) (x:Fin N):mi g (a ++ [x])=16*mi g a+g x.val:=by
 unfold mi;rw [dt,jC,j4,qS]

theorem BZ {N:Nat} {g:Nat->Nat} {ys:List (Fin N)} (h:ys.map Fin.val=List.range N):mi g ys=vk ((List.range N).map g):=by
 unfold mi;rw [<- h,List.map_map];rfl

def Btw (W0:World) (o:Tr) (bP n V X L:Nat) (ev:Value) {N:Nat} (g:Nat->Nat) (pre:List (Fin N)) (W:World):Prop:=
 ∃ (o1:Tr) (qo:Option Addr) (qc:Nat),Box W bP (.slice qo n qc) 23/\MonAt W (.slice qo n qc) n V (X^mi g pre)/\Did W0 o (iU n L pre.length) W o1/\Box W (bP+1) ev 23

theorem Btw.turn {W0:World} {o:Tr} {bP n V X L N B:Nat} {ev:Value} {g:Nat->Nat} {a:List (Fin N)} {W W':World} (h:Btw W0 o bP n V X L ev g a W) (t:Turn B W W') (hB:W0.heap.size<=B):Btw W0 o bP n V X L ev g a W':=by
 obtain ⟨o1,qo,qc,h1,h2,h3,h4⟩:=h;exact ⟨o1,qo,qc,t.cells h1,⟨t.row h2.1,t.u64s h2.2⟩,t.did h3 hB,t.cells h4⟩

def D7 (bT:Nat) (po ao bo:Option Addr) (n l0 K mcap rcap gT cT:Nat) (W:World):Prop:=
 W.cell? ⟨bT,0,none⟩=some (.pointer po)/\W.cell? ⟨bT+1,0,none⟩=some (.slice ao n mcap)/\W.cell? ⟨bT+1,1,none⟩=some (.int .u64 (K:Nat))/\W.cell? ⟨bT+1,2,none⟩=some (.slice bo l0 rcap)/\W.cell? ⟨bT+1+1,0,none⟩=some (.slice (some ⟨gT,0,none⟩) 16 cT)

theorem DX (o:Tr) (ao bo eo:Option Addr) (n l0 K z E gT cT L y X:Nat) (A:Nat->Option Addr) (C:Nat->Nat) (ms rs ys:List Nat) (xv:Value) (wT w:World) (ht:TrRoom w o 60000000) (hM:Mod8 w o ao bo n l0 K z E ms rs) (hT:Tab8 wT w xv (.slice (some ⟨gT,0,none⟩) 16 cT) n 16 A C (val ms) X)
  (he:RowT w o (.slice eo L y) ys) (a7:Digs ys) (hL:L<=300) :
  Calls prog 241 #[aL o,.agg #[.slice ao n z,.int .u64 (K:Nat),.slice bo l0 E],.slice (some ⟨gT,0,none⟩) 16 cT,.slice eo L y] w fun e w'=>∃ zo zc,e=.returned (.slice zo n zc)/\(Row .u64 w' (.slice zo n zc) (digs (X^val ys%val ms) n)/\U64s w' (.slice zo n zc))/\Fresh w (.slice zo n zc)/\∃ o',Did w o (iU n L (16*L) ++ l8 n) w' o':=by
 have aJ:∀ args w,(callFunc 263 args).run prog w=.ok (.enter 263 args) w:=fun _ _=>by simp [go_sem]
 have aG:∀ args w,(callFunc 126 args).run prog w=.ok (.enter 126 args) w:=fun _ _=>by simp [go_sem]
 have aF:∀ args w,(callFunc 262 args).run prog w=.ok (.enter 262 args) w:=fun _ _=>by simp [go_sem]
 obtain ⟨⟨f0,f1⟩,f2,f3,f4,f5⟩:=hM.facts;obtain ⟨po,ax⟩:=aK o;obtain ⟨V,hV⟩:∃ V,V=val ms:=⟨_,rfl⟩
 rw [<- hV] at f3 f4 f5 hT ⊢;obtain ⟨W0,am⟩:∃ W0,W0=((w.alloc (.cells #[.pointer po] 53)).alloc (.cells #[.slice ao n z,.int .u64 (K:Nat),.slice bo l0 E] 70)).alloc (.cells #[.slice (some ⟨gT,0,none⟩) 16 cT] 58):=⟨_,rfl⟩
 have k0:Kept af w W0:=by rw [am];exact (((aj af w).alloc _).alloc _).alloc _
 have a8:W0.heap.size=w.heap.size+1+1+1:=by rw [am];simp
 have a4:Box W0 w.heap.size (.pointer po) 53:=by rw [am];exact ((Box.new w _ _).alloc _).alloc _
 have aO:W0.heap[w.heap.size+1]? = some (.cells #[.slice ao n z,.int .u64 (K:Nat),.slice bo l0 E] 70 (0,0)):=by
  rw [am];refine au ?_;have:=heap_alloc_new (w.alloc (.cells #[.pointer po] 53)) (.cells #[.slice ao n z,.int .u64 (K:Nat),.slice bo l0 E] 70)
  rwa [show (w.alloc (.cells #[.pointer po] 53)).heap.size=w.heap.size+1 by simp] at this
 have a3:Box W0 (w.heap.size+1+1) (.slice (some ⟨gT,0,none⟩) 16 cT) 58:=by
  rw [am];have:=Box.new ((w.alloc (.cells #[.pointer po] 53)).alloc (.cells #[.slice ao n z,.int .u64 (K:Nat),.slice bo l0 E] 70)) (.slice (some ⟨gT,0,none⟩) 16 cT) 58
  rwa [show ((w.alloc (.cells #[.pointer po] 53)).alloc (.cells #[.slice ao n z,.int .u64 (K:Nat),.slice bo l0 E] 70)).heap.size=w.heap.size+1+1 by simp] at this
 have T:=aa (ht.grew k0);have JC:Hid (∀ W m o',Did W0 o m W o'->D7 w.heap.size po ao bo n l0 K z E gT cT W):=fun W m o' d=>by
  obtain ⟨q0,q1,q2⟩:=aw ((d.kept.block _ (lt_of_block aO) (aI aO T.out.1 (by decide) (by decide))).trans aO);exact ⟨(a4.did d T.out.1 (by decide) (by decide)).cell,q0,q1,q2,(a3.did d T.out.1 (by decide) (by decide)).cell⟩
 have ak:Hid (∀ W m o' yo yc zo zc P Q,Did W0 o m W o'->TrRoom W o' 2000->MonAt W (.slice yo n yc) n V P->MonAt W (.slice zo n zc) n V Q->Calls prog 126 #[.pointer po,.agg #[.slice ao n z,.int .u64 (K:Nat),.slice bo l0 E],.slice yo n yc,.slice zo n zc] W fun e w'=>∃ ro rc,e=.returned (.tuple #[.slice ro n rc,.int .i64 0])/\MonAt w' (.slice ro n rc) n V (P*Q)/\Fresh W (.slice ro n rc)/\∃ o2,Did W o' (fA n) w' o2):=fun W m o' yo yc zo zc P Q d hr hA hB=>by
  rw [hV] at hA hB;have:=G9 o' ao bo yo zo n l0 K z E yc zc P Q ms rs W hr ((hM.grew k0).did d) hA hB;rw [d.ptr,ax,<- hV] at this;exact this
 have aA:Hid (∀ W m o' i,Did W0 o m W o'->TrRoom W o' 2000->i<16->Calls prog 263 #[.pointer po,.slice (some ⟨gT,0,none⟩) 16 cT,.int .u64 (i:Nat)] W fun e w'=>∃ ro rc,e=.returned (.slice ro n rc)/\MonAt w' (.slice ro n rc) n V (X^i)/\Fresh W (.slice ro n rc)/\∃ o2,Did W o' (jJ n) w' o2):=fun W m o' i d hr hi=>by
  have:=Hk o' gT cT n V X i A C wT W xv hr (by omega) f5 f1 ((hT.grew k0).did d T.out.1) hi;rw [d.ptr,ax] at this;exact this
 have aS:Hid (∀ W m o' yo yc P,Did W0 o m W o'->TrRoom W o' 2000->MonAt W (.slice yo n yc) n V P->Calls prog 66 #[.pointer po,.agg #[.slice ao n z,.int .u64 (K:Nat),.slice bo l0 E],.slice yo n yc] W fun e w'=>∃ zo zc,e=.returned (.tuple #[.slice zo n zc,.int .i64 0])/\(Row .u64 w' (.slice zo n zc) (digs (P%V) n)/\U64s w' (.slice zo n zc))/\Fresh W (.slice zo n zc)/\∃ o2,Did W o' (l8 n) w' o2):=fun W m o' yo yc P d hr hA=>by
  rw [hV] at hA;have:=Iw o' ao bo yo n l0 K z E yc P ms rs W hr ((hM.grew k0).did d) hA;rw [d.ptr,ax,<- hV] at this;exact this
 have ab:Hid (Calls prog 150 #[.pointer po,.int .i64 (L:Int)] W0 fun r w'=>r=.returned (.tuple #[])/\∃ o',Did W0 o [(1,(L:Int),0)] w' o'):=by
  have:=fz o (L:Int) W0 T.out.1;rw [ax] at this;exact this
 have aT:Hid (∀ W m o',Did W0 o m W o'->Tab8 wT W xv (.slice (some ⟨gT,0,none⟩) 16 cT) n 16 A C V X):=fun W m o' d=>(hT.grew k0).did d T.out.1
 have aB:Hid (∀ W m o',Did W0 o m W o'->RowT W o' (.slice eo L y) ys):=fun W m o' d=>(he.grew k0).did d
 obtain ⟨_,_,_,e1,Y,_⟩:=he.1.open;cases e1
 have ah:=aa Y;have ai:Hid (∀ b,(Value.slice eo L y).ownBlock=some b->0<L->b<w.heap.size):=fun b hb hp=>he.1.lt (by intro e;rw [e] at Y;have:=Y.out;simp at this;omega) b hb
 have bh:=aa am;have ap:=aa k0;have bq:=aa a8;have ag:=aa f1;obtain ⟨c0,c1,c2,c3,c4⟩:=JC.out _ _ _ (Did.of_kept (aj af W0) T.out.1);have hS:=ab.out;rw [ax];clear am k0 a8 a4 aO a3 ht hM hT he Y ax hV f2 f3 ab;refine (callsIn_wide (n:=9)).1 ?_;refine callsIn_of_wp_marks func241 rfl trivial ?_ rfl;simp only [ntmps241,iF,cI,eS,Nat.reduceAdd,Nat.reduceSub,iB,iC,iE,iD,bw,fd];refine wpIn_wide.2 ?_;go_wp2_with fail;rw [<- bh.out];refine hS.mono ?_;rintro e W1 ⟨rfl,o1,d1⟩;obtain ⟨q0,q1,q2,q3,q4⟩:=JC.out _ _ _ d1
 have N:=aT.out _ _ _ d1;have bm:=N.at (j:=0) (by omega);clear hS c0 c1 c2 c3 c4;go_wp2_with fail;have a5:=Gc eo L y (W1.alloc (.cells #[.slice (A 0) n (C 0)] 23));refine a5.mono ?_;rintro e W3 ⟨rfl,rfl⟩;have kP:Kept af W1 (W1.alloc (.cells #[.slice (A 0) n (C 0)] 23)):=(aj af W1).alloc _;have kE:=kP.alloc (.cells #[.slice eo L y] 23);have a2:=(Box.new W1 (.slice (A 0) n (C 0)) 23).alloc (.cells #[.slice eo L y] 23);have aU:=Box.new (W1.alloc (.cells #[.slice (A 0) n (C 0)] 23)) (.slice eo L y) 23;have bn:((W1.alloc (.cells #[.slice (A 0) n (C 0)] 23)).alloc (.cells #[.slice eo L y] 23)).heap.size=W1.heap.size+2:=by simp
 rw [World.size_alloc] at aU;have d3:=d1.grew kE;have aY:=(aB.out _ _ _ d3).1;have ae:=(N.2 0 (by omega)).1.grew kE;obtain ⟨g,hg⟩:∃ g:Nat->Nat,∀ j,tO ys L j=g j:=⟨_,fun _=>rfl⟩
 have HG:=aa hg;have aX:W0.heap.size<=W1.heap.size:=d1.size;have bc:=aa d3;have ba:=aa a2;have bg:=aa ae;clear a5 q0 q1 q2 q3 q4 N bm kP a2 ae d3 d1;go_wp2_with fail;generalize (W1.alloc (.cells #[.slice (A 0) n (C 0)] 23)).alloc (.cells #[.slice eo L y] 23)=W3 at *;refine (wpIn_wide (n:=9)).1 ?_;refine wpIn_rangeFunc_ownG (F:=Fence.wide) (n:=9) rfl (by omega) (gf:=271) (lb:=#[.pointer (some ⟨W1.heap.size+1,0,none⟩)]) rfl trivial (enters_of func271 (by kernel_rfl) rfl)
  (BY 8 (by omega) (W1.heap.size+1) L (16*L) g (.slice eo L y) ys a7 ah.out.out rfl (by omega) hg (fun k=>k=W1.heap.size+1\/((Value.slice eo L y).ownBlock=some k/\0<L)) (.inl rfl) (fun b hb hp=>.inr ⟨hb,hp⟩) _ ?hsw aU.cell aY) KeepB.trans (KeepB.put ?hsw2) (Below.refl _ _) (fun _=>rfl)
  (Btw W0 o W1.heap.size n V X L (.slice eo L y) g) (fun _ _ _=>False)
  (mV (fun s A B hs t=>hs.turn t (by rw [bn];omega))) (fun _ _ _ _ _ hs _ _=>hs)
  ⟨o1,A 0,C 0,ba.out,by have:=bg.out;exact this,by unfold iU;exact bc.out,aU⟩
  ?act ?assign ?body ?done ?stop
 case hsw=>
  rintro k (rfl | ⟨hk,hp⟩)
  ·omega
  ·have:=ai.out k hk hp;have:=ap.out.size;omega
 case hsw2=>
  rintro k (rfl | ⟨hk,hp⟩)
  ·omega
  ·have:=ai.out k hk hp;have:=ap.out.size;omega
 case assign=>
  intro l x W K hK
  gi_wp2
  exact hK
 case body=>
  rintro l H x W ⟨oc,qo,qc,av,O,hd,a6⟩ hlt;have p:TrRoom W oc 20000:=hd.room (T.out.less (by have:=kD ag.out L H.length;omega));have R0:Hid (RSt W0 W W o oc oc W1.heap.size n V (X^(mi g H*2^0)) (.slice qo n qc) (iU n L H.length ++ (List.replicate 0 (fA n)).flatten)):=by
   rw [cw,bD,eH,List.flatten_nil,dI];exact ⟨av,O,hd,aj _ _,fun _ _ f=>f⟩
  have Z:=aa p;have HD:=aa hd;have HX:Hid (g x.val<16):=by rw [<- HG.out];exact Gd _ _ _
  have bb:=aa av;have aR:=aa a6;clear p av O hd a6
  gi_wp2_with fail
  gi_loopw [21] (fun q wr=>∃ (r:Nat) (od:Tr) (ro:Option Addr) (rc:Nat),r<=4/\q=.int .i64 (r:Int)/\Hid (RSt W0 W wr o oc od W1.heap.size n V (X^(mi g H*2^r)) (.slice ro n rc) (iU n L H.length ++ (List.replicate r (fA n)).flatten))) (fun q _=>4-(intOf q).toNat)
  case atStart=>exact ⟨0,oc,qo,qc,by omega,rfl,R0.out⟩
  case round=>
   obtain ⟨r,od,ro,rc,hr,rfl,R⟩:=hrel;have p:TrRoom wr od 6000:=R.out.did.room (T.out.less (by
    have h1:=kD ag.out L H.length;have h2:=kQ (gU ag.out).1 r;rw [aZ];omega))
   obtain ⟨q0,q1,q2,q3,q4⟩:=JC.out _ _ _ R.out.did;have qP:=R.out.box.cell;have fP:=R.out.box.free;have az:=aa p;by_cases hr4:r<4
   ·have gr:(r:Int)<4:=by omega
    have aC:=ak.out wr _ od ro rc ro rc _ _ R.out.did (p.less (by omega)) R.out.num R.out.num;clear p
    gi_wp2_with fail
    refine ⟨trivial,?_⟩;refine (CallsIn.inRound l (callsIn_wide.2 aC)).mono ?_;rintro e w7 ⟨so,sc,rfl,aq,aW,o7,d7⟩;have R7:=aa (R.out.step az.out.1 d7);have aM:TrIn w7 o7:=(d7.room (k:=0) (az.out.less (by have:=(gU ag.out).1;omega))).1;have R8:=aa (R7.out.put aM aq aX);have bt:=R7.out.box.cell;have bs:=R7.out.box.free;have aE:=qR so n sc w7;clear aC aq aW d7 aM q0 q1 q2 q3 q4 qP fP
    gi_wp2_with fail
    refine ⟨trivial,?_⟩;refine (CallsIn.inRound l (callsIn_wide.2 aE)).mono ?_;rintro e w8 ⟨rfl,rfl⟩;clear aE
    gi_wp2_with fail
    go_roundw
    case rel=>
     refine ⟨r+1,o7,so,sc,by omega,by go_num,?_⟩;have:=R8.out;rw [<- aN,show mi g H*2^r+mi g H*2^r=mi g H*2^(r+1) by rw [aH,<- bf,Nat.mul_two],dr,show (List.replicate r (fA n)).flatten ++ fA n=(List.replicate (r+1) (fA n)).flatten by rw [gG,List.flatten_append];simp] at this;exact this
    case measure=>simp [intOf];omega
   ·obtain rfl:r=4:=by omega
    gi_wp2_with fail
    -- REGION 9 BEGINS
    have R9:=R.out.drew;have J:Hid (TrRoom wr.drew od 6000):=az.out.grew (aj af wr).drew;have ar:=JC.out _ _ _ R9.did;have ac:=aA.out wr.drew _ od (g x.val) R9.did (J.out.less (by omega)) HX.out;have br:=R9.box.cell;have ay:Hid (∀ (wE:World) (oE:Tr) (tq:Option Addr) (tc:Nat),RSt W0 W wE o oc oE W1.heap.size n V (X^(mi g H*2^4)*X^g x.val) (.slice tq n tc) (iU n L H.length ++ (List.replicate 4 (fA n)).flatten ++ jJ n ++ fA n)->KeepsFrom W3.heap.size W wE/\KeepB (fun k=>k=W1.heap.size+1\/((Value.slice eo L y).ownBlock=some k/\0<L)) W wE/\Btw W0 o W1.heap.size n V X L (.slice eo L y) g (H ++ [x]) wE):=fun wE oE tq tc RE=>by
     have a9:Box wE (W1.heap.size+1) (.slice eo L y) 23:=aR.out.kept RE.kept (by
      rintro (h | h)
      ·omega
      ·exact aR.out.apart Z.out.1 (by decide) (by decide) h)
     refine ⟨kU RE.kept (fun b hb _=>?_),?_,oE,tq,tc,RE.box,?_,?_,a9⟩
     ·rcases hb with rfl | hb
      ·exact ⟨_,_,_,bb.out⟩
      ·exact ph Z.out.1 hb
     ·rintro k (rfl | ⟨hk,hp⟩)
      ·exact (show wE.heap[_]? = _ from a9).trans (show W.heap[_]? = _ from aR.out).symm
      ·have h1:=ai.out k hk hp;have h2:=ap.out.size;have h3:=HD.out.size;have h4:=(aB.out _ _ _ HD.out).2 (by intro e;have:=ah.out.out;rw [e] at this;simp at this;omega) k hk;refine RE.kept.block k (by omega) ?_;rintro (h | h)
       ·omega
       ·exact h4 h
     ·have:=RE.num;rw [<- aN,show mi g H*2^4+g x.val=mi g (H ++ [x]) by rw [zx];omega] at this;exact this
     ·have:=RE.did;rw [dr,dr,show (List.replicate 4 (fA n)).flatten ++ (jJ n ++ fA n)=pQ n from rfl,<- tC] at this;rw [aZ];exact this
    clear p q0 q1 q2 q3 q4 qP fP;refine rO (S:=D7 w.heap.size po ao bo n l0 K z E gT cT) (by kernel_rfl) (by kernel_rfl) (by rintro ⟨a,w,h⟩;exact h) ?_;refine wpAnyH_take (i:=0) (v:=.pointer po) rfl (by kernel_rfl) (by kernel_rfl) (by kernel_rfl) (fun _ _ _ h=>h) (Or.inl ⟨by rfl,fun w9 I=>?_⟩) ar ?_
    ·obtain ⟨s0,s1,s2,s3,s4⟩:=I;go_simp
    simp only [Act.put,fg,ff,lsA,lsZ,lsS];refine wpAnyH_take (i:=1) (v:=.agg #[.slice ao n z,.int .u64 (K:Nat),.slice bo l0 E]) rfl (by kernel_rfl) (by kernel_rfl) (by kernel_rfl) (fun _ _ _ h=>h) (Or.inl ⟨by rfl,fun w9 I=>?_⟩) ar ?_
    ·obtain ⟨s0,s1,s2,s3,s4⟩:=I;go_simp
    simp only [Act.put,fg,fB,ff,lsA,lsZ,lsS];refine wpAnyH_take (i:=3) (v:=.pointer po) rfl (by kernel_rfl) (by kernel_rfl) (by kernel_rfl) (fun _ _ _ h=>h) (Or.inl ⟨by rfl,fun w9 I=>?_⟩) ar ?_
    ·obtain ⟨s0,s1,s2,s3,s4⟩:=I;go_simp
    simp only [Act.put,fg,fB,ff,lsA,lsZ,lsS];refine wpAnyH_take (i:=4) (v:=.slice (some ⟨gT,0,none⟩) 16 cT) rfl (by kernel_rfl) (by kernel_rfl) (by kernel_rfl) (fun _ _ _ h=>h) (Or.inl ⟨by rfl,fun w9 I=>?_⟩) ar ?_
    ·obtain ⟨s0,s1,s2,s3,s4⟩:=I;go_simp
    simp only [Act.put,fg,fB,ff,lsA,lsZ,lsS];refine wpAnyH_take (i:=5) (v:=.int .u64 (g x.val:Nat)) rfl (by kernel_rfl) (by kernel_rfl) (by kernel_rfl) (fun _ _ _ h=>h) (Or.inl ⟨by rfl,fun w9 I=>?_⟩) ar ?_
    ·go_simp
    simp only [Act.put,fg,fB,ff,lsA,lsZ,lsS];refine wpAnyH_ready (rs:=[2,6]) (by kernel_rfl) (by simp) ?_;refine AllReadyH.cons rfl (fun K hK=>?_) (AllReadyH.cons rfl (fun K hK=>?_) AllReadyH.nil)
    ·go_simp
     refine hK.out _ _ ar (fun _=>?_);refine wpAnyH_ready (rs:=[6]) (by kernel_rfl) (by simp) ?_;refine AllReadyH.cons rfl (fun K hK=>?_) AllReadyH.nil;refine iy 263 _ _ _ (by rfl) (by rfl) (by rfl) aJ ac ?_;rintro e w7 ⟨so,sc,rfl,aq,aW,o7,d7⟩;have R7:=R9.step J.out.1 d7;have G:TrRoom w7 o7 4000:=d7.room (J.out.less (by unfold jJ;simp));have aP:=JC.out _ _ _ R7.did;have bi:=R7.box.cell;have M:=ak.out w7 _ o7 ro rc so sc _ _ R7.did (G.less (by omega)) R7.num aq;refine ⟨_,rfl,?_⟩;refine hK.out _ _ aP (fun _=>?_);simp only [Act.put,fg,fB,ff,lsA,lsZ,lsS]
     refine wpAnyH_ready (rs:=[7]) (by kernel_rfl) (by simp) ?_;refine AllReadyH.cons rfl (fun K hK=>?_) AllReadyH.nil;refine iy 126 _ _ _ (by rfl) (by rfl) (by rfl) aG M ?_;rintro e w8 ⟨tq,tc,rfl,aV,bl,o8,d8⟩;have R8:=R7.step G.1 d8;have an:TrIn w8 o8:=(d8.room (k:=0) (G.less (by have:=(gU ag.out).1;omega))).1;have U:=JC.out _ _ _ R8.did;have bj:=R8.box.cell;have bk:=R8.box.free;refine ⟨_,rfl,?_⟩;refine hK.out _ _ U (fun _=>?_);simp only [Act.put,fg,fB,ff,lsA,lsZ,lsS]
     refine wpAnyH_take (i:=8) (v:=.slice tq n tc) rfl (by kernel_rfl) (by kernel_rfl) (by kernel_rfl) (fun _ _ _ h=>h) (Or.inl ⟨by rfl,fun w9 I=>?_⟩) U ?_
     ·go_simp
     simp only [Act.put,fg,fB,ff,lsA,lsZ,lsS];refine wpAnyH_take (i:=9) (v:=.int .i64 0) rfl (by kernel_rfl) (by kernel_rfl) (by kernel_rfl) (fun _ _ _ h=>h) (Or.inl ⟨by rfl,fun w9 I=>?_⟩) U ?_
     ·go_simp
     simp only [Act.put,fg,fB,ff,lsA,lsZ,lsS];refine wpAnyH_ready (rs:=[10]) (by kernel_rfl) (by simp) ?_;refine AllReadyH.cons rfl (fun K hK=>?_) AllReadyH.nil;refine iy 262 _ _ _ (by rfl) (by rfl) (by rfl) aF (qR tq n tc w8) ?_;rintro e bp ⟨rfl,rfl⟩;refine ⟨_,rfl,?_⟩;refine hK.out _ _ U (fun _=>?_);simp only [Act.put,fg,fB,ff,lsA,lsZ,lsS];refine wpAnyH_ready (rs:=[11]) (by kernel_rfl) (by simp) ?_;refine AllReadyH.cons rfl (fun K hK=>?_) AllReadyH.nil;go_simp
     have RE:=R8.put an aV aX;refine hK.out _ _ (JC.out _ _ _ RE.did) (fun _=>?_);refine wpAnyH_done (by kernel_rfl) ?_ _;exact ay.out _ _ _ _ RE
    ·refine iy 263 _ _ _ (by rfl) (by rfl) (by rfl) aJ ac ?_;rintro e w7 ⟨so,sc,rfl,aq,aW,o7,d7⟩;have R7:=R9.step J.out.1 d7;have G:TrRoom w7 o7 4000:=d7.room (J.out.less (by unfold jJ;simp));have aP:=JC.out _ _ _ R7.did;have bi:=R7.box.cell;have M:=ak.out w7 _ o7 ro rc so sc _ _ R7.did (G.less (by omega)) R7.num aq;refine ⟨_,rfl,?_⟩;refine hK.out _ _ aP (fun _=>?_);simp only [Act.put,fg,fB,ff,lsA,lsZ,lsS];refine wpAnyH_ready (rs:=[2]) (by kernel_rfl) (by simp) ?_;refine AllReadyH.cons rfl (fun K hK=>?_) AllReadyH.nil;go_simp
     refine hK.out _ _ aP (fun _=>?_);refine wpAnyH_ready (rs:=[7]) (by kernel_rfl) (by simp) ?_;refine AllReadyH.cons rfl (fun K hK=>?_) AllReadyH.nil;refine iy 126 _ _ _ (by rfl) (by rfl) (by rfl) aG M ?_;rintro e w8 ⟨tq,tc,rfl,aV,bl,o8,d8⟩;have R8:=R7.step G.1 d8;have an:TrIn w8 o8:=(d8.room (k:=0) (G.less (by have:=(gU ag.out).1;omega))).1;have U:=JC.out _ _ _ R8.did;have bj:=R8.box.cell;have bk:=R8.box.free;refine ⟨_,rfl,?_⟩;refine hK.out _ _ U (fun _=>?_);simp only [Act.put,fg,fB,ff,lsA,lsZ,lsS]
     refine wpAnyH_take (i:=8) (v:=.slice tq n tc) rfl (by kernel_rfl) (by kernel_rfl) (by kernel_rfl) (fun _ _ _ h=>h) (Or.inl ⟨by rfl,fun w9 I=>?_⟩) U ?_
     ·go_simp
     simp only [Act.put,fg,fB,ff,lsA,lsZ,lsS];refine wpAnyH_take (i:=9) (v:=.int .i64 0) rfl (by kernel_rfl) (by kernel_rfl) (by kernel_rfl) (fun _ _ _ h=>h) (Or.inl ⟨by rfl,fun w9 I=>?_⟩) U ?_
     ·go_simp
     simp only [Act.put,fg,fB,ff,lsA,lsZ,lsS];refine wpAnyH_ready (rs:=[10]) (by kernel_rfl) (by simp) ?_;refine AllReadyH.cons rfl (fun K hK=>?_) AllReadyH.nil;refine iy 262 _ _ _ (by rfl) (by rfl) (by rfl) aF (qR tq n tc w8) ?_;rintro e bp ⟨rfl,rfl⟩;refine ⟨_,rfl,?_⟩;refine hK.out _ _ U (fun _=>?_);simp only [Act.put,fg,fB,ff,lsA,lsZ,lsS];refine wpAnyH_ready (rs:=[11]) (by kernel_rfl) (by simp) ?_;refine AllReadyH.cons rfl (fun K hK=>?_) AllReadyH.nil;go_simp
     have RE:=R8.put an aV aX;refine hK.out _ _ (JC.out _ _ _ RE.did) (fun _=>?_);refine wpAnyH_done (by kernel_rfl) ?_ _;exact ay.out _ _ _ _ RE
    -- REGION 9 ENDS
 case done=>
  rintro D zs W hD aQ ⟨oc,qo,qc,av,O,hd,_⟩ hK;obtain ⟨q0,q1,q2,q3,q4⟩:=JC.out _ _ _ hd;have p:TrRoom W oc 3000:=hd.room (T.out.less (by
   have h1:=kD ag.out L zs.length;have h2:=congrArg List.length aQ;rw [cf,mo] at h2;omega))
  have qP:=av.cell;have al:=aS.out W _ oc qo qc _ hd (p.less (by omega)) O;have hE:mi g zs=val ys:=by
   rw [BZ aQ,<- D0 a7 ah.out.out]
   congr 1
   exact List.map_congr_left (fun j _=>(HG.out j).symm)
  have ad:zs.length=16*L:=by
   have h2:=congrArg List.length aQ
   rwa [cf,mo] at h2
  rw [hE] at al;rw [ad] at hd;have HD:=aa hd;have az:=aa p;clear hE ad aQ hd p O av hg;go_wp2_with fail;refine al.mono ?_;rintro e W4 ⟨zo,zc,rfl,aD,hF,o4,d4⟩;have aE:=qR zo n zc W4;have a1:=aa aD;have be:=aa hF;have a0:Hid (W4.heap[D]? = some (.deferred (some []))):=(d4.kept.block D (kY.1 hK).1 (fun f=>by
   obtain ⟨c,ty,fr,h⟩:=ph az.out.1 f;rw [hK] at h;cases h)).trans hK
  have bd:=aa (HD.out.trans d4);clear al aD hF d4 hK q0 q1 q2 q3 q4 qP;go_wp2_with fail;refine aE.mono ?_;rintro e W5 ⟨rfl,rfl⟩;clear aE;go_wp2_with fail;refine ⟨by simp,.inl ⟨_,_,rfl,run_takeDeferred a0.out,?_⟩⟩;have tt:=tI (B:=W3.heap.size) hD a0.out rfl (.deferred none);exact ⟨_,results_tmp rfl _ _ _,zo,zc,rfl,⟨tt.row a1.out.1,tt.u64s a1.out.2⟩,fun b hb=>by have h1:=be.out b hb;have h2:=HD.out.size;have h3:=ap.out.size;omega,o4,tt.did (Did.after ap.out bd.out) (by have h2:=kE.size;have h3:=ap.out.size;omega)⟩
 case stop=>
  rintro D c H W _ _ h _;exact h.elim

end Go.Proofs.YtkaojflnghfmcaaGreatDoor
