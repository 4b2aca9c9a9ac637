/- Put together of: QuG QuH LimN L5B LimO. -/
import Derived.Test.YtkaojflnghfmcaaGreatDoorQC16
import Derived.Test.YtkaojflnghfmcaaGreatDoorQC28

namespace Go.Proofs.YtkaojflnghfmcaaGreatDoor
open _root_.Go.Proofs.Tryz
set_option maxRecDepth 100000
set_option maxHeartbeats 4000000
open Go.RowKit

theorem uJ {Y M K:Nat} (h0:0<Y) (hM:Y<18446744073709551616^M) (hK:K=(aM Y+63)/64):0<K/\K<=M/\Y<18446744073709551616^K/\18446744073709551616^(K-1)<=Y:=by
 have h1:¬ aM Y<=0:=fun h=>by have:=(aX Y 0).1 h;simp at this;omega
 have h2:=(aX Y (aM Y)).1 (leR _);have h3:¬ Y<2^(aM Y-1):=fun h=>by have:=(aX Y (aM Y-1)).2 h;omega
 rw [B64] at hM;have h4:=(aX Y (64*M)).2 hM;have a:0<K:=by omega
 refine ⟨a,by omega,?_,?_⟩
 ·rw [B64];exact bd h2 (aY (by omega) (by omega))
 ·rw [B64];exact aR (aY (by omega) (by omega)) (Nat.le_of_not_lt h3)

theorem Fw (ao bo:Option Addr) (L M aI av:Nat) (xs ys:List Nat) (X Y:Nat) (hX:X=val xs) (hY:Y=val ys) (a0:0<Y) (w:World) (hu:Row .u64 w (.slice ao L aI) xs) (hv:Row .u64 w (.slice bo M av) ys) (cl:Digs xs) (bX:Digs ys) (hL:L<=100000) (hM:M<=100000) :
  Calls prog 250 #[.slice ao L aI,.slice bo M av] w fun e w'=>∃ v1 v2,e=.returned (.tuple #[v1,v2]) /\
   OwnN .u64 24 w' w.heap.size v1 L (digs (X/Y) L)/\OwnN .u64 24 w' w.heap.size v2 M (digs (X%Y) M)/\Kept af w w':=by
 obtain ⟨i0,cv,cx,cz,cA⟩:=info_parts Tryz.info24;obtain ⟨_,_,_,e1,ck,_,_,_,_⟩:=hu.open;cases e1
 obtain ⟨_,_,_,e1,bV,_,_,_,_⟩:=hv.open;cases e1
 have eL:=aa ck.out;have eM:=aa bV.out;have bW:Y<18446744073709551616^M:=by rw [hY,<- bV.out];exact aE (by omega) bX
 have cu:Hid (X<18446744073709551616^L):=by unfold Hid;rw [hX,<- ck.out];exact aE (by omega) cl
 have bp:=fun W (k:Kept af w W)=>iw _ ys W (hv.grew k) bX (by rw [bV.out];omega)
 rw [<- hY] at bp;obtain ⟨K,hK⟩:∃ K,K=(aM Y+63)/64:=⟨_,rfl⟩
 obtain ⟨n1,n2,n3,n4⟩:=uJ a0 bW hK;have cZ:aM Y<=6400000:=by
  rw [B64] at bW;have:=(aX Y (64*M)).2 bW;omega
 generalize aM Y=bl at *;have gK:((bl:Int)+64-1)/64=(K:Int):=by omega
 have HU:=aa hu;have HV:=aa hv;have bU:=aa cl;have aH:=aa bX;have HX:=aa hX;have HY:=aa hY;have au:=aa n3;have ct:=aa n4;obtain ⟨CL,ch⟩:∃ C,C=madeCells #[.int .u64 0] L:=⟨_,rfl⟩
 obtain ⟨CM,ci⟩:∃ C,C=madeCells #[.int .u64 0] M:=⟨_,rfl⟩
 have bE:∀ W,(Instr.makeSlice 23 (.int .i64 (L:Int)) (.int .i64 (L:Int))).run prog W=.ok (.slice (some ⟨W.heap.size,0,none⟩) L L) (W.alloc (.cells CL 24)):=fun W=>by rw [ch];exact run_make_row (P:=prog) _ _ i0 _ underlying23 cv cx cz rfl _ _ L (by rw [cA];omega) (by omega) W
 have bF:∀ W,(Instr.makeSlice 23 (.int .i64 (M:Int)) (.int .i64 (M:Int))).run prog W=.ok (.slice (some ⟨W.heap.size,0,none⟩) M M) (W.alloc (.cells CM 24)):=fun W=>by rw [ci];exact run_make_row (P:=prog) _ _ i0 _ underlying23 cv cx cz rfl _ _ M (by rw [cA];omega) (by omega) W
 have bS:=aa ch;have bT:=aa ci;clear hu hv cl bX ck bV hX hY bW hK n3 n4 ch ci;go_enter func250,ntmps250;go_wp2_with fail;go_region
 ·have cp:=m7 w L M CL CM bS.out bT.out (by omega) (by omega);generalize ((w.alloc (.cells CL 24)).alloc (.cells CM 24)).drew=W1 at *;obtain ⟨ai,al,k1⟩:=cp;clear bE bF bS bT;obtain ⟨_,_,_,e1,_,_,_,_,aG⟩:=(HV.out.grew k1).open;cases e1
  go_wp2_with fail;refine (bp _ k1).mono ?_;rintro e w2 ⟨rfl,rfl⟩;clear bp;have a4:Hid (xs≠[]->∀ b,(Value.slice ao L aI).ownBlock=some b->b<w.heap.size):=fun h b hb=>HU.out.lt h b hb
  by_cases hK1:K=1
  ·subst hK1;have cD:((bl:Int)+64-1)/64=1:=gK;clear gK;obtain ⟨b2,v,rfl,cy⟩:=aG 0 (by omega);have bP:ys.getD 0 0=Y:=by
    rw [<- cS (by omega) aH.out,<- HY.out,dig,cw,eX];have:=au.out;rw [jG] at this;exact ax this
   have cB:w2.cell? ⟨b2,v,none⟩=some (.int .u64 (Y:Nat)):=by rw [<- bP];exact cy
   have ad:Y<18446744073709551616:=by have:=au.out;rwa [jG] at this
   obtain ⟨R,hR⟩:∃ R,R=X%Y:=⟨_,rfl⟩
   have aR:R<18446744073709551616:=by rw [hR];exact bk (ay _ a0) ad
   have ab:=Hi w.heap.size w.heap.size L L ao aI xs (List.replicate L 0) X Y R HX.out hR ad a0 w2 ai (by simp) (HU.out.grew k1) bU.out (fun h b hb=>by have:=a4.out h b hb;omega) (by omega);have cX:(0:Int)<(M:Int):=by omega
   obtain ⟨M1,br⟩:∃ M1,M=M1+1:=⟨M-1,by omega⟩
   have ce:Hid (digs R M=(List.replicate M 0).set 0 R):=by unfold Hid;rw [br,iX R M1 aR,iZ,lsZ]
   have b7:=aa hR;clear aG cy bP br hR;go_wp2_with fail;refine ab.mono ?_;rintro e w3 ⟨rfl,r,k3⟩;have l:=k3.own al (fun b hb e=>by simp [Value.ownBlock] at hb;omega);have cr:w3.cell? ⟨(w.heap.size+1),0,none⟩=some (.int .u64 0):=by
    rw [World.ownsRow.cellAt l 0 (by omega),bu,ee,ah (by omega)];rfl
   have fr:=World.ownsRow.frozenAt l 0;have bL:=(World.ownsRow.stored l 0 (.int .u64 (R:Int))).1;have kb:Kept (fun b=>b=(w.heap.size+1)) w3 (w3.setCell ⟨(w.heap.size+1),0,none⟩ (.int .u64 (R:Int))):=aD w3 (w.heap.size+1) _;have HQ:=aa (kb.own r (fun b hb e=>by simp [Value.ownBlock] at hb;omega));have b6:Hid (OwnN .u64 24 (w3.setCell ⟨(w.heap.size+1),0,none⟩ (.int .u64 (R:Int))) w.heap.size (.slice (some ⟨(w.heap.size+1),0,none⟩) M M) M (digs (X%Y) M)):=by
    unfold Hid OwnN;rw [<- b7.out,ce.out,bZ];exact bL
   have aJ:=aa ((k1.next k3 (fun x hx e=>by omega)).next kb (fun x hx e=>by omega));clear ab l bL kb r k3 ai al;go_wp2_with fail;go_ret2;exact ⟨_,_,rfl,HQ.out,b6.out,aJ.out⟩
  ·have cC:((K:Int) == 1)=false:=by simp;omega
   have cF:¬ (K:Int)=1:=by omega
   obtain ⟨n,hn⟩:∃ n,n=K-2:=⟨_,rfl⟩
   obtain ⟨nk,a5⟩:∃ nk,nk=K-1:=⟨_,rfl⟩
   obtain ⟨b2,v,rfl,cy⟩:=aG nk (by omega);obtain ⟨t,ht⟩:∃ t,t=Y/18446744073709551616^nk:=⟨_,rfl⟩
   have a1:Y<18446744073709551616^(nk+1):=by rw [show nk+1=K by omega];exact au.out
   have G:0<18446744073709551616^nk:=aC (by omega);have bM:t<18446744073709551616:=by
    rw [ht,cj G,<- j9];exact a1
   have cq:0<t:=by rw [ht];exact Nat.div_pos (by rw [a5];exact ct.out) G
   have bQ:ys.getD nk 0=t:=by rw [<- cS (by omega) aH.out,<- HY.out,dig,<- ht,ax bM]
   rw [bQ] at cy;obtain ⟨s,hs⟩:∃ s,s=64-aM t:=⟨_,rfl⟩
   obtain ⟨ar,v1,v2,v3⟩:=tf a1 ht cq hs;rw [show nk+1=K by omega] at v1;have aN:=fun W=>bLz t bM W
   rw [<- hs] at aN;obtain ⟨V,hV⟩:∃ V,V=Y*2^s:=⟨_,rfl⟩
   rw [<- hV] at v1 v2 v3;have cc:=aa hV;obtain ⟨N,hN⟩:∃ N,N=max L K+1:=⟨_,rfl⟩
   have gN:max (L:Int) (K:Int)+1=(N:Int):=by omega
   have cJ:(K:Int)-1=(nk:Int):=by omega
   have cK:(nk:Int)<(M:Int):=by omega
   have cL:(K:Int)<=(M:Int):=by omega
   have bs:M<=av:=by obtain ⟨_,_,_,e1,_,hh,_⟩:=HV.out.open;cases e1;exact hh
   have cM:(K:Int)<=(av:Int):=by omega
   have hcut:∀ W,Kept af w W->Row .u64 W (.slice (some ⟨b2,v,none⟩) K av) (ys.take K):=fun W k=>(HV.out.grew k).cut (by rw [eM.out];omega)
   have bO:Y=val (ys.take K):=by rw [iz (by omega) aH.out,<- HY.out,ax au.out]
   have aS:=fun W (k:Kept af w W)=>rI (some ⟨b2,v,none⟩) K av (ys.take K) Y s K bO ar W (hcut W k) (aH.out.take K) (by omega) (leR _)
   have bt:=fun W (k:Kept af w W)=>rI ao L aI xs X s N HX.out ar W (HU.out.grew k) bU.out (by omega) (by omega)
   rw [<- hV] at aS;have H0:Hid (n=K-2/\nk=K-1/\N=max L K+1/\2<=K):=⟨hn,a5,hN,by omega⟩
   clear aG ht hs bQ hV hcut bO hn a5 hN G a1;go_wp2_with fail;refine (aN _).mono ?_;rintro e w3 ⟨rfl,rfl⟩;clear aN;go_wp2_with fail;refine (aS _ k1).mono ?_;rintro e w4 ⟨rfl,a9,k4⟩;have bh:=k1.trans k4;go_wp2_with fail;refine (bt _ bh).mono ?_;rintro e w5 ⟨rfl,H,k5⟩;have cs:=bh.trans k5;have am:=k5.own a9 (fun _ _ f=>f);have B:=(k4.trans k5).own ai (fun _ _ f=>f);have D:=(k4.trans k5).own al (fun _ _ f=>f);have ap:w.heap.size+1<w3.heap.size:=by have h1:=eN ai;have h2:=eN al;omega
   have aq:w3.heap.size<w4.heap.size:=eN a9;clear aS bt a9 ai al k1 bh;go_wp2_with fail;obtain ⟨T,hT⟩:∃ T,T=L+1-K:=⟨_,rfl⟩
   have cm:=eN B;have cn:=eN D;have ba:w.heap.size+1<w3.heap.size:=ap;have bb:w3.heap.size<w4.heap.size:=aq;obtain ⟨gv,a3⟩:∃ g,g=w3.heap.size:=⟨_,rfl⟩
   obtain ⟨gu,a2⟩:∃ g,g=w4.heap.size:=⟨_,rfl⟩
   have F:OwnN .u64 24 w5 w.heap.size (.slice (some ⟨gu,0,none⟩) N N) N (digs (X*2^s) N):=by
    rw [a2];exact cE H (fun b hb=>by simp [Value.ownBlock] at hb;omega)
   have bI:Row .u64 w5 (.slice (some ⟨gv,0,none⟩) K K) (digs V K):=by rw [a3];exact cW am (ag _ _ _)
   rw [<- a3,<- a2];have dq:w.heap.size≠gu/\(w.heap.size+1)≠gu/\gv≠gu/\gv≠w.heap.size/\w.heap.size≠(w.heap.size+1)/\w.heap.size<=gu:=by omega
   clear H am a3 a2 bb ba cm cn;obtain ⟨J,O,S,cU⟩:=H0.out;have aY:0<V:=bd (fI (by omega) (aC (by omega))) v3;have aZ:X*2^s<2^s*18446744073709551616^L:=by rw [aF];exact lC cu.out (aC (by omega))
   have bA:X*2^s<18446744073709551616^N:=tJ aZ ar (by omega);obtain ⟨a,c⟩:∃ a,a=digs (X*2^s) N:=⟨_,rfl⟩
   rw [<- c] at F;have bG:a.length=N:=by rw [c,ag]
   have a6:Digs a:=by rw [c];exact ak (by omega) _ _
   have a7:val a=X*2^s:=by rw [c,aB,ax bA]
   have o:val (a.drop T)<V:=by rw [jW (by omega) a6,a7];exact oh aZ ar v3 (by omega)
   have q:Hid (a.length=N/\Digs a/\val a=X*2^s):=⟨bG,a6,a7⟩
   have bC:(digs V K).getD nk 0=dig V nk:=iQ _ _ _ _ (by omega);rw [<- bC] at v2;have bN:V=val (digs V K):=by rw [aB,ax v1]
   have HT:=aa hT;have b8:=aa bI;have b3:=aa F;have cb:=aa v2;have cd:=aa bN;have b9:=aa o;have gT:(L:Int)-(K:Int)+1=(T:Int)\/(T=0/\(L:Int)-(K:Int)+1<=0):=by omega
   obtain ⟨TI,bx⟩:∃ TI,TI=(L:Int)-(K:Int)+1:=⟨_,rfl⟩
   have bn:∀ k:Nat,k<=T->((k:Int)<TI↔k<T):=fun k hk=>by omega
   rw [<- bx];clear hT bI F v2 bN o bG a6 a7 c bC bA aZ gT cy bx J O S;go_loopw [63] (fun i wr=>∃ (k:Nat) (zs qs:List Nat),k<=T/\i=.int .i64 (k:Int)/\OwnN .u64 24 wr w.heap.size (.slice (some ⟨gu,0,none⟩) N N) N zs/\OwnN .u64 24 wr w.heap.size (.slice (some ⟨w.heap.size,0,none⟩) L L) L ((List.replicate T 0).take (T-k) ++ (qs ++ List.replicate (L-T) 0))/\Kept (fun b=>b=gu\/b=w.heap.size) w5 wr /\
     Hid ((zs.length=N/\Digs zs)/\(qs.length=k/\Digs qs)/\zs.take (T-k)=a.take (T-k)/\val (zs.drop (T-k))<V/\V*val qs+val (zs.drop (T-k))=val (a.drop (T-k)))) (fun i _=>T-(intOf i).toNat)
   case atStart=>
    refine ⟨0,a,[],aP _,rfl,b3.out,?_,aj _ _,⟨⟨q.out.1,q.out.2.1⟩,⟨rfl,Digs.nil _⟩,rfl,by rw [dK];exact b9.out,by rw [val,cG,dz]⟩⟩;rw [dK,dJ (by simp),bw,mu,show T+(L-T)=L by have:=HT.out;omega];exact B
   case round=>
    clear B;obtain ⟨k,zs,qs,hk,rfl,H,r,az,HI⟩:=hrel;by_cases hkT:k<T
    ·have gk:(k:Int)<TI:=(bn k hk).2 hkT;have c0:(0:Int)<=(k:Int):=bY _;have aW:=HT.out;obtain ⟨J,O,S,_⟩:=H0.out;obtain ⟨j,hj⟩:∃ j,j=T-1-k:=⟨_,rfl⟩
     have bz:T-k=j+1:=by omega
     have ac:T-(k+1)=j:=by omega
     have gj:(L:Int)-(K:Int)-(k:Int)=(j:Int):=by omega
     have cH:(j:Int)<(L:Int):=by omega
     have bD:j+(K+1)<=N:=by omega
     obtain ⟨⟨i1,i2⟩,⟨i3,i4⟩,i5,i6,i7⟩:=HI.out;rw [bz] at i5 i6 i7 r;obtain ⟨U,hU⟩:∃ U,U=val ((zs.drop j).take (K+1)):=⟨_,rfl⟩
     obtain ⟨aL,bm⟩:=oV (by omega) i2 i1 q.out.1 bD v1 aY i6 i5 i7 U hU;obtain ⟨l1,l2,l3,l4,l5⟩:=bm _ rfl;obtain ⟨Q,hQ⟩:∃ Q,Q=U/V:=⟨_,rfl⟩
     obtain ⟨R,hR⟩:∃ R,R=U%V:=⟨_,rfl⟩
     have cY:Q<18446744073709551616:=by rw [hQ,cj aY,aF];exact aL
     rw [<- hR] at l1 l2 l3 l4 l5;rw [<- hQ] at l5;have an:Row .u64 wr (.slice (some ⟨gv,0,none⟩) K K) (digs V K):=b8.out.kept az (fun b hb e=>by simp [Value.ownBlock] at hb;omega);have aV:=Eu gu w.heap.size N N j n nk K (N-j) (by omega) (by omega) zs (digs V K) (some ⟨gv,0,none⟩) K U V Q R wr H i1 i2 bD (by omega) (by omega) an (ak (by omega) _ _) (fun b hb e=>by simp [Value.ownBlock] at hb;omega) cb.out hU cd.out aL hQ hR;have bq:∀ W,OwnN .u64 24 W w.heap.size (.slice (some ⟨w.heap.size,0,none⟩) L L) L ((List.replicate T 0).take (j+1) ++ (qs ++ List.replicate (L-T) 0))->W.cell? ⟨w.heap.size,j,none⟩=some (.int .u64 0):=fun W h=>by
      rw [World.ownsRow.cellAt h j (by omega),bu,gD (by rw [aO,be];omega),dV,ah (by omega),ee,ah (by omega)];rfl
     have aT:Hid (∀ W,OwnN .u64 24 W w.heap.size (.slice (some ⟨w.heap.size,0,none⟩) L L) L ((List.replicate T 0).take (j+1) ++ (qs ++ List.replicate (L-T) 0))->OwnN .u64 24 (W.setCell ⟨w.heap.size,j,none⟩ (.int .u64 (Q:Int))) w.heap.size (.slice (some ⟨w.heap.size,0,none⟩) L L) L ((List.replicate T 0).take j ++ ((Q :: qs) ++ List.replicate (L-T) 0))):=fun W h=>by
      have:=(World.ownsRow.stored h j (.int .u64 (Q:Int))).1;unfold OwnN;rw [fd,<- nL (by rw [be];omega),bZ];exact this
     have b1:Hid (((zs.take j ++ (digs R (K+1) ++ zs.drop (j+(K+1)))).length=N/\Digs (zs.take j ++ (digs R (K+1) ++ zs.drop (j+(K+1)))))/\((Q :: qs).length=k+1/\Digs (Q :: qs))/\(zs.take j ++ (digs R (K+1) ++ zs.drop (j+(K+1)))).take j=a.take j/\val ((zs.take j ++ (digs R (K+1) ++ zs.drop (j+(K+1)))).drop j)<V/\V*val (Q :: qs)+val ((zs.take j ++ (digs R (K+1) ++ zs.drop (j+(K+1)))).drop j)=val (a.drop j)):=⟨⟨l1,l2⟩,⟨by rw [cI,i3],fun d hd=>by rcases fC.1 hd with h | h;omega;exact i4 d h⟩,l3,l4,l5⟩
     have I:=aa ac;have cf:(j:Int)<=(j:Int)+(K:Int)+1:=by omega
     have cg:(j:Int)+(K:Int)+1<=(N:Int):=by omega
     clear HI hj bz ac i1 i2 i3 i4 i5 i6 i7 l1 l2 l3 l4 l5 aL bm hU hQ hR an J O S aW;generalize zs.take j ++ (digs R (K+1) ++ zs.drop (j+(K+1)))=zs2 at *;rw [show K+1=j+K+1-j by omega] at aV;go_wp2_with fail;refine aV.mono ?_;rintro e w6 ⟨rfl,a8,k6⟩;have E:=k6.own r (fun b hb e=>by simp [Value.ownBlock] at hb;omega);have c6:=bq _ E;have f6:=World.ownsRow.frozenAt E j;clear aV bq;go_wp2_with fail;go_roundw
     case rel=>
      have kb:Kept (fun b=>b=w.heap.size) w6 (w6.setCell ⟨w.heap.size,j,none⟩ (.int .u64 (Q:Int))):=(aj (fun b=>b=w.heap.size) w6).setCell ⟨w.heap.size,j,none⟩ (fun _=>rfl) _;refine ⟨k+1,zs2,Q :: qs,by omega,by go_num,kb.own a8 (fun b hb e=>by simp [Value.ownBlock] at hb;omega),?_,(az.next k6 (fun _ _ e=>.inl e)).next kb (fun _ _ e=>.inr e),by rw [I.out];exact b1⟩;rw [I.out];exact aT.out _ E
     case measure=>simp [intOf];omega
    ·have gk:¬ (k:Int)<TI:=fun h=>hkT ((bn k hk).1 h)
     obtain rfl:k=T:=by omega
     obtain ⟨J,O,S,_⟩:=H0.out;have aW:=HT.out;obtain ⟨⟨i1,i2⟩,⟨i3,i4⟩,_,i6,i7⟩:=HI.out;rw [bJ,gC] at i6 i7;rw [gC,q.out.2.2] at i7;rw [bJ,mx,bw] at r;obtain ⟨d1,d2⟩:=nM (M:=X) (y:=Y) (p:=2^s) (aC (by omega));rw [<- cc.out,<- i7] at d1 d2;rw [fH aY,bj i6,aU] at d1;rw [i9,ax i6] at d2;have bH:qs ++ List.replicate (L-k) 0=digs (X/Y) L:=by
      rw [ir i4 d1 (by omega),i3]
     rw [bH] at r;obtain ⟨Z,hZ⟩:∃ Z,Z=val zs:=⟨_,rfl⟩
     rw [<- hZ] at d2;have bR:∀ i,zs.getD i 0=dig Z i:=fun i=>by rw [hZ];exact (cS (by omega) i2 i).symm
     have bB:∀ W,Kept (fun b=>b=(w.heap.size+1)) wr W->∀ i,i<N->W.cell? ⟨gu,i,none⟩=some (.int .u64 (dig Z i:Nat)):=fun W kk i hi=>by
      have h1:=kk.own H (fun b hb e=>by simp [Value.ownBlock] at hb;omega);rw [World.ownsRow.cellAt h1 i (by omega),bu,<- bR,aA,aQ (by omega)];rfl
     have l:=az.own D (fun b hb e=>by simp [Value.ownBlock] at hb;omega);have bi:=aa bB;have b4:=aa r;have b0:=aa d2;have cV:K+1<=N:=by omega
     obtain ⟨s2,bK⟩:∃ s2,s2=64-s:=⟨_,rfl⟩
     have cf:(s:Int)<=64:=by omega
     have cg:IntKind.i64.wrap (64-(s:Int))=(s2:Int):=by rw [IntKind.wrap_i64];omega
     have cR:(s2:Int)<=64:=by omega
     have ca:=aa bK;clear HI i1 i2 i3 i4 i6 i7 d1 d2 bH hZ bR bB r H D J O S aW bK;go_wp2_with fail;go_loopw [86] (fun i wz=>∃ (m:Nat),m<=K/\i=.int .i64 (m:Int)/\OwnN .u64 24 wz w.heap.size (.slice (some ⟨(w.heap.size+1),0,none⟩) M M) M (digs (Z/2^s) m ++ List.replicate (M-m) 0)/\Kept (fun b=>b=(w.heap.size+1)) wr wz) (fun i _=>K-(intOf i).toNat)
     case atStart=>exact ⟨0,aP _,rfl,by rw [dK];exact l,aj _ _⟩
     case round=>
      clear l;obtain ⟨m,hm,rfl,l,ae⟩:=hrel;by_cases hmK:m<K
      ·have c3:(0:Int)<=(m:Int):=bY _;have co:(m:Int)<(K:Int):=by omega
       obtain ⟨m1,A⟩:∃ m1,m1=m+1:=⟨_,rfl⟩
       have cN:IntKind.i64.wrap ((m:Int)+1)=(m1:Int):=by rw [IntKind.wrap_i64];omega
       have cO:(m:Int)<(N:Int):=by omega
       have cP:(m1:Int)<(N:Int):=by omega
       have cQ:(m:Int)<(M:Int):=by omega
       have c1:=bi.out _ ae m (by omega);have c2:=bi.out _ ae m1 (by omega);have aw:=oY (Z:=Z) (i:=m) ar;rw [<- ca.out,<- A] at aw;have cr:=iR l (ag _ _ _) (by omega);have fr:=World.ownsRow.frozenAt l m;have bv:Hid (OwnN .u64 24 (wr.setCell ⟨(w.heap.size+1),m,none⟩ (.int .u64 (dig (Z/2^s) m:Nat))) w.heap.size (.slice (some ⟨(w.heap.size+1),0,none⟩) M M) M (digs (Z/2^s) (m+1) ++ List.replicate (M-(m+1)) 0)):=by
        have:=(World.ownsRow.stored l m (.int .u64 (dig (Z/2^s) m:Nat))).1;unfold Hid OwnN;rw [digs,<- jV _ M m _ (ag _ _ _) (by omega),bZ];exact this
       obtain ⟨z,hz⟩:∃ z,z=dig (Z/2^s) m:=⟨_,rfl⟩
       rw [<- hz] at aw bv;obtain ⟨x1,bc⟩:∃ x1,x1=dig Z m:=⟨_,rfl⟩
       obtain ⟨x2,bf⟩:∃ x2,x2=dig Z m1:=⟨_,rfl⟩
       rw [<- bc,<- bf] at aw;rw [<- bc] at c1;rw [<- bf] at c2;obtain ⟨xl,bg⟩:∃ xl,xl=x1/2^s:=⟨_,rfl⟩
       rw [<- bg] at aw;have cT:(x1:Int)/2^s=(xl:Int):=by rw [bg];simp
       have aK:=aa A;clear hz bc bf bg A l;go_wp2_with fail;go_still_tail 17,(by kernel_rfl)
       change wpList _ _ _ _ _ wr.drew
       go_wp2_with fail;go_roundw
       case rel=>exact ⟨m1,by have:=aK.out;omega,rfl,by rw [aK.out];exact bv.out,(ae.setCell ⟨(w.heap.size+1),m,none⟩ (fun _=>rfl) _).drew⟩
       case measure=>have:=aK.out;simp [intOf];omega
      ·have co:¬ (m:Int)<(K:Int):=by omega
       obtain rfl:m=K:=by omega
       rw [b0.out] at l;have hf:=ir (m:=M) (ak (by omega) (X%Y) m) (V:=X%Y) (by rw [aB,ax (bk (ay _ a0) au.out)]) (by rw [ag];omega);rw [ag] at hf;rw [<- hf] at l;have b5:=aa (ae.own b4.out (fun b hb e=>by have e':b=(w.heap.size+1):=e;simp [Value.ownBlock] at hb;omega));have aJ:=aa ((cs.next az (fun x hx e=>by rcases e with e | e <;> omega)).next ae (fun x hx e=>by have e':x=(w.heap.size+1):=e;omega));clear hf;go_wp2_with fail;go_ret2;exact ⟨_,_,rfl,b5.out,l,aJ.out⟩
 ·have cp:=m7 w M L CM CL bT.out bS.out (by omega) (by omega);generalize ((w.alloc (.cells CM 24)).alloc (.cells CL 24)).drew=W1 at *;obtain ⟨al,ai,k1⟩:=cp;clear bE bF bS bT;obtain ⟨_,_,_,e1,_,_,_,_,aG⟩:=(HV.out.grew k1).open;cases e1
  go_wp2_with fail;refine (bp _ k1).mono ?_;rintro e w2 ⟨rfl,rfl⟩;clear bp;have a4:Hid (xs≠[]->∀ b,(Value.slice ao L aI).ownBlock=some b->b<w.heap.size):=fun h b hb=>HU.out.lt h b hb
  by_cases hK1:K=1
  ·subst hK1;have cD:((bl:Int)+64-1)/64=1:=gK;clear gK;obtain ⟨b2,v,rfl,cy⟩:=aG 0 (by omega);have bP:ys.getD 0 0=Y:=by
    rw [<- cS (by omega) aH.out,<- HY.out,dig,cw,eX];have:=au.out;rw [jG] at this;exact ax this
   have cB:w2.cell? ⟨b2,v,none⟩=some (.int .u64 (Y:Nat)):=by rw [<- bP];exact cy
   have ad:Y<18446744073709551616:=by have:=au.out;rwa [jG] at this
   obtain ⟨R,hR⟩:∃ R,R=X%Y:=⟨_,rfl⟩
   have aR:R<18446744073709551616:=by rw [hR];exact bk (ay _ a0) ad
   have ab:=Hi (w.heap.size+1) w.heap.size L L ao aI xs (List.replicate L 0) X Y R HX.out hR ad a0 w2 ai (by simp) (HU.out.grew k1) bU.out (fun h b hb=>by have:=a4.out h b hb;omega) (by omega);have cX:(0:Int)<(M:Int):=by omega
   obtain ⟨M1,br⟩:∃ M1,M=M1+1:=⟨M-1,by omega⟩
   have ce:Hid (digs R M=(List.replicate M 0).set 0 R):=by unfold Hid;rw [br,iX R M1 aR,iZ,lsZ]
   have b7:=aa hR;clear aG cy bP br hR;go_wp2_with fail;refine ab.mono ?_;rintro e w3 ⟨rfl,r,k3⟩;have l:=k3.own al (fun b hb e=>by simp [Value.ownBlock] at hb;omega);have cr:w3.cell? ⟨w.heap.size,0,none⟩=some (.int .u64 0):=by
    rw [World.ownsRow.cellAt l 0 (by omega),bu,ee,ah (by omega)];rfl
   have fr:=World.ownsRow.frozenAt l 0;have bL:=(World.ownsRow.stored l 0 (.int .u64 (R:Int))).1;have kb:Kept (fun b=>b=w.heap.size) w3 (w3.setCell ⟨w.heap.size,0,none⟩ (.int .u64 (R:Int))):=aD w3 w.heap.size _;have HQ:=aa (kb.own r (fun b hb e=>by simp [Value.ownBlock] at hb;omega));have b6:Hid (OwnN .u64 24 (w3.setCell ⟨w.heap.size,0,none⟩ (.int .u64 (R:Int))) w.heap.size (.slice (some ⟨w.heap.size,0,none⟩) M M) M (digs (X%Y) M)):=by
    unfold Hid OwnN;rw [<- b7.out,ce.out,bZ];exact bL
   have aJ:=aa ((k1.next k3 (fun x hx e=>by omega)).next kb (fun x hx e=>by omega));clear ab l bL kb r k3 ai al;go_wp2_with fail;go_ret2;exact ⟨_,_,rfl,HQ.out,b6.out,aJ.out⟩
  ·have cC:((K:Int) == 1)=false:=by simp;omega
   have cF:¬ (K:Int)=1:=by omega
   obtain ⟨n,hn⟩:∃ n,n=K-2:=⟨_,rfl⟩
   obtain ⟨nk,a5⟩:∃ nk,nk=K-1:=⟨_,rfl⟩
   obtain ⟨b2,v,rfl,cy⟩:=aG nk (by omega);obtain ⟨t,ht⟩:∃ t,t=Y/18446744073709551616^nk:=⟨_,rfl⟩
   have a1:Y<18446744073709551616^(nk+1):=by rw [show nk+1=K by omega];exact au.out
   have G:0<18446744073709551616^nk:=aC (by omega);have bM:t<18446744073709551616:=by
    rw [ht,cj G,<- j9];exact a1
   have cq:0<t:=by rw [ht];exact Nat.div_pos (by rw [a5];exact ct.out) G
   have bQ:ys.getD nk 0=t:=by rw [<- cS (by omega) aH.out,<- HY.out,dig,<- ht,ax bM]
   rw [bQ] at cy;obtain ⟨s,hs⟩:∃ s,s=64-aM t:=⟨_,rfl⟩
   obtain ⟨ar,v1,v2,v3⟩:=tf a1 ht cq hs;rw [show nk+1=K by omega] at v1;have aN:=fun W=>bLz t bM W
   rw [<- hs] at aN;obtain ⟨V,hV⟩:∃ V,V=Y*2^s:=⟨_,rfl⟩
   rw [<- hV] at v1 v2 v3;have cc:=aa hV;obtain ⟨N,hN⟩:∃ N,N=max L K+1:=⟨_,rfl⟩
   have gN:max (L:Int) (K:Int)+1=(N:Int):=by omega
   have cJ:(K:Int)-1=(nk:Int):=by omega
   have cK:(nk:Int)<(M:Int):=by omega
   have cL:(K:Int)<=(M:Int):=by omega
   have bs:M<=av:=by obtain ⟨_,_,_,e1,_,hh,_⟩:=HV.out.open;cases e1;exact hh
   have cM:(K:Int)<=(av:Int):=by omega
   have hcut:∀ W,Kept af w W->Row .u64 W (.slice (some ⟨b2,v,none⟩) K av) (ys.take K):=fun W k=>(HV.out.grew k).cut (by rw [eM.out];omega)
   have bO:Y=val (ys.take K):=by rw [iz (by omega) aH.out,<- HY.out,ax au.out]
   have aS:=fun W (k:Kept af w W)=>rI (some ⟨b2,v,none⟩) K av (ys.take K) Y s K bO ar W (hcut W k) (aH.out.take K) (by omega) (leR _)
   have bt:=fun W (k:Kept af w W)=>rI ao L aI xs X s N HX.out ar W (HU.out.grew k) bU.out (by omega) (by omega)
   rw [<- hV] at aS;have H0:Hid (n=K-2/\nk=K-1/\N=max L K+1/\2<=K):=⟨hn,a5,hN,by omega⟩
   clear aG ht hs bQ hV hcut bO hn a5 hN G a1;go_wp2_with fail;refine (aN _).mono ?_;rintro e w3 ⟨rfl,rfl⟩;clear aN;go_wp2_with fail;refine (aS _ k1).mono ?_;rintro e w4 ⟨rfl,a9,k4⟩;have bh:=k1.trans k4;go_wp2_with fail;refine (bt _ bh).mono ?_;rintro e w5 ⟨rfl,H,k5⟩;have cs:=bh.trans k5;have am:=k5.own a9 (fun _ _ f=>f);have B:=(k4.trans k5).own ai (fun _ _ f=>f);have D:=(k4.trans k5).own al (fun _ _ f=>f);have ap:w.heap.size+1<w3.heap.size:=by have h1:=eN ai;have h2:=eN al;omega
   have aq:w3.heap.size<w4.heap.size:=eN a9;clear aS bt a9 ai al k1 bh;go_wp2_with fail;obtain ⟨T,hT⟩:∃ T,T=L+1-K:=⟨_,rfl⟩
   have cm:=eN B;have cn:=eN D;have ba:w.heap.size+1<w3.heap.size:=ap;have bb:w3.heap.size<w4.heap.size:=aq;obtain ⟨gv,a3⟩:∃ g,g=w3.heap.size:=⟨_,rfl⟩
   obtain ⟨gu,a2⟩:∃ g,g=w4.heap.size:=⟨_,rfl⟩
   have F:OwnN .u64 24 w5 w.heap.size (.slice (some ⟨gu,0,none⟩) N N) N (digs (X*2^s) N):=by
    rw [a2];exact cE H (fun b hb=>by simp [Value.ownBlock] at hb;omega)
   have bI:Row .u64 w5 (.slice (some ⟨gv,0,none⟩) K K) (digs V K):=by rw [a3];exact cW am (ag _ _ _)
   rw [<- a3,<- a2];have dq:(w.heap.size+1)≠gu/\w.heap.size≠gu/\gv≠gu/\gv≠(w.heap.size+1)/\(w.heap.size+1)≠w.heap.size/\w.heap.size<=gu:=by omega
   clear H am a3 a2 bb ba cm cn;obtain ⟨J,O,S,cU⟩:=H0.out;have aY:0<V:=bd (fI (by omega) (aC (by omega))) v3;have aZ:X*2^s<2^s*18446744073709551616^L:=by rw [aF];exact lC cu.out (aC (by omega))
   have bA:X*2^s<18446744073709551616^N:=tJ aZ ar (by omega);obtain ⟨a,c⟩:∃ a,a=digs (X*2^s) N:=⟨_,rfl⟩
   rw [<- c] at F;have bG:a.length=N:=by rw [c,ag]
   have a6:Digs a:=by rw [c];exact ak (by omega) _ _
   have a7:val a=X*2^s:=by rw [c,aB,ax bA]
   have o:val (a.drop T)<V:=by rw [jW (by omega) a6,a7];exact oh aZ ar v3 (by omega)
   have q:Hid (a.length=N/\Digs a/\val a=X*2^s):=⟨bG,a6,a7⟩
   have bC:(digs V K).getD nk 0=dig V nk:=iQ _ _ _ _ (by omega);rw [<- bC] at v2;have bN:V=val (digs V K):=by rw [aB,ax v1]
   have HT:=aa hT;have b8:=aa bI;have b3:=aa F;have cb:=aa v2;have cd:=aa bN;have b9:=aa o;have gT:(L:Int)-(K:Int)+1=(T:Int)\/(T=0/\(L:Int)-(K:Int)+1<=0):=by omega
   obtain ⟨TI,bx⟩:∃ TI,TI=(L:Int)-(K:Int)+1:=⟨_,rfl⟩
   have bn:∀ k:Nat,k<=T->((k:Int)<TI↔k<T):=fun k hk=>by omega
   rw [<- bx];clear hT bI F v2 bN o bG a6 a7 c bC bA aZ gT cy bx J O S;go_loopw [63] (fun i wr=>∃ (k:Nat) (zs qs:List Nat),k<=T/\i=.int .i64 (k:Int)/\OwnN .u64 24 wr w.heap.size (.slice (some ⟨gu,0,none⟩) N N) N zs/\OwnN .u64 24 wr w.heap.size (.slice (some ⟨(w.heap.size+1),0,none⟩) L L) L ((List.replicate T 0).take (T-k) ++ (qs ++ List.replicate (L-T) 0))/\Kept (fun b=>b=gu\/b=(w.heap.size+1)) w5 wr /\
     Hid ((zs.length=N/\Digs zs)/\(qs.length=k/\Digs qs)/\zs.take (T-k)=a.take (T-k)/\val (zs.drop (T-k))<V/\V*val qs+val (zs.drop (T-k))=val (a.drop (T-k)))) (fun i _=>T-(intOf i).toNat)
   case atStart=>
    refine ⟨0,a,[],aP _,rfl,b3.out,?_,aj _ _,⟨⟨q.out.1,q.out.2.1⟩,⟨rfl,Digs.nil _⟩,rfl,by rw [dK];exact b9.out,by rw [val,cG,dz]⟩⟩;rw [dK,dJ (by simp),bw,mu,show T+(L-T)=L by have:=HT.out;omega];exact B
   case round=>
    clear B;obtain ⟨k,zs,qs,hk,rfl,H,r,az,HI⟩:=hrel;by_cases hkT:k<T
    ·have gk:(k:Int)<TI:=(bn k hk).2 hkT;have c0:(0:Int)<=(k:Int):=bY _;have aW:=HT.out;obtain ⟨J,O,S,_⟩:=H0.out;obtain ⟨j,hj⟩:∃ j,j=T-1-k:=⟨_,rfl⟩
     have bz:T-k=j+1:=by omega
     have ac:T-(k+1)=j:=by omega
     have gj:(L:Int)-(K:Int)-(k:Int)=(j:Int):=by omega
     have cH:(j:Int)<(L:Int):=by omega
     have bD:j+(K+1)<=N:=by omega
     obtain ⟨⟨i1,i2⟩,⟨i3,i4⟩,i5,i6,i7⟩:=HI.out;rw [bz] at i5 i6 i7 r;obtain ⟨U,hU⟩:∃ U,U=val ((zs.drop j).take (K+1)):=⟨_,rfl⟩
     obtain ⟨aL,bm⟩:=oV (by omega) i2 i1 q.out.1 bD v1 aY i6 i5 i7 U hU;obtain ⟨l1,l2,l3,l4,l5⟩:=bm _ rfl;obtain ⟨Q,hQ⟩:∃ Q,Q=U/V:=⟨_,rfl⟩
     obtain ⟨R,hR⟩:∃ R,R=U%V:=⟨_,rfl⟩
     have cY:Q<18446744073709551616:=by rw [hQ,cj aY,aF];exact aL
     rw [<- hR] at l1 l2 l3 l4 l5;rw [<- hQ] at l5;have an:Row .u64 wr (.slice (some ⟨gv,0,none⟩) K K) (digs V K):=b8.out.kept az (fun b hb e=>by simp [Value.ownBlock] at hb;omega);have aV:=Eu gu w.heap.size N N j n nk K (N-j) (by omega) (by omega) zs (digs V K) (some ⟨gv,0,none⟩) K U V Q R wr H i1 i2 bD (by omega) (by omega) an (ak (by omega) _ _) (fun b hb e=>by simp [Value.ownBlock] at hb;omega) cb.out hU cd.out aL hQ hR;have bq:∀ W,OwnN .u64 24 W w.heap.size (.slice (some ⟨(w.heap.size+1),0,none⟩) L L) L ((List.replicate T 0).take (j+1) ++ (qs ++ List.replicate (L-T) 0))->W.cell? ⟨(w.heap.size+1),j,none⟩=some (.int .u64 0):=fun W h=>by
      rw [World.ownsRow.cellAt h j (by omega),bu,gD (by rw [aO,be];omega),dV,ah (by omega),ee,ah (by omega)];rfl
     have aT:Hid (∀ W,OwnN .u64 24 W w.heap.size (.slice (some ⟨(w.heap.size+1),0,none⟩) L L) L ((List.replicate T 0).take (j+1) ++ (qs ++ List.replicate (L-T) 0))->OwnN .u64 24 (W.setCell ⟨(w.heap.size+1),j,none⟩ (.int .u64 (Q:Int))) w.heap.size (.slice (some ⟨(w.heap.size+1),0,none⟩) L L) L ((List.replicate T 0).take j ++ ((Q :: qs) ++ List.replicate (L-T) 0))):=fun W h=>by
      have:=(World.ownsRow.stored h j (.int .u64 (Q:Int))).1;unfold OwnN;rw [fd,<- nL (by rw [be];omega),bZ];exact this
     have b1:Hid (((zs.take j ++ (digs R (K+1) ++ zs.drop (j+(K+1)))).length=N/\Digs (zs.take j ++ (digs R (K+1) ++ zs.drop (j+(K+1)))))/\((Q :: qs).length=k+1/\Digs (Q :: qs))/\(zs.take j ++ (digs R (K+1) ++ zs.drop (j+(K+1)))).take j=a.take j/\val ((zs.take j ++ (digs R (K+1) ++ zs.drop (j+(K+1)))).drop j)<V/\V*val (Q :: qs)+val ((zs.take j ++ (digs R (K+1) ++ zs.drop (j+(K+1)))).drop j)=val (a.drop j)):=⟨⟨l1,l2⟩,⟨by rw [cI,i3],fun d hd=>by rcases fC.1 hd with h | h;omega;exact i4 d h⟩,l3,l4,l5⟩
     have I:=aa ac;have cf:(j:Int)<=(j:Int)+(K:Int)+1:=by omega
     have cg:(j:Int)+(K:Int)+1<=(N:Int):=by omega
     clear HI hj bz ac i1 i2 i3 i4 i5 i6 i7 l1 l2 l3 l4 l5 aL bm hU hQ hR an J O S aW;generalize zs.take j ++ (digs R (K+1) ++ zs.drop (j+(K+1)))=zs2 at *;rw [show K+1=j+K+1-j by omega] at aV;go_wp2_with fail;refine aV.mono ?_;rintro e w6 ⟨rfl,a8,k6⟩;have E:=k6.own r (fun b hb e=>by simp [Value.ownBlock] at hb;omega);have c6:=bq _ E;have f6:=World.ownsRow.frozenAt E j;clear aV bq;go_wp2_with fail;go_roundw
     case rel=>
      have kb:Kept (fun b=>b=(w.heap.size+1)) w6 (w6.setCell ⟨(w.heap.size+1),j,none⟩ (.int .u64 (Q:Int))):=(aj (fun b=>b=(w.heap.size+1)) w6).setCell ⟨(w.heap.size+1),j,none⟩ (fun _=>rfl) _;refine ⟨k+1,zs2,Q :: qs,by omega,by go_num,kb.own a8 (fun b hb e=>by simp [Value.ownBlock] at hb;omega),?_,(az.next k6 (fun _ _ e=>.inl e)).next kb (fun _ _ e=>.inr e),by rw [I.out];exact b1⟩;rw [I.out];exact aT.out _ E
     case measure=>simp [intOf];omega
    ·have gk:¬ (k:Int)<TI:=fun h=>hkT ((bn k hk).1 h)
     obtain rfl:k=T:=by omega
     obtain ⟨J,O,S,_⟩:=H0.out;have aW:=HT.out;obtain ⟨⟨i1,i2⟩,⟨i3,i4⟩,_,i6,i7⟩:=HI.out;rw [bJ,gC] at i6 i7;rw [gC,q.out.2.2] at i7;rw [bJ,mx,bw] at r;obtain ⟨d1,d2⟩:=nM (M:=X) (y:=Y) (p:=2^s) (aC (by omega));rw [<- cc.out,<- i7] at d1 d2;rw [fH aY,bj i6,aU] at d1;rw [i9,ax i6] at d2;have bH:qs ++ List.replicate (L-k) 0=digs (X/Y) L:=by
      rw [ir i4 d1 (by omega),i3]
     rw [bH] at r;obtain ⟨Z,hZ⟩:∃ Z,Z=val zs:=⟨_,rfl⟩
     rw [<- hZ] at d2;have bR:∀ i,zs.getD i 0=dig Z i:=fun i=>by rw [hZ];exact (cS (by omega) i2 i).symm
     have bB:∀ W,Kept (fun b=>b=w.heap.size) wr W->∀ i,i<N->W.cell? ⟨gu,i,none⟩=some (.int .u64 (dig Z i:Nat)):=fun W kk i hi=>by
      have h1:=kk.own H (fun b hb e=>by simp [Value.ownBlock] at hb;omega);rw [World.ownsRow.cellAt h1 i (by omega),bu,<- bR,aA,aQ (by omega)];rfl
     have l:=az.own D (fun b hb e=>by simp [Value.ownBlock] at hb;omega);have bi:=aa bB;have b4:=aa r;have b0:=aa d2;have cV:K+1<=N:=by omega
     obtain ⟨s2,bK⟩:∃ s2,s2=64-s:=⟨_,rfl⟩
     have cf:(s:Int)<=64:=by omega
     have cg:IntKind.i64.wrap (64-(s:Int))=(s2:Int):=by rw [IntKind.wrap_i64];omega
     have cR:(s2:Int)<=64:=by omega
     have ca:=aa bK;clear HI i1 i2 i3 i4 i6 i7 d1 d2 bH hZ bR bB r H D J O S aW bK;go_wp2_with fail;go_loopw [86] (fun i wz=>∃ (m:Nat),m<=K/\i=.int .i64 (m:Int)/\OwnN .u64 24 wz w.heap.size (.slice (some ⟨w.heap.size,0,none⟩) M M) M (digs (Z/2^s) m ++ List.replicate (M-m) 0)/\Kept (fun b=>b=w.heap.size) wr wz) (fun i _=>K-(intOf i).toNat)
     case atStart=>exact ⟨0,aP _,rfl,by rw [dK];exact l,aj _ _⟩
     case round=>
      clear l;obtain ⟨m,hm,rfl,l,ae⟩:=hrel;by_cases hmK:m<K
      ·have c3:(0:Int)<=(m:Int):=bY _;have co:(m:Int)<(K:Int):=by omega
       obtain ⟨m1,A⟩:∃ m1,m1=m+1:=⟨_,rfl⟩
       have cN:IntKind.i64.wrap ((m:Int)+1)=(m1:Int):=by rw [IntKind.wrap_i64];omega
       have cO:(m:Int)<(N:Int):=by omega
       have cP:(m1:Int)<(N:Int):=by omega
       have cQ:(m:Int)<(M:Int):=by omega
       have c1:=bi.out _ ae m (by omega);have c2:=bi.out _ ae m1 (by omega);have aw:=oY (Z:=Z) (i:=m) ar;rw [<- ca.out,<- A] at aw;have cr:=iR l (ag _ _ _) (by omega);have fr:=World.ownsRow.frozenAt l m;have bv:Hid (OwnN .u64 24 (wr.setCell ⟨w.heap.size,m,none⟩ (.int .u64 (dig (Z/2^s) m:Nat))) w.heap.size (.slice (some ⟨w.heap.size,0,none⟩) M M) M (digs (Z/2^s) (m+1) ++ List.replicate (M-(m+1)) 0)):=by
        have:=(World.ownsRow.stored l m (.int .u64 (dig (Z/2^s) m:Nat))).1;unfold Hid OwnN;rw [digs,<- jV _ M m _ (ag _ _ _) (by omega),bZ];exact this
       obtain ⟨z,hz⟩:∃ z,z=dig (Z/2^s) m:=⟨_,rfl⟩
       rw [<- hz] at aw bv;obtain ⟨x1,bc⟩:∃ x1,x1=dig Z m:=⟨_,rfl⟩
       obtain ⟨x2,bf⟩:∃ x2,x2=dig Z m1:=⟨_,rfl⟩
       rw [<- bc,<- bf] at aw;rw [<- bc] at c1;rw [<- bf] at c2;obtain ⟨xl,bg⟩:∃ xl,xl=x1/2^s:=⟨_,rfl⟩
       rw [<- bg] at aw;have cT:(x1:Int)/2^s=(xl:Int):=by rw [bg];simp
       have aK:=aa A;clear hz bc bf bg A l;go_wp2_with fail;go_still_tail 17,(by kernel_rfl)
       change wpList _ _ _ _ _ wr.drew
       go_wp2_with fail;go_roundw
       case rel=>exact ⟨m1,by have:=aK.out;omega,rfl,by rw [aK.out];exact bv.out,(ae.setCell ⟨w.heap.size,m,none⟩ (fun _=>rfl) _).drew⟩
       case measure=>have:=aK.out;simp [intOf];omega
      ·have co:¬ (m:Int)<(K:Int):=by omega
       obtain rfl:m=K:=by omega
       rw [b0.out] at l;have hf:=ir (m:=M) (ak (by omega) (X%Y) m) (V:=X%Y) (by rw [aB,ax (bk (ay _ a0) au.out)]) (by rw [ag];omega);rw [ag] at hf;rw [<- hf] at l;have b5:=aa (ae.own b4.out (fun b hb e=>by have e':b=w.heap.size:=e;simp [Value.ownBlock] at hb;omega));have aJ:=aa ((cs.next az (fun x hx e=>by rcases e with e | e <;> omega)).next ae (fun x hx e=>by have e':x=w.heap.size:=e;omega));clear hf;go_wp2_with fail;go_ret2;exact ⟨_,_,rfl,b5.out,l,aJ.out⟩

theorem If (u:Value) (xs:List Nat) (w:World) (hu:Row .u64 w u xs) (a:Digs xs) (hL:xs.length<=100000000) :
  Calls prog 236 #[.pointer none,u] w fun e w'=>e=.returned (.int .u64 (cY (decide (val xs=0)):Nat))/\Kept af w w':=by
 refine (En none u xs w (TrRoom.none w 1 (by omega)) (RowT.none hu) a hL).mono ?_;rintro e w' ⟨rfl,o',hd⟩;exact ⟨rfl,hd.none.2⟩

theorem Dj (ao bo:Option Addr) (L M g h:Nat) (xs ys:List Nat) (X Y:Nat) (hX:X=val xs) (hY:Y=val ys) (bA bB bQ bR:Nat) (w:World) (hu:Row .u64 w (.slice ao L g) xs) (hv:Row .u64 w (.slice bo M h) ys) (v:Digs xs) (m:Digs ys)
  (hA:Box w bA (.slice ao L g) 23) (hB:Box w bB (.slice bo M h) 23) (hQ:Box w bQ (.slice none 0 0) 23) (hR:Box w bR (.slice none 0 0) 23) (x:bQ≠bR) :
  Calls prog 249 #[.pointer (some ⟨bA,0,none⟩),.pointer (some ⟨bB,0,none⟩),.pointer (some ⟨bQ,0,none⟩),.pointer (some ⟨bR,0,none⟩)] w fun e w'=>
   (¬ (L<=300/\M<=300)/\e=.panicked [refusal 2]/\w'=w)\/((L<=300/\M<=300)/\Y=0/\e=.panicked [refusal 1]/\Kept af w w') \/
   ((L<=300/\M<=300)/\Y≠0/\e=.returned (.tuple #[])/\∃ v1 v2,OwnN .u64 24 w' w.heap.size v1 L (digs (X/Y) L)/\OwnN .u64 24 w' w.heap.size v2 M (digs (X%Y) M)/\Kept (fun b=>b=bQ\/b=bR) w w'/\Box w' bQ v1 23/\Box w' bR v2 23):=by
 obtain ⟨_,_,_,e1,J,_,_,_,_⟩:=hu.open;cases e1
 obtain ⟨_,_,_,e1,s,_,_,_,_⟩:=hv.open;cases e1
 have hP:=fun W=>xq ao bo L M g h W
 have hZ:=fun (l:M<=300)=>If _ ys w hv m (by have:=s.out;omega)
 rw [<- hY] at hZ;have hD:=fun W (k:Kept af w W) (l1:L<=300) (l2:M<=300) (h0:0<Y)=>Fw ao bo L M g h xs ys X Y hX hY h0 W (hu.grew k) (hv.grew k) v m (by omega) (by omega)
 have cA:=hA.cell;have cB:=hB.cell;have y:=aa hA;have z:=aa hB;have A:=aa hQ;have B:=aa hR;clear hu hv v m J s hA hB hQ hR hX hY;go_enter func249,ntmps249;go_wp2_with fail;refine (hP _).mono ?_;rintro e w1 ⟨⟨l1,l2,rfl⟩ | ⟨l1,rfl⟩,rfl⟩
 ·obtain ⟨nz,n⟩:∃ nz,nz=cY (decide (Y=0)):=⟨_,rfl⟩
  rw [<- n] at hZ;have q:=aa n;clear hP n;go_wp2_with fail;refine (hZ l2).mono ?_;rintro e w2 ⟨rfl,k2⟩;have H:=(y.out.grew k2).cell;have I:=(z.out.grew k2).cell;have o:=A.out.grew k2;have p:=B.out.grew k2;clear hZ cA cB;by_cases h0:Y=0
  ·have en:nz=1:=by rw [q.out,dL h0];rfl
   have gn:((nz:Int) == 1)=true:=by rw [en];rfl
   have j:=mg 1 w2;go_wp2_with fail;refine j.mono ?_;rintro e w4 ⟨rfl,rfl⟩;exact ⟨rfl,.inr (.inl ⟨⟨l1,l2⟩,h0,rfl,k2⟩)⟩
  ·have en:nz=0:=by rw [q.out,cP h0];rfl
   have gn:((nz:Int) == 1)=false:=by rw [en];rfl
   have t:=nH 1 w2;have r:=hD w2 k2 l1 l2 (by omega);clear hD;go_wp2_with fail;refine t.mono ?_;rintro e w3 ⟨rfl,rfl⟩;clear t;go_wp2_with fail;refine r.mono ?_;rintro e w4 ⟨v1,v2,rfl,d,f,k4⟩;obtain ⟨xo,xc,rfl⟩:=dg d;obtain ⟨yo,yc,rfl⟩:=dg f;have a:=o.grew k4;have c:=p.grew k4;have cQ:=a.cell;have fQ:=a.free;have cR:=c.cell;have fR:=c.free;have N:=o.lt;have O:=p.lt;have P:=k2.size;have kb:Kept (fun b=>b=bQ\/b=bR) w4 (w4.setCell ⟨bQ,0,none⟩ (.slice xo L xc)):=(aD w4 bQ (.slice xo L xc)).mono (fun _ _ e=>.inl e);have i:=kb.next (aD _ bR (.slice yo M yc)) (fun _ _ e=>.inr e)
   have D:=aa (cE (base':=w1.heap.size) (i.own d (fun b hb e=>by have:=(d.lt b hb).1;omega)) (fun b hb=>by have:=(d.lt b hb).1;omega));have E:=aa (cE (base':=w1.heap.size) (i.own f (fun b hb e=>by have:=(f.lt b hb).1;omega)) (fun b hb=>by have:=(f.lt b hb).1;omega));have F:=aa ((a.set (.slice xo L xc)).other ⟨bR,0,none⟩ x (.slice yo M yc));have G:=aa ((c.other ⟨bQ,0,none⟩ (fun e=>x e.symm) (.slice xo L xc)).set (.slice yo M yc));have C:=aa ((k2.trans k4).any.trans i);clear d f a c kb i o p H I r;go_wp2_with fail;go_end0
   exact .inr (.inr ⟨⟨l1,l2⟩,h0,rfl,_,_,D.out,E.out,C.out,F.out,G.out⟩)
 ·exact ⟨rfl,.inl ⟨l1,rfl,rfl⟩⟩

theorem uP (ao bo:Option Addr) (L M d f:Nat) (xs ys:List Nat) (E:Nat) (hE:E=jv (val ys) L M) (w:World) (hu:Row .u64 w (.slice ao L d) xs) (hv:Row .u64 w (.slice bo M f) ys) (C:Digs xs) (D:Digs ys) :
  Calls prog 220 #[.slice ao L d,.slice bo M f] w fun e w'=>∃ v1 v2,e=.returned (.tuple #[v1,v2,.int .i64 (E:Nat)]) /\
   Row .u64 w' v1 (oo (val xs) (val ys) L M)/\Row .u64 w' v2 (ko (val xs) (val ys) L M)/\Kept af w w':=by
 have F:=im;have B:=re w (.slice ao L d) (.slice bo M f) (.slice none 0 0) (.slice none 0 0) 23 23 23 23;have he:∀ args w,(callFunc 249 args).run prog w=.ok (.enter 249 args) w:=fun _ _=>by simp [go_sem]
 obtain ⟨X,hX⟩:∃ X,X=val xs:=⟨_,rfl⟩
 obtain ⟨Y,hY⟩:∃ Y,Y=val ys:=⟨_,rfl⟩
 rw [<- hY] at hE;rw [<- hX,<- hY];have HE:=aa hE;have HX:=aa hX;have HY:=aa hY;clear hE hX hY;go_enter func220,ntmps220;go_wp2_with fail;generalize (((w.alloc (.cells #[.slice ao L d] 23)).alloc (.cells #[.slice bo M f] 23)).alloc (.cells #[.slice none 0 0] 23)).alloc (.cells #[.slice none 0 0] 23)=W at *;obtain ⟨k0,x2,x3,x4,x5,hs⟩:=B;have k1:=k0.alloc (.cells #[.int .i64 0] 32);have xe:=Box.new W (.int .i64 0) 32;have h1:=Dj ao bo L M d f xs ys X Y HX.out HY.out _ _ _ _ _ (hu.grew k1) (hv.grew k1) C D (x2.alloc _) (x3.alloc _) (x4.alloc (.cells #[.int .i64 0] 32)) (x5.alloc _) (by omega)
 have r:(W.alloc (.cells #[.int .i64 0] 32)).heap.size=W.heap.size+1:=by simp
 refine (mW 249 _ W (fun n W'=>n=(E:Int)/\∃ ro rc ln so sc lm,Box W' (w.heap.size+1+1) (.slice ro ln rc) 23/\Box W' (w.heap.size+1+1+1) (.slice so lm sc) 23/\Row .u64 W' (.slice ro ln rc) (oo X Y L M)/\Row .u64 W' (.slice so lm sc) (ko X Y L M)/\(∀ b,(Value.slice ro ln rc).ownBlock=some b->W.heap.size+1<=b)/\(∀ b,(Value.slice so lm sc).ownBlock=some b->W.heap.size+1<=b)/\Kept af w W') he (h1.mono ?_)).mono ?_
 ·rintro e w' (⟨hl,rfl,rfl⟩ | ⟨hl,h0,rfl,kz⟩ | ⟨hl,h0,rfl,v1,v2,i,j,hk,g,h⟩)
  ·obtain ⟨e1,e2,e3⟩:=sv (X:=X) (Y:=Y) hl;exact ⟨xe,.inr ⟨2,rfl,by rw [HE.out,e1];rfl,none,0,0,none,0,0,x4.alloc _,x5.alloc _,by rw [e2];exact Row.nil _ _,by rw [e3];exact Row.nil _ _,(fun b hb=>by cases hb),(fun b hb=>by cases hb),k1⟩⟩
  ·obtain ⟨e1,e2,e3⟩:=sx (X:=X) hl h0;exact ⟨xe.grew kz,.inr ⟨1,rfl,by rw [HE.out,e1];rfl,none,0,0,none,0,0,(x4.alloc _).grew kz,(x5.alloc _).grew kz,by rw [e2];exact Row.nil _ _,by rw [e3];exact Row.nil _ _,(fun b hb=>by cases hb),(fun b hb=>by cases hb),k1.trans kz⟩⟩
  ·obtain ⟨e1,e2,e3⟩:=gX (X:=X) hl h0;rw [r] at i j;have G:=xe.kept hk (by omega);obtain ⟨xo,xc,rfl⟩:=dg i;obtain ⟨yo,yc,rfl⟩:=dg j;exact ⟨G,.inl ⟨rfl,by rw [HE.out,e1];rfl,xo,xc,L,yo,yc,M,g,h,by rw [e2];exact cW i (ag _ _ _),by rw [e3];exact cW j (ag _ _ _),(fun b hb=>(i.lt b hb).1),(fun b hb=>(j.lt b hb).1),k1.next hk (fun x hx e=>by rcases e with e | e <;> omega)⟩⟩
 ·rintro e w' ⟨n,w1,rfl,⟨⟨rfl,ro,rc,ln,so,sc,lm,g,h,p,q,l,m,hk⟩,A⟩,rfl⟩;have a:=g.other ⟨W.heap.size,0,none⟩ (by show _≠W.heap.size;omega) (.int .i64 (E:Int));have c:=h.other ⟨W.heap.size,0,none⟩ (by show _≠W.heap.size;omega) (.int .i64 (E:Int));have c1:=a.cell;have f1:=a.free;have c2:=c.cell;have f2:=c.free;have o:w.heap.size+1+1≠w.heap.size+1+1+1:=by omega
  have c3:=((a.set (.slice ro ln rc)).other ⟨w.heap.size+1+1+1,0,none⟩ o (.slice so lm sc)).cell;have c4:=((c.other ⟨w.heap.size+1+1,0,none⟩ o.symm (.slice ro ln rc)).set (.slice so lm sc)).cell;have s:Kept (fun b=>b=W.heap.size\/b=w.heap.size+1+1\/b=w.heap.size+1+1+1) w1 (w1.setCell ⟨W.heap.size,0,none⟩ (.int .i64 (E:Int))):=(aD w1 W.heap.size _).mono (fun _ _ e=>.inl e);have t:=s.next (aD _ (w.heap.size+1+1) (.slice ro ln rc)) (fun _ _ e=>.inr (.inl e))
  have k:=t.next (aD _ (w.heap.size+1+1+1) (.slice so lm sc)) (fun _ _ e=>.inr (.inr e))
  have HK:=aa (hk.next k (fun x hx e=>by rcases e with e | e | e <;> omega));have y:=aa (p.kept k (fun b hb e=>by have:=l b hb;omega));have z:=aa (q.kept k (fun b hb e=>by have:=m b hb;omega));generalize w1.setCell ⟨W.heap.size,0,none⟩ (.int .i64 (E:Int))=W2 at *;clear h1 g h a c p q l m s t k hk A hu hv x2 x3 x4 x5 xe k0 k1 r he F;go_wp2_with fail;go_region
  all_goals
   go_wp2;refine bodyPost_ret (v:=.tuple #[.slice ro ln rc,.slice so lm sc,.int .i64 (E:Nat)]) (by simp [results,results220,go_sem,c3,c4]) rfl ?_;exact ⟨_,_,rfl,y.out.grew (aj _ _).drew,z.out.grew (aj _ _).drew,HK.out.drew⟩

theorem xp {w:World} {base n:Nat} {v:Value} {zs:List Nat} (h:OwnN .u64 24 w base v n zs) (hl:zs.length=n):Row .u64 w v zs:=
 Row.of_own (base:=base) (e:=24) (by rw [hl];exact h)

theorem AJ (ao bo:Option Addr) (L M a b:Nat) (xs ys:List Nat) (w:World) (hu:Row .u64 w (.slice ao L a) xs) (hv:Row .u64 w (.slice bo M b) ys) (c:Digs xs) (d:Digs ys) :
  Calls prog 148 #[.pointer none,.slice ao L a,.slice bo M b] w fun e w'=>∃ v',e=.returned v'/\Row .u64 w' v' (jP (val xs) (val ys) L M)/\Kept af w w':=by
 refine (IE none ao bo L M a b xs ys w (TrRoom.none w 300 (by omega)) (RowT.none hu) (RowT.none hv) c d).mono ?_;rintro e w' ⟨v',rfl,hr,_,o',hd⟩;exact ⟨v',rfl,hr,hd.none.2⟩

theorem IU (u v:Value) (xs ys:List Nat) (w:World) (hu:Row .u64 w u xs) (hv:Row .u64 w v ys) (a:Digs xs) (b:Digs ys) (hL:xs.length<=100000000) (hM:ys.length<=100000000) :
  Calls prog 147 #[.pointer none,u,v] w fun e w'=>∃ v',e=.returned (.tuple #[v',.int .u64 (cY (decide (2^(64*max xs.length ys.length)<=val xs+val ys)):Nat)])/\Row .u64 w' v' (digs (val xs+val ys) (max xs.length ys.length))/\Kept af w w':=by
 refine (GW none u v xs ys w (TrRoom.none w 1 (by omega)) (RowT.none hu) (RowT.none hv) a b hL hM).mono ?_;rintro e w' ⟨v',rfl,ho,o',hd⟩;exact ⟨v',rfl,xp ho (ag _ _ _),hd.none.2⟩

theorem GY (u v:Value) (xs ys:List Nat) (w:World) (hu:Row .u64 w u xs) (hv:Row .u64 w v ys) (a:Digs xs) (b:Digs ys) (hL:xs.length<=100000000) (hM:ys.length<=100000000) :
  Calls prog 193 #[.pointer none,u,v] w fun e w'=>∃ v',e=.returned (.tuple #[v',.int .u64 (cY (decide (val xs<val ys)):Nat)])/\Row .u64 w' v' (digs (fK (val xs) (val ys) (max xs.length ys.length)) (max xs.length ys.length))/\Kept af w w':=by
 refine (Ay none u v xs ys w (TrRoom.none w 1 (by omega)) (RowT.none hu) (RowT.none hv) a b hL hM).mono ?_;rintro e w' ⟨v',rfl,ho,o',hd⟩;exact ⟨v',rfl,xp ho (ag _ _ _),hd.none.2⟩

end Go.Proofs.YtkaojflnghfmcaaGreatDoor
