/- Put together of: QuG QuH LimN L5B LimO Kex1 Kex2 Law10. -/
import Derived.Test.YtpkmoamgpjcdeaaGreatDoorBY14

namespace Go.Proofs.YtpkmoamgpjcdeaaGreatDoor
open _root_.Go.Proofs.Tryz
set_option maxRecDepth 100000
set_option maxHeartbeats 4000000
open Go.RowKit
variable {n:Nat}

theorem yz {Y M K:Nat} (h0:0<Y) (hM:Y<18446744073709551616^M) (hK:K=(aN Y+63)/64):0<K/\K<=M/\Y<18446744073709551616^K/\18446744073709551616^(K-1)<=Y:=by
 have h1:¬ aN Y<=0:=fun h=>by have:=(bh Y 0).1 h;simp at this;omega
 have h2:=(bh Y (aN Y)).1 (leR _);have h3:¬ Y<2^(aN Y-1):=fun h=>by have:=(bh Y (aN Y-1)).2 h;omega
 rw [B64] at hM;have h4:=(bh Y (64*M)).2 hM;have a:0<K:=by omega
 refine ⟨a,by omega,?_,?_⟩
 ·rw [B64];exact bi h2 (bj (by omega) (by omega))
 ·rw [B64];exact aI (bj (by omega) (by omega)) (Nat.le_of_not_lt h3)

theorem H5 (ao bo:OA) (L M az ar:Nat) (xs ys:LN) (X Y:Nat) (hX:X=val xs) (hY:Y=val ys) (aU:0<Y) (w:World) (hu:Row .u64 w (.slice ao L az) xs) (hv:Row .u64 w (.slice bo M ar) ys) (cd:Digs xs) (bS:Digs ys) (hL:L<=100000) (hM:M<=100000) :
  ClZ 235 #[.slice ao L az,.slice bo M ar] w fun e w'=>∃ v1 v2,e=.returned (.tuple #[v1,v2]) /\
   OwnN .u64 24 w' w.heap.size v1 L (digs (X/Y) L)/\OwnN .u64 24 w' w.heap.size v2 M (digs (X%Y) M)/\Kept af w w':=by
 obtain ⟨i0,cp,cq,cs,ct⟩:=info_parts Tryz.info24;obtain ⟨_,_,_,e1,cn,_,_,_,_⟩:=hu.open;cases e1
 obtain ⟨_,_,_,e1,bQ,_,_,_,_⟩:=hv.open;cases e1
 have eM:=aa bQ.o;have bR:Y<18446744073709551616^M:=by rw [hY,<- bQ.o];exact aE (by omega) bS
 have co:HzD (X<18446744073709551616^L):=by unfold HzD;rw [hX,<- cn.o];exact aE (by omega) cd
 have bg:=fun W (k:Kept af w W)=>iO _ ys W (hv.g k) bS (by rw [bQ.o];omega)
 rw [<- hY] at bg;obtain ⟨K,hK⟩:=aj ((aN Y+63)/64)
 obtain ⟨n1,n2,n3,n4⟩:=yz aU bR hK;have cR:aN Y<=6400000:=by
  rw [B64] at bR;have:=(bh Y (64*M)).2 bR;omega
 generalize aN Y=bl at *;have gK:((bl:Int)+64-1)/64=(K:Int):=by omega
 have HU:=aa hu;have HV:=aa hv;have bP:=aa cd;have ax:=aa bS;have HX:=aa hX;have HY:=aa hY;have aq:=aa n3;have cm:=aa n4;obtain ⟨CL,cb⟩:=aj (madeCells #[.int .u64 0] L)
 obtain ⟨CM,cc⟩:=aj (madeCells #[.int .u64 0] M)
 have bx:∀ W,(Instr.makeSlice 23 (.int .i64 (L:Int)) (.int .i64 (L:Int))).run prog W=.ok (.slice (some ⟨W.heap.size,0,none⟩) L L) (W.alloc (.cells CL 24)):=fun W=>by rw [cb];exact run_make_row (P:=prog) _ _ i0 _ underlying23 cp cq cs rfl _ _ L (by rw [ct];omega) (by omega) W
 have bz:∀ W,(Instr.makeSlice 23 (.int .i64 (M:Int)) (.int .i64 (M:Int))).run prog W=.ok (.slice (some ⟨W.heap.size,0,none⟩) M M) (W.alloc (.cells CM 24)):=fun W=>by rw [cc];exact run_make_row (P:=prog) _ _ i0 _ underlying23 cp cq cs rfl _ _ M (by rw [ct];omega) (by omega) W
 have bN:=aa cb;have bO:=aa cc;clear hu hv cd bS cn bQ hX hY bR hK n3 n4 cb cc;delta ClZ;go_in;go_wp2_with fail;go_region
 ·have ci:=oD w L M CL CM bN.o bO.o (by omega) (by omega);generalize ((w.alloc (.cells CL 24)).alloc (.cells CM 24)).drew=W1 at *;obtain ⟨ad,ae,k1⟩:=ci;clear bx bz bN bO;obtain ⟨_,_,_,e1,_,_,_,_,aw⟩:=(HV.o.g k1).open;cases e1
  go_wp2_with fail;refine (bg _ k1).mono ?_;rintro e w2 ⟨rfl,rfl⟩;clear bg;have a1:HzD (xs≠[]->∀ b,(Value.slice ao L az).ownBlock=some b->b<w.heap.size):=fun h b hb=>HU.o.lt h b hb
  by_cases hK1:K=1
  ·subst hK1;have cw:((bl:Int)+64-1)/64=1:=gK;clear gK;obtain ⟨b2,r,rfl,cy⟩:=aw 0 (by omega);have bK:ys.getD 0 0=Y:=by
    rw [<- dn (by omega) ax.o,<- HY.o,dig,cP,fC];have:=aq.o;rw [i8] at this;exact aB this
   have cu:w2.cell? ⟨b2,r,none⟩=some (.int .u64 (Y:Nat)):=by rw [<- bK];exact cy
   have ab:Y<18446744073709551616:=by have:=aq.o;rwa [i8] at this
   obtain ⟨R,hR⟩:=aj (X%Y)
   have aJ:R<18446744073709551616:=by rw [hR];exact bH (aY _ aU) ab
   have O:=Lb w.heap.size w.heap.size L L ao az xs (List.replicate L 0) X Y R HX.o hR ab aU w2 ad (by simp) (HU.o.g k1) bP.o (fun h b hb=>by have:=a1.o h b hb;omega);obtain ⟨M1,bk⟩:∃ M1,M=M1+1:=⟨M-1,by omega⟩
   have b9:HzD (digs R M=(List.replicate M 0).set 0 R):=by unfold HzD;rw [bk,jt R M1 aJ,j9,lsZ]
   have b1:=aa hR;clear aw cy bK bk hR;go_wp2_with fail;refine O.mono ?_;rintro e w3 ⟨rfl,q,k3⟩;have g:=k3.own ae (fun b hb e=>by simp [Value.ownBlock] at hb;omega);have cr:w3.cell? ⟨(w.heap.size+1),0,none⟩=some (.int .u64 0):=by
    rw [World.ownsRow.cellAt g 0 (by omega),bV,eF,cf];rfl
   have fr:=World.ownsRow.frozenAt g 0;have bE:=(World.ownsRow.stored g 0 (.int .u64 (R:Int))).1;have kb:Kept (fun b=>b=(w.heap.size+1)) w3 (w3.setCell ⟨(w.heap.size+1),0,none⟩ (.int .u64 (R:Int))):=aF w3 (w.heap.size+1) _;have HQ:=aa (kb.own q (fun b hb e=>by simp [Value.ownBlock] at hb;omega));have b0:HzD (OwnN .u64 24 (w3.setCell ⟨(w.heap.size+1),0,none⟩ (.int .u64 (R:Int))) w.heap.size (.slice (some ⟨(w.heap.size+1),0,none⟩) M M) M (digs (X%Y) M)):=by
    unfold HzD OwnN;rw [<- b1.o,b9.o,cG];exact bE
   have aC:=aa ((k1.next k3 (fun x hx e=>by omega)).next kb (fun x hx e=>by omega));clear O g bE kb q k3 ad ae;go_wp2_with fail;go_ret2;exact ⟨_,_,rfl,HQ.o,b0.o,aC.o⟩
  ·have cv:((K:Int) == 1)=false:=by simp;omega
   have cx:¬ (K:Int)=1:=by omega
   obtain ⟨n,hn⟩:=aj (K-2)
   obtain ⟨nk,a2⟩:=aj (K-1)
   obtain ⟨b2,r,rfl,cy⟩:=aw nk (by omega);obtain ⟨t,ht⟩:=aj (Y/18446744073709551616^nk)
   have aW:Y<18446744073709551616^(nk+1):=by rw [show nk+1=K by omega];exact aq.o
   have E:0<18446744073709551616^nk:=aX;have bF:t<18446744073709551616:=by
    rw [ht,cW E,<- lj];exact aW
   have ck:0<t:=by rw [ht];exact Nat.div_pos (by rw [a2];exact cm.o) E
   have bL:ys.getD nk 0=t:=by rw [<- dn (by omega) ax.o,<- HY.o,dig,<- ht,aB bF]
   rw [bL] at cy;obtain ⟨s,hs⟩:=aj (64-aN t)
   obtain ⟨ap,v1,v2,v3⟩:=vx aW ht ck hs;rw [show nk+1=K by omega] at v1;have aI:=fun W=>bLz t bF W
   rw [<- hs] at aI;obtain ⟨V,hV⟩:=aj (Y*2^s)
   rw [<- hV] at v1 v2 v3;have b7:=aa hV;obtain ⟨N,hN⟩:=aj (max L K+1)
   have gN:max (L:Int) (K:Int)+1=(N:Int):=by omega
   have cA:(K:Int)-1=(nk:Int):=by omega
   have cB:(nk:Int)<(M:Int):=by omega
   have cC:(K:Int)<=(M:Int):=by omega
   have bm:M<=ar:=by obtain ⟨_,_,_,e1,_,hh,_⟩:=HV.o.open;cases e1;exact hh
   have cD:(K:Int)<=(ar:Int):=by omega
   have hcut:∀ W,Kept af w W->Row .u64 W (.slice (some ⟨b2,r,none⟩) K ar) (ys.take K):=fun W k=>(HV.o.g k).cut (by rw [eM.o];omega)
   have bI:Y=val (ys.take K):=by rw [iQ (by omega) ax.o,<- HY.o,aB aq.o]
   have aK:=fun W (k:Kept af w W)=>tC (some ⟨b2,r,none⟩) K ar (ys.take K) Y s K bI ap W (hcut W k) (ax.o.take K) (by omega) (leR _)
   have bn:=fun W (k:Kept af w W)=>tC ao L az xs X s N HX.o ap W (HU.o.g k) bP.o
   rw [<- hV] at aK;have H0:HzD (n=K-2/\nk=K-1/\N=max L K+1/\2<=K):=⟨hn,a2,hN,by omega⟩
   clear aw ht hs bL hV hcut bI hn a2 hN E aW;go_wp2_with fail;refine (aI _).mono ?_;rintro e w3 ⟨rfl,rfl⟩;clear aI;go_wp2_with fail;refine (aK _ k1).mono ?_;rintro e w4 ⟨rfl,a6,k4⟩;have bc:=k1.trans k4;go_wp2_with fail;refine (bn _ bc).mono ?_;rintro e w5 ⟨rfl,F,k5⟩;have cl:=bc.trans k5;have ai:=k5.own a6 (fun _ _ f=>f);have A:=(k4.trans k5).own ad (fun _ _ f=>f);have B:=(k4.trans k5).own ae (fun _ _ f=>f);have am:w.heap.size+1<w3.heap.size:=by have h1:=fX ad;have h2:=fX ae;omega
   have an:w3.heap.size<w4.heap.size:=fX a6;clear aK bn a6 ad ae k1 bc;go_wp2_with fail;obtain ⟨T,hT⟩:=aj (L+1-K)
   have ce:=fX A;have cg:=fX B;have a7:w.heap.size+1<w3.heap.size:=am;have a8:w3.heap.size<w4.heap.size:=an;obtain ⟨gv,a0⟩:=aj w3.heap.size
   obtain ⟨gu,aZ⟩:=aj w4.heap.size
   have D:OwnN .u64 24 w5 w.heap.size (.slice (some ⟨gu,0,none⟩) N N) N (digs (X*2^s) N):=by
    rw [aZ];exact dg F (fun b hb=>by simp [Value.ownBlock] at hb;omega)
   have bC:Row .u64 w5 (.slice (some ⟨gv,0,none⟩) K K) (digs V K):=by rw [a0];exact dz ai (ag _ _ _)
   rw [<- a0,<- aZ];have dq:w.heap.size≠gu/\(w.heap.size+1)≠gu/\gv≠gu/\gv≠w.heap.size/\w.heap.size≠(w.heap.size+1)/\w.heap.size<=gu:=by omega
   clear F ai a0 aZ a8 a7 ce cg;obtain ⟨H,I,J,cM⟩:=H0.o;have aP:0<V:=bi (gI (by omega) (aX)) v3;have aT:X*2^s<2^s*18446744073709551616^L:=by rw [aD];exact my co.o (aX)
   have bs:X*2^s<18446744073709551616^N:=xz aT ap;obtain ⟨a,c⟩:=aj (digs (X*2^s) N)
   rw [<- c] at D;have bA:a.length=N:=by rw [c,ag]
   have a3:Digs a:=by rw [c];exact ak (by omega) _ _
   have a4:val a=X*2^s:=by rw [c,ay,aB bs]
   have l:val (a.drop T)<V:=by rw [kN (by omega) a3,a4];exact pz aT ap v3
   have o:HzD (a.length=N/\Digs a/\val a=X*2^s):=⟨bA,a3,a4⟩
   have bu:(digs V K).getD nk 0=dig V nk:=jg _ _ _ _ (by omega);rw [<- bu] at v2;have bG:V=val (digs V K):=by rw [ay,aB v1]
   have HT:=aa hT;have b3:=aa bC;have bW:=aa D;have b6:=aa v2;have b8:=aa bG;have b4:=aa l;have gT:(L:Int)-(K:Int)+1=(T:Int)\/(T=0/\(L:Int)-(K:Int)+1<=0):=by omega
   obtain ⟨TI,bq⟩:=aj ((L:Int)-(K:Int)+1)
   have bf:∀ k:Nat,k<=T->((k:Int)<TI↔k<T):=fun k hk=>by omega
   rw [<- bq];clear hT bC D v2 bG l bA a3 a4 c bu bs aT gT cy bq H I J;go_loopw [63] (fun i wr=>∃ (k:Nat) (zs qs:LN),k<=T/\i=.int .i64 (k:Int)/\OwnN .u64 24 wr w.heap.size (.slice (some ⟨gu,0,none⟩) N N) N zs/\OwnN .u64 24 wr w.heap.size (.slice (some ⟨w.heap.size,0,none⟩) L L) L ((List.replicate T 0).take (T-k) ++ (qs ++ List.replicate (L-T) 0))/\Kept (fun b=>b=gu\/b=w.heap.size) w5 wr /\
     HzD ((zs.length=N/\Digs zs)/\(qs.length=k/\Digs qs)/\zs.take (T-k)=a.take (T-k)/\val (zs.drop (T-k))<V/\V*val qs+val (zs.drop (T-k))=val (a.drop (T-k)))) (fun i _=>T-(intOf i).toNat)
   case atStart=>
    refine ⟨0,a,[],aQ _,rfl,bW.o,?_,ah _ _,⟨⟨o.o.1,o.o.2.1⟩,⟨rfl,Digs.nil _⟩,rfl,by rw [et];exact b4.o,by rw [val,df,dU]⟩⟩;rw [et,dS (by simp),bZ,nD,show T+(L-T)=L by have:=HT.o;omega];exact A
   case round=>
    clear A;obtain ⟨k,zs,qs,hk,rfl,F,q,av,HI⟩:=hrel;by_cases hkT:k<T
    ·have gk:(k:Int)<TI:=(bf k hk).2 hkT;have aO:=HT.o;obtain ⟨H,I,J,_⟩:=H0.o;obtain ⟨j,hj⟩:=aj (T-1-k)
     have br:T-k=j+1:=by omega
     have S:T-(k+1)=j:=by omega
     have gj:(L:Int)-(K:Int)-(k:Int)=(j:Int):=by omega
     have cz:(j:Int)<(L:Int):=by omega
     have bv:j+(K+1)<=N:=by omega
     obtain ⟨⟨i1,i2⟩,⟨i3,i4⟩,i5,i6,i7⟩:=HI.o;rw [br] at i5 i6 i7 q;obtain ⟨U,hU⟩:=aj (val ((zs.drop j).take (K+1)))
     obtain ⟨aH,be⟩:=qt (by omega) i2 i1 o.o.1 bv v1 aP i6 i5 i7 U hU;obtain ⟨l1,l2,l3,l4,l5⟩:=be _ rfl;obtain ⟨Q,hQ⟩:=aj (U/V)
     obtain ⟨R,hR⟩:=aj (U%V)
     have cQ:Q<18446744073709551616:=by rw [hQ,cW aP,aD];exact aH
     rw [<- hR] at l1 l2 l3 l4 l5;rw [<- hQ] at l5;have al:Row .u64 wr (.slice (some ⟨gv,0,none⟩) K K) (digs V K):=b3.o.kept av (fun b hb e=>by simp [Value.ownBlock] at hb;omega);have aM:=Gy gu w.heap.size N N j n nk K (N-j) (by omega) (by omega) zs (digs V K) (some ⟨gv,0,none⟩) K U V Q R wr F i1 i2 bv (by omega) (by omega) al (ak (by omega) _ _) (fun b hb e=>by simp [Value.ownBlock] at hb;omega) b6.o hU b8.o aH hQ hR;have bj:∀ W,OwnN .u64 24 W w.heap.size (.slice (some ⟨w.heap.size,0,none⟩) L L) L ((List.replicate T 0).take (j+1) ++ (qs ++ List.replicate (L-T) 0))->W.cell? ⟨w.heap.size,j,none⟩=some (.int .u64 0):=fun W h=>by
      rw [World.ownsRow.cellAt h j (by omega),bV,im (by rw [aR,bw];omega),eG,cf,eF,cf];rfl
     have aL:HzD (∀ W,OwnN .u64 24 W w.heap.size (.slice (some ⟨w.heap.size,0,none⟩) L L) L ((List.replicate T 0).take (j+1) ++ (qs ++ List.replicate (L-T) 0))->OwnN .u64 24 (W.setCell ⟨w.heap.size,j,none⟩ (.int .u64 (Q:Int))) w.heap.size (.slice (some ⟨w.heap.size,0,none⟩) L L) L ((List.replicate T 0).take j ++ ((Q :: qs) ++ List.replicate (L-T) 0))):=fun W h=>by
      have:=(World.ownsRow.stored h j (.int .u64 (Q:Int))).1;unfold OwnN;rw [fJ,<- oZ (by rw [bw];omega),cG];exact this
     have bU:HzD (((zs.take j ++ (digs R (K+1) ++ zs.drop (j+(K+1)))).length=N/\Digs (zs.take j ++ (digs R (K+1) ++ zs.drop (j+(K+1)))))/\((Q :: qs).length=k+1/\Digs (Q :: qs))/\(zs.take j ++ (digs R (K+1) ++ zs.drop (j+(K+1)))).take j=a.take j/\val ((zs.take j ++ (digs R (K+1) ++ zs.drop (j+(K+1)))).drop j)<V/\V*val (Q :: qs)+val ((zs.take j ++ (digs R (K+1) ++ zs.drop (j+(K+1)))).drop j)=val (a.drop j)):=⟨⟨l1,l2⟩,⟨by rw [dh,i3],fun d hd=>by rcases fM.1 hd with h | h;omega;exact i4 d h⟩,l3,l4,l5⟩
     have G:=aa S;have cJ:(j:Int)<=(j:Int)+(K:Int)+1:=by omega
     have ca:(j:Int)+(K:Int)+1<=(N:Int):=by omega
     clear HI hj br S i1 i2 i3 i4 i5 i6 i7 l1 l2 l3 l4 l5 aH be hU hQ hR al H I J aO;generalize zs.take j ++ (digs R (K+1) ++ zs.drop (j+(K+1)))=zs2 at *;rw [show K+1=j+K+1-j by omega] at aM;go_wp2_with fail;refine aM.mono ?_;rintro e w6 ⟨rfl,a5,k6⟩;have C:=k6.own q (fun b hb e=>by simp [Value.ownBlock] at hb;omega);have c6:=bj _ C;have f6:=World.ownsRow.frozenAt C j;clear aM bj;go_wp2_with fail;go_roundw
     case rel=>
      have kb:Kept (fun b=>b=w.heap.size) w6 (w6.setCell ⟨w.heap.size,j,none⟩ (.int .u64 (Q:Int))):=(ah (fun b=>b=w.heap.size) w6).setCell ⟨w.heap.size,j,none⟩ (fun _=>rfl) _;refine ⟨k+1,zs2,Q :: qs,by omega,by go_num,kb.own a5 (fun b hb e=>by simp [Value.ownBlock] at hb;omega),?_,(av.next k6 (fun _ _ e=>.inl e)).next kb (fun _ _ e=>.inr e),by rw [G.o];exact bU⟩;rw [G.o];exact aL.o _ C
     case measure=>simp [intOf];omega
    ·have gk:¬ (k:Int)<TI:=fun h=>hkT ((bf k hk).1 h)
     obtain rfl:k=T:=by omega
     obtain ⟨H,I,J,_⟩:=H0.o;have aO:=HT.o;obtain ⟨⟨i1,i2⟩,⟨i3,i4⟩,_,i6,i7⟩:=HI.o;rw [cj,il] at i6 i7;rw [il,o.o.2.2] at i7;rw [cj,nF,bZ] at q;obtain ⟨d1,d2⟩:=pd (M:=X) (y:=Y) (p:=2^s) (aX);rw [<- b7.o,<- i7] at d1 d2;rw [gH aP,bJ i6,aV] at d1;rw [iZ,aB i6] at d2;have bB:qs ++ List.replicate (L-k) 0=digs (X/Y) L:=by
      rw [iN i4 d1,i3]
     rw [bB] at q;obtain ⟨Z,hZ⟩:=aj (val zs)
     rw [<- hZ] at d2;have bM:∀ i,zs.getD i 0=dig Z i:=fun i=>by rw [hZ];exact (dn (by omega) i2 i).symm
     have bt:∀ W,Kept (fun b=>b=(w.heap.size+1)) wr W->∀ i,i<N->W.cell? ⟨gu,i,none⟩=some (.int .u64 (dig Z i:Nat)):=fun W kk i hi=>by
      have h1:=kk.own F (fun b hb e=>by simp [Value.ownBlock] at hb;omega);rw [World.ownsRow.cellAt h1 i (by omega),bV,<- bM,aA,aS (by omega)];rfl
     have g:=av.own B (fun b hb e=>by simp [Value.ownBlock] at hb;omega);have bd:=aa bt;have bX:=aa q;have bT:=aa d2;have cO:K+1<=N:=by omega
     obtain ⟨s2,bD⟩:=aj (64-s)
     have ca:IntKind.i64.wrap (64-(s:Int))=(s2:Int):=jN
     have cK:(s2:Int)<=64:=by omega
     have b5:=aa bD;clear HI i1 i2 i3 i4 i6 i7 d1 d2 bB hZ bM bt q F B H I J aO bD;go_wp2_with fail;go_loopw [86] (fun i wz=>∃ (m:Nat),m<=K/\i=.int .i64 (m:Int)/\OwnN .u64 24 wz w.heap.size (.slice (some ⟨(w.heap.size+1),0,none⟩) M M) M (digs (Z/2^s) m ++ List.replicate (M-m) 0)/\Kept (fun b=>b=(w.heap.size+1)) wr wz) (fun i _=>K-(intOf i).toNat)
     case atStart=>exact ⟨0,aQ _,rfl,by rw [et];exact g,ah _ _⟩
     case round=>
      clear g;obtain ⟨m,hm,rfl,g,ac⟩:=hrel;by_cases hmK:m<K
      ·have cS:(0:Int)<=(m:Int):=cN _;have ch:(m:Int)<(K:Int):=by omega
       obtain ⟨m1,v⟩:=aj (m+1)
       have cE:IntKind.i64.wrap ((m:Int)+1)=(m1:Int):=jN
       have cF:(m:Int)<(N:Int):=by omega
       have cH:(m1:Int)<(N:Int):=by omega
       have cI:(m:Int)<(M:Int):=by omega
       have c1:=bd.o _ ac m (by omega);have c2:=bd.o _ ac m1 (by omega);have au:=qB (Z:=Z) (i:=m) ap;rw [<- b5.o,<- v] at au;have cr:=jh g (ag _ _ _);have fr:=World.ownsRow.frozenAt g m;have bp:HzD (OwnN .u64 24 (wr.setCell ⟨(w.heap.size+1),m,none⟩ (.int .u64 (dig (Z/2^s) m:Nat))) w.heap.size (.slice (some ⟨(w.heap.size+1),0,none⟩) M M) M (digs (Z/2^s) (m+1) ++ List.replicate (M-(m+1)) 0)):=by
        have:=(World.ownsRow.stored g m (.int .u64 (dig (Z/2^s) m:Nat))).1;unfold HzD OwnN;rw [digs,<- kM _ M m _ (ag _ _ _),cG];exact this
       obtain ⟨z,hz⟩:=aj (dig (Z/2^s) m)
       rw [<- hz] at au bp;obtain ⟨x1,a9⟩:=aj (dig Z m)
       obtain ⟨x2,ba⟩:=aj (dig Z m1)
       rw [<- a9,<- ba] at au;rw [<- a9] at c1;rw [<- ba] at c2;obtain ⟨xl,bb⟩:=aj (x1/2^s)
       rw [<- bb] at au;have cL:(x1:Int)/2^s=(xl:Int):=by rw [bb];simp
       have aG:=aa v;clear hz a9 ba bb v g;go_wp2_with fail;go_still_tail 17,(by kernel_rfl)
       change wpList _ _ _ _ _ wr.drew
       go_wp2_with fail;go_roundw
       case rel=>exact ⟨m1,by have:=aG.o;omega,rfl,by rw [aG.o];exact bp.o,(ac.setCell ⟨(w.heap.size+1),m,none⟩ (fun _=>rfl) _).drew⟩
       case measure=>have:=aG.o;simp [intOf];omega
      ·have ch:¬ (m:Int)<(K:Int):=by omega
       obtain rfl:m=K:=by omega
       rw [bT.o] at g;have hf:=iN (m:=M) (ak (by omega) (X%Y) m) (V:=X%Y) (by rw [ay,aB (bH (aY _ aU) aq.o)]) (by rw [ag];omega);rw [ag] at hf;rw [<- hf] at g;have bY:=aa (ac.own bX.o (fun b hb e=>by have e':b=(w.heap.size+1):=e;simp [Value.ownBlock] at hb;omega));have aC:=aa ((cl.next av (fun x hx e=>by rcases e with e | e <;> omega)).next ac (fun x hx e=>by have e':x=(w.heap.size+1):=e;omega));clear hf;go_wp2_with fail;go_ret2;exact ⟨_,_,rfl,bY.o,g,aC.o⟩
 ·have ci:=oD w M L CM CL bO.o bN.o (by omega) (by omega);generalize ((w.alloc (.cells CM 24)).alloc (.cells CL 24)).drew=W1 at *;obtain ⟨ae,ad,k1⟩:=ci;clear bx bz bN bO;obtain ⟨_,_,_,e1,_,_,_,_,aw⟩:=(HV.o.g k1).open;cases e1
  go_wp2_with fail;refine (bg _ k1).mono ?_;rintro e w2 ⟨rfl,rfl⟩;clear bg;have a1:HzD (xs≠[]->∀ b,(Value.slice ao L az).ownBlock=some b->b<w.heap.size):=fun h b hb=>HU.o.lt h b hb
  by_cases hK1:K=1
  ·subst hK1;have cw:((bl:Int)+64-1)/64=1:=gK;clear gK;obtain ⟨b2,r,rfl,cy⟩:=aw 0 (by omega);have bK:ys.getD 0 0=Y:=by
    rw [<- dn (by omega) ax.o,<- HY.o,dig,cP,fC];have:=aq.o;rw [i8] at this;exact aB this
   have cu:w2.cell? ⟨b2,r,none⟩=some (.int .u64 (Y:Nat)):=by rw [<- bK];exact cy
   have ab:Y<18446744073709551616:=by have:=aq.o;rwa [i8] at this
   obtain ⟨R,hR⟩:=aj (X%Y)
   have aJ:R<18446744073709551616:=by rw [hR];exact bH (aY _ aU) ab
   have O:=Lb (w.heap.size+1) w.heap.size L L ao az xs (List.replicate L 0) X Y R HX.o hR ab aU w2 ad (by simp) (HU.o.g k1) bP.o (fun h b hb=>by have:=a1.o h b hb;omega);obtain ⟨M1,bk⟩:∃ M1,M=M1+1:=⟨M-1,by omega⟩
   have b9:HzD (digs R M=(List.replicate M 0).set 0 R):=by unfold HzD;rw [bk,jt R M1 aJ,j9,lsZ]
   have b1:=aa hR;clear aw cy bK bk hR;go_wp2_with fail;refine O.mono ?_;rintro e w3 ⟨rfl,q,k3⟩;have g:=k3.own ae (fun b hb e=>by simp [Value.ownBlock] at hb;omega);have cr:w3.cell? ⟨w.heap.size,0,none⟩=some (.int .u64 0):=by
    rw [World.ownsRow.cellAt g 0 (by omega),bV,eF,cf];rfl
   have fr:=World.ownsRow.frozenAt g 0;have bE:=(World.ownsRow.stored g 0 (.int .u64 (R:Int))).1;have kb:Kept (fun b=>b=w.heap.size) w3 (w3.setCell ⟨w.heap.size,0,none⟩ (.int .u64 (R:Int))):=aF w3 w.heap.size _;have HQ:=aa (kb.own q (fun b hb e=>by simp [Value.ownBlock] at hb;omega));have b0:HzD (OwnN .u64 24 (w3.setCell ⟨w.heap.size,0,none⟩ (.int .u64 (R:Int))) w.heap.size (.slice (some ⟨w.heap.size,0,none⟩) M M) M (digs (X%Y) M)):=by
    unfold HzD OwnN;rw [<- b1.o,b9.o,cG];exact bE
   have aC:=aa ((k1.next k3 (fun x hx e=>by omega)).next kb (fun x hx e=>by omega));clear O g bE kb q k3 ad ae;go_wp2_with fail;go_ret2;exact ⟨_,_,rfl,HQ.o,b0.o,aC.o⟩
  ·have cv:((K:Int) == 1)=false:=by simp;omega
   have cx:¬ (K:Int)=1:=by omega
   obtain ⟨n,hn⟩:=aj (K-2)
   obtain ⟨nk,a2⟩:=aj (K-1)
   obtain ⟨b2,r,rfl,cy⟩:=aw nk (by omega);obtain ⟨t,ht⟩:=aj (Y/18446744073709551616^nk)
   have aW:Y<18446744073709551616^(nk+1):=by rw [show nk+1=K by omega];exact aq.o
   have E:0<18446744073709551616^nk:=aX;have bF:t<18446744073709551616:=by
    rw [ht,cW E,<- lj];exact aW
   have ck:0<t:=by rw [ht];exact Nat.div_pos (by rw [a2];exact cm.o) E
   have bL:ys.getD nk 0=t:=by rw [<- dn (by omega) ax.o,<- HY.o,dig,<- ht,aB bF]
   rw [bL] at cy;obtain ⟨s,hs⟩:=aj (64-aN t)
   obtain ⟨ap,v1,v2,v3⟩:=vx aW ht ck hs;rw [show nk+1=K by omega] at v1;have aI:=fun W=>bLz t bF W
   rw [<- hs] at aI;obtain ⟨V,hV⟩:=aj (Y*2^s)
   rw [<- hV] at v1 v2 v3;have b7:=aa hV;obtain ⟨N,hN⟩:=aj (max L K+1)
   have gN:max (L:Int) (K:Int)+1=(N:Int):=by omega
   have cA:(K:Int)-1=(nk:Int):=by omega
   have cB:(nk:Int)<(M:Int):=by omega
   have cC:(K:Int)<=(M:Int):=by omega
   have bm:M<=ar:=by obtain ⟨_,_,_,e1,_,hh,_⟩:=HV.o.open;cases e1;exact hh
   have cD:(K:Int)<=(ar:Int):=by omega
   have hcut:∀ W,Kept af w W->Row .u64 W (.slice (some ⟨b2,r,none⟩) K ar) (ys.take K):=fun W k=>(HV.o.g k).cut (by rw [eM.o];omega)
   have bI:Y=val (ys.take K):=by rw [iQ (by omega) ax.o,<- HY.o,aB aq.o]
   have aK:=fun W (k:Kept af w W)=>tC (some ⟨b2,r,none⟩) K ar (ys.take K) Y s K bI ap W (hcut W k) (ax.o.take K) (by omega) (leR _)
   have bn:=fun W (k:Kept af w W)=>tC ao L az xs X s N HX.o ap W (HU.o.g k) bP.o
   rw [<- hV] at aK;have H0:HzD (n=K-2/\nk=K-1/\N=max L K+1/\2<=K):=⟨hn,a2,hN,by omega⟩
   clear aw ht hs bL hV hcut bI hn a2 hN E aW;go_wp2_with fail;refine (aI _).mono ?_;rintro e w3 ⟨rfl,rfl⟩;clear aI;go_wp2_with fail;refine (aK _ k1).mono ?_;rintro e w4 ⟨rfl,a6,k4⟩;have bc:=k1.trans k4;go_wp2_with fail;refine (bn _ bc).mono ?_;rintro e w5 ⟨rfl,F,k5⟩;have cl:=bc.trans k5;have ai:=k5.own a6 (fun _ _ f=>f);have A:=(k4.trans k5).own ad (fun _ _ f=>f);have B:=(k4.trans k5).own ae (fun _ _ f=>f);have am:w.heap.size+1<w3.heap.size:=by have h1:=fX ad;have h2:=fX ae;omega
   have an:w3.heap.size<w4.heap.size:=fX a6;clear aK bn a6 ad ae k1 bc;go_wp2_with fail;obtain ⟨T,hT⟩:=aj (L+1-K)
   have ce:=fX A;have cg:=fX B;have a7:w.heap.size+1<w3.heap.size:=am;have a8:w3.heap.size<w4.heap.size:=an;obtain ⟨gv,a0⟩:=aj w3.heap.size
   obtain ⟨gu,aZ⟩:=aj w4.heap.size
   have D:OwnN .u64 24 w5 w.heap.size (.slice (some ⟨gu,0,none⟩) N N) N (digs (X*2^s) N):=by
    rw [aZ];exact dg F (fun b hb=>by simp [Value.ownBlock] at hb;omega)
   have bC:Row .u64 w5 (.slice (some ⟨gv,0,none⟩) K K) (digs V K):=by rw [a0];exact dz ai (ag _ _ _)
   rw [<- a0,<- aZ];have dq:(w.heap.size+1)≠gu/\w.heap.size≠gu/\gv≠gu/\gv≠(w.heap.size+1)/\(w.heap.size+1)≠w.heap.size/\w.heap.size<=gu:=by omega
   clear F ai a0 aZ a8 a7 ce cg;obtain ⟨H,I,J,cM⟩:=H0.o;have aP:0<V:=bi (gI (by omega) (aX)) v3;have aT:X*2^s<2^s*18446744073709551616^L:=by rw [aD];exact my co.o (aX)
   have bs:X*2^s<18446744073709551616^N:=xz aT ap;obtain ⟨a,c⟩:=aj (digs (X*2^s) N)
   rw [<- c] at D;have bA:a.length=N:=by rw [c,ag]
   have a3:Digs a:=by rw [c];exact ak (by omega) _ _
   have a4:val a=X*2^s:=by rw [c,ay,aB bs]
   have l:val (a.drop T)<V:=by rw [kN (by omega) a3,a4];exact pz aT ap v3
   have o:HzD (a.length=N/\Digs a/\val a=X*2^s):=⟨bA,a3,a4⟩
   have bu:(digs V K).getD nk 0=dig V nk:=jg _ _ _ _ (by omega);rw [<- bu] at v2;have bG:V=val (digs V K):=by rw [ay,aB v1]
   have HT:=aa hT;have b3:=aa bC;have bW:=aa D;have b6:=aa v2;have b8:=aa bG;have b4:=aa l;have gT:(L:Int)-(K:Int)+1=(T:Int)\/(T=0/\(L:Int)-(K:Int)+1<=0):=by omega
   obtain ⟨TI,bq⟩:=aj ((L:Int)-(K:Int)+1)
   have bf:∀ k:Nat,k<=T->((k:Int)<TI↔k<T):=fun k hk=>by omega
   rw [<- bq];clear hT bC D v2 bG l bA a3 a4 c bu bs aT gT cy bq H I J;go_loopw [63] (fun i wr=>∃ (k:Nat) (zs qs:LN),k<=T/\i=.int .i64 (k:Int)/\OwnN .u64 24 wr w.heap.size (.slice (some ⟨gu,0,none⟩) N N) N zs/\OwnN .u64 24 wr w.heap.size (.slice (some ⟨(w.heap.size+1),0,none⟩) L L) L ((List.replicate T 0).take (T-k) ++ (qs ++ List.replicate (L-T) 0))/\Kept (fun b=>b=gu\/b=(w.heap.size+1)) w5 wr /\
     HzD ((zs.length=N/\Digs zs)/\(qs.length=k/\Digs qs)/\zs.take (T-k)=a.take (T-k)/\val (zs.drop (T-k))<V/\V*val qs+val (zs.drop (T-k))=val (a.drop (T-k)))) (fun i _=>T-(intOf i).toNat)
   case atStart=>
    refine ⟨0,a,[],aQ _,rfl,bW.o,?_,ah _ _,⟨⟨o.o.1,o.o.2.1⟩,⟨rfl,Digs.nil _⟩,rfl,by rw [et];exact b4.o,by rw [val,df,dU]⟩⟩;rw [et,dS (by simp),bZ,nD,show T+(L-T)=L by have:=HT.o;omega];exact A
   case round=>
    clear A;obtain ⟨k,zs,qs,hk,rfl,F,q,av,HI⟩:=hrel;by_cases hkT:k<T
    ·have gk:(k:Int)<TI:=(bf k hk).2 hkT;have aO:=HT.o;obtain ⟨H,I,J,_⟩:=H0.o;obtain ⟨j,hj⟩:=aj (T-1-k)
     have br:T-k=j+1:=by omega
     have S:T-(k+1)=j:=by omega
     have gj:(L:Int)-(K:Int)-(k:Int)=(j:Int):=by omega
     have cz:(j:Int)<(L:Int):=by omega
     have bv:j+(K+1)<=N:=by omega
     obtain ⟨⟨i1,i2⟩,⟨i3,i4⟩,i5,i6,i7⟩:=HI.o;rw [br] at i5 i6 i7 q;obtain ⟨U,hU⟩:=aj (val ((zs.drop j).take (K+1)))
     obtain ⟨aH,be⟩:=qt (by omega) i2 i1 o.o.1 bv v1 aP i6 i5 i7 U hU;obtain ⟨l1,l2,l3,l4,l5⟩:=be _ rfl;obtain ⟨Q,hQ⟩:=aj (U/V)
     obtain ⟨R,hR⟩:=aj (U%V)
     have cQ:Q<18446744073709551616:=by rw [hQ,cW aP,aD];exact aH
     rw [<- hR] at l1 l2 l3 l4 l5;rw [<- hQ] at l5;have al:Row .u64 wr (.slice (some ⟨gv,0,none⟩) K K) (digs V K):=b3.o.kept av (fun b hb e=>by simp [Value.ownBlock] at hb;omega);have aM:=Gy gu w.heap.size N N j n nk K (N-j) (by omega) (by omega) zs (digs V K) (some ⟨gv,0,none⟩) K U V Q R wr F i1 i2 bv (by omega) (by omega) al (ak (by omega) _ _) (fun b hb e=>by simp [Value.ownBlock] at hb;omega) b6.o hU b8.o aH hQ hR;have bj:∀ W,OwnN .u64 24 W w.heap.size (.slice (some ⟨(w.heap.size+1),0,none⟩) L L) L ((List.replicate T 0).take (j+1) ++ (qs ++ List.replicate (L-T) 0))->W.cell? ⟨(w.heap.size+1),j,none⟩=some (.int .u64 0):=fun W h=>by
      rw [World.ownsRow.cellAt h j (by omega),bV,im (by rw [aR,bw];omega),eG,cf,eF,cf];rfl
     have aL:HzD (∀ W,OwnN .u64 24 W w.heap.size (.slice (some ⟨(w.heap.size+1),0,none⟩) L L) L ((List.replicate T 0).take (j+1) ++ (qs ++ List.replicate (L-T) 0))->OwnN .u64 24 (W.setCell ⟨(w.heap.size+1),j,none⟩ (.int .u64 (Q:Int))) w.heap.size (.slice (some ⟨(w.heap.size+1),0,none⟩) L L) L ((List.replicate T 0).take j ++ ((Q :: qs) ++ List.replicate (L-T) 0))):=fun W h=>by
      have:=(World.ownsRow.stored h j (.int .u64 (Q:Int))).1;unfold OwnN;rw [fJ,<- oZ (by rw [bw];omega),cG];exact this
     have bU:HzD (((zs.take j ++ (digs R (K+1) ++ zs.drop (j+(K+1)))).length=N/\Digs (zs.take j ++ (digs R (K+1) ++ zs.drop (j+(K+1)))))/\((Q :: qs).length=k+1/\Digs (Q :: qs))/\(zs.take j ++ (digs R (K+1) ++ zs.drop (j+(K+1)))).take j=a.take j/\val ((zs.take j ++ (digs R (K+1) ++ zs.drop (j+(K+1)))).drop j)<V/\V*val (Q :: qs)+val ((zs.take j ++ (digs R (K+1) ++ zs.drop (j+(K+1)))).drop j)=val (a.drop j)):=⟨⟨l1,l2⟩,⟨by rw [dh,i3],fun d hd=>by rcases fM.1 hd with h | h;omega;exact i4 d h⟩,l3,l4,l5⟩
     have G:=aa S;have cJ:(j:Int)<=(j:Int)+(K:Int)+1:=by omega
     have ca:(j:Int)+(K:Int)+1<=(N:Int):=by omega
     clear HI hj br S i1 i2 i3 i4 i5 i6 i7 l1 l2 l3 l4 l5 aH be hU hQ hR al H I J aO;generalize zs.take j ++ (digs R (K+1) ++ zs.drop (j+(K+1)))=zs2 at *;rw [show K+1=j+K+1-j by omega] at aM;go_wp2_with fail;refine aM.mono ?_;rintro e w6 ⟨rfl,a5,k6⟩;have C:=k6.own q (fun b hb e=>by simp [Value.ownBlock] at hb;omega);have c6:=bj _ C;have f6:=World.ownsRow.frozenAt C j;clear aM bj;go_wp2_with fail;go_roundw
     case rel=>
      have kb:Kept (fun b=>b=(w.heap.size+1)) w6 (w6.setCell ⟨(w.heap.size+1),j,none⟩ (.int .u64 (Q:Int))):=(ah (fun b=>b=(w.heap.size+1)) w6).setCell ⟨(w.heap.size+1),j,none⟩ (fun _=>rfl) _;refine ⟨k+1,zs2,Q :: qs,by omega,by go_num,kb.own a5 (fun b hb e=>by simp [Value.ownBlock] at hb;omega),?_,(av.next k6 (fun _ _ e=>.inl e)).next kb (fun _ _ e=>.inr e),by rw [G.o];exact bU⟩;rw [G.o];exact aL.o _ C
     case measure=>simp [intOf];omega
    ·have gk:¬ (k:Int)<TI:=fun h=>hkT ((bf k hk).1 h)
     obtain rfl:k=T:=by omega
     obtain ⟨H,I,J,_⟩:=H0.o;have aO:=HT.o;obtain ⟨⟨i1,i2⟩,⟨i3,i4⟩,_,i6,i7⟩:=HI.o;rw [cj,il] at i6 i7;rw [il,o.o.2.2] at i7;rw [cj,nF,bZ] at q;obtain ⟨d1,d2⟩:=pd (M:=X) (y:=Y) (p:=2^s) (aX);rw [<- b7.o,<- i7] at d1 d2;rw [gH aP,bJ i6,aV] at d1;rw [iZ,aB i6] at d2;have bB:qs ++ List.replicate (L-k) 0=digs (X/Y) L:=by
      rw [iN i4 d1,i3]
     rw [bB] at q;obtain ⟨Z,hZ⟩:=aj (val zs)
     rw [<- hZ] at d2;have bM:∀ i,zs.getD i 0=dig Z i:=fun i=>by rw [hZ];exact (dn (by omega) i2 i).symm
     have bt:∀ W,Kept (fun b=>b=w.heap.size) wr W->∀ i,i<N->W.cell? ⟨gu,i,none⟩=some (.int .u64 (dig Z i:Nat)):=fun W kk i hi=>by
      have h1:=kk.own F (fun b hb e=>by simp [Value.ownBlock] at hb;omega);rw [World.ownsRow.cellAt h1 i (by omega),bV,<- bM,aA,aS (by omega)];rfl
     have g:=av.own B (fun b hb e=>by simp [Value.ownBlock] at hb;omega);have bd:=aa bt;have bX:=aa q;have bT:=aa d2;have cO:K+1<=N:=by omega
     obtain ⟨s2,bD⟩:=aj (64-s)
     have ca:IntKind.i64.wrap (64-(s:Int))=(s2:Int):=jN
     have cK:(s2:Int)<=64:=by omega
     have b5:=aa bD;clear HI i1 i2 i3 i4 i6 i7 d1 d2 bB hZ bM bt q F B H I J aO bD;go_wp2_with fail;go_loopw [86] (fun i wz=>∃ (m:Nat),m<=K/\i=.int .i64 (m:Int)/\OwnN .u64 24 wz w.heap.size (.slice (some ⟨w.heap.size,0,none⟩) M M) M (digs (Z/2^s) m ++ List.replicate (M-m) 0)/\Kept (fun b=>b=w.heap.size) wr wz) (fun i _=>K-(intOf i).toNat)
     case atStart=>exact ⟨0,aQ _,rfl,by rw [et];exact g,ah _ _⟩
     case round=>
      clear g;obtain ⟨m,hm,rfl,g,ac⟩:=hrel;by_cases hmK:m<K
      ·have cS:(0:Int)<=(m:Int):=cN _;have ch:(m:Int)<(K:Int):=by omega
       obtain ⟨m1,v⟩:=aj (m+1)
       have cE:IntKind.i64.wrap ((m:Int)+1)=(m1:Int):=jN
       have cF:(m:Int)<(N:Int):=by omega
       have cH:(m1:Int)<(N:Int):=by omega
       have cI:(m:Int)<(M:Int):=by omega
       have c1:=bd.o _ ac m (by omega);have c2:=bd.o _ ac m1 (by omega);have au:=qB (Z:=Z) (i:=m) ap;rw [<- b5.o,<- v] at au;have cr:=jh g (ag _ _ _);have fr:=World.ownsRow.frozenAt g m;have bp:HzD (OwnN .u64 24 (wr.setCell ⟨w.heap.size,m,none⟩ (.int .u64 (dig (Z/2^s) m:Nat))) w.heap.size (.slice (some ⟨w.heap.size,0,none⟩) M M) M (digs (Z/2^s) (m+1) ++ List.replicate (M-(m+1)) 0)):=by
        have:=(World.ownsRow.stored g m (.int .u64 (dig (Z/2^s) m:Nat))).1;unfold HzD OwnN;rw [digs,<- kM _ M m _ (ag _ _ _),cG];exact this
       obtain ⟨z,hz⟩:=aj (dig (Z/2^s) m)
       rw [<- hz] at au bp;obtain ⟨x1,a9⟩:=aj (dig Z m)
       obtain ⟨x2,ba⟩:=aj (dig Z m1)
       rw [<- a9,<- ba] at au;rw [<- a9] at c1;rw [<- ba] at c2;obtain ⟨xl,bb⟩:=aj (x1/2^s)
       rw [<- bb] at au;have cL:(x1:Int)/2^s=(xl:Int):=by rw [bb];simp
       have aG:=aa v;clear hz a9 ba bb v g;go_wp2_with fail;go_still_tail 17,(by kernel_rfl)
       change wpList _ _ _ _ _ wr.drew
       go_wp2_with fail;go_roundw
       case rel=>exact ⟨m1,by have:=aG.o;omega,rfl,by rw [aG.o];exact bp.o,(ac.setCell ⟨w.heap.size,m,none⟩ (fun _=>rfl) _).drew⟩
       case measure=>have:=aG.o;simp [intOf];omega
      ·have ch:¬ (m:Int)<(K:Int):=by omega
       obtain rfl:m=K:=by omega
       rw [bT.o] at g;have hf:=iN (m:=M) (ak (by omega) (X%Y) m) (V:=X%Y) (by rw [ay,aB (bH (aY _ aU) aq.o)]) (by rw [ag];omega);rw [ag] at hf;rw [<- hf] at g;have bY:=aa (ac.own bX.o (fun b hb e=>by have e':b=w.heap.size:=e;simp [Value.ownBlock] at hb;omega));have aC:=aa ((cl.next av (fun x hx e=>by rcases e with e | e <;> omega)).next ac (fun x hx e=>by have e':x=w.heap.size:=e;omega));clear hf;go_wp2_with fail;go_ret2;exact ⟨_,_,rfl,bY.o,g,aC.o⟩

theorem LD (u:Value) (xs:LN) (w:World) (hu:Row .u64 w u xs) (a:Digs xs) (hL:xs.length<=100000000) :
  ClZ 209 #[.pointer none,u] w fun e w'=>e=.returned (.int .u64 (dF (decide (val xs=0)):Nat))/\Kept af w w':=by
 refine (Gt none u xs w (TrRoom.none w 1 (by omega)) (RowT.none hu) a hL).mono ?_;rintro e w' ⟨rfl,o',hd⟩;exact ⟨rfl,hd.none.2⟩

theorem Fp (ao bo:OA) (L M g h:Nat) (xs ys:LN) (X Y:Nat) (hX:X=val xs) (hY:Y=val ys) (bA bB bQ bR:Nat) (w:World) (hu:Row .u64 w (.slice ao L g) xs) (hv:Row .u64 w (.slice bo M h) ys) (v:Digs xs) (m:Digs ys)
  (hA:Box w bA (.slice ao L g) 23) (hB:Box w bB (.slice bo M h) 23) (hQ:Box w bQ (.slice none 0 0) 23) (hR:Box w bR (.slice none 0 0) 23) (x:bQ≠bR) :
  ClZ 234 #[.pointer (some ⟨bA,0,none⟩),.pointer (some ⟨bB,0,none⟩),.pointer (some ⟨bQ,0,none⟩),.pointer (some ⟨bR,0,none⟩)] w fun e w'=>
   (¬ (L<=300/\M<=300)/\e=.panicked [refusal 2]/\w'=w)\/((L<=300/\M<=300)/\Y=0/\e=.panicked [refusal 1]/\Kept af w w') \/
   ((L<=300/\M<=300)/\Y≠0/\e=.returned (.tuple #[])/\∃ v1 v2,OwnN .u64 24 w' w.heap.size v1 L (digs (X/Y) L)/\OwnN .u64 24 w' w.heap.size v2 M (digs (X%Y) M)/\Kept (fun b=>b=bQ\/b=bR) w w'/\Box w' bQ v1 23/\Box w' bR v2 23):=by
 obtain ⟨_,_,_,e1,J,_,_,_,_⟩:=hu.open;cases e1
 obtain ⟨_,_,_,e1,s,_,_,_,_⟩:=hv.open;cases e1
 have hP:=fun W=>zX ao bo L M g h W
 have hZ:=fun (l:M<=300)=>LD _ ys w hv m (by have:=s.o;omega)
 rw [<- hY] at hZ;have hD:=fun W (k:Kept af w W) (l1:L<=300) (l2:M<=300) (h0:0<Y)=>H5 ao bo L M g h xs ys X Y hX hY h0 W (hu.g k) (hv.g k) v m (by omega) (by omega)
 have cA:=hA.cell;have cB:=hB.cell;have y:=aa hA;have z:=aa hB;have A:=aa hQ;have B:=aa hR;clear hu hv v m J s hA hB hQ hR hX hY;delta ClZ;go_in;go_wp2_with fail;refine (hP _).mono ?_;rintro e w1 ⟨⟨l1,l2,rfl⟩ | ⟨l1,rfl⟩,rfl⟩
 ·obtain ⟨nz,n⟩:=aj (dF (decide (Y=0)))
  rw [<- n] at hZ;have q:=aa n;clear hP n;go_wp2_with fail;refine (hZ l2).mono ?_;rintro e w2 ⟨rfl,k2⟩;have H:=(y.o.g k2).cell;have I:=(z.o.g k2).cell;have o:=A.o.g k2;have p:=B.o.g k2;clear hZ cA cB;by_cases h0:Y=0
  ·have en:nz=1:=by rw [q.o,dV h0];rfl
   have j:=nh 1 w2;go_wp2_with fail;refine j.mono ?_;rintro e w4 ⟨rfl,rfl⟩;exact ⟨rfl,.inr (.inl ⟨⟨l1,l2⟩,h0,rfl,k2⟩)⟩
  ·have en:nz=0:=by rw [q.o,cI h0];rfl
   have t:=oV 1 w2;have r:=hD w2 k2 l1 l2 (by omega);clear hD;go_wp2_with fail;refine t.mono ?_;rintro e w3 ⟨rfl,rfl⟩;clear t;go_wp2_with fail;refine r.mono ?_;rintro e w4 ⟨v1,v2,rfl,d,f,k4⟩;obtain ⟨xo,xc,rfl⟩:=dK d;obtain ⟨yo,yc,rfl⟩:=dK f;have a:=o.g k4;have c:=p.g k4;have cQ:=a.cell;have fQ:=a.free;have cR:=c.cell;have fR:=c.free;have N:=o.lt;have O:=p.lt;have P:=k2.size;have kb:Kept (fun b=>b=bQ\/b=bR) w4 (w4.setCell ⟨bQ,0,none⟩ (.slice xo L xc)):=(aF w4 bQ (.slice xo L xc)).mono (fun _ _ e=>.inl e);have i:=kb.next (aF _ bR (.slice yo M yc)) (fun _ _ e=>.inr e)
   have D:=aa (dg (base':=w1.heap.size) (i.own d (fun b hb e=>by have:=(d.lt b hb).1;omega)) (fun b hb=>by have:=(d.lt b hb).1;omega));have E:=aa (dg (base':=w1.heap.size) (i.own f (fun b hb e=>by have:=(f.lt b hb).1;omega)) (fun b hb=>by have:=(f.lt b hb).1;omega));have F:=aa ((a.set (.slice xo L xc)).other ⟨bR,0,none⟩ x (.slice yo M yc));have G:=aa ((c.other ⟨bQ,0,none⟩ (fun e=>x e.symm) (.slice xo L xc)).set (.slice yo M yc));have C:=aa ((k2.trans k4).any.trans i);clear d f a c kb i o p H I r;go_wp2_with fail;go_end0
   exact .inr (.inr ⟨⟨l1,l2⟩,h0,rfl,_,_,D.o,E.o,C.o,F.o,G.o⟩)
 ·exact ⟨rfl,.inl ⟨l1,rfl,rfl⟩⟩

theorem yH (ao bo:OA) (L M d f:Nat) (xs ys:LN) (E:Nat) (hE:E=jY (val ys) L M) (w:World) (hu:Row .u64 w (.slice ao L d) xs) (hv:Row .u64 w (.slice bo M f) ys) (C:Digs xs) (D:Digs ys) :
  ClZ 204 #[.slice ao L d,.slice bo M f] w fun e w'=>∃ v1 v2,e=.returned (.tuple #[v1,v2,.int .i64 (E:Nat)]) /\
   Row .u64 w' v1 (pF (val xs) (val ys) L M)/\Row .u64 w' v2 (lF (val xs) (val ys) L M)/\Kept af w w':=by
 have F:=Hp;have B:=sY w (.slice ao L d) (.slice bo M f) (.slice none 0 0) (.slice none 0 0) 23 23 23 23;have he:∀ args w,(callFunc 234 args).run prog w=.ok (.enter 234 args) w:=fun _ _=>by simp [go_sem]
 obtain ⟨X,hX⟩:=aj (val xs)
 obtain ⟨Y,hY⟩:=aj (val ys)
 rw [<- hY] at hE;rw [<- hX,<- hY];have HE:=aa hE;have HX:=aa hX;have HY:=aa hY;clear hE hX hY;delta ClZ;go_in;go_wp2_with fail;generalize (((w.alloc (.cells #[.slice ao L d] 23)).alloc (.cells #[.slice bo M f] 23)).alloc (.cells #[.slice none 0 0] 23)).alloc (.cells #[.slice none 0 0] 23)=W at *;obtain ⟨k0,x2,x3,x4,x5,hs⟩:=B;have k1:=k0.alloc (.cells #[.int .i64 0] 35);have xe:=Box.new W (.int .i64 0) 35;have h1:=Fp ao bo L M d f xs ys X Y HX.o HY.o _ _ _ _ _ (hu.g k1) (hv.g k1) C D (x2.alloc _) (x3.alloc _) (x4.alloc (.cells #[.int .i64 0] 35)) (x5.alloc _) (by omega)
 have r:(W.alloc (.cells #[.int .i64 0] 35)).heap.size=W.heap.size+1:=by simp
 refine (oo 234 _ W (fun n W'=>n=(E:Int)/\∃ ro rc ln so sc lm,Box W' (w.heap.size+1+1) (.slice ro ln rc) 23/\Box W' (w.heap.size+1+1+1) (.slice so lm sc) 23/\Row .u64 W' (.slice ro ln rc) (pF X Y L M)/\Row .u64 W' (.slice so lm sc) (lF X Y L M)/\(∀ b,(Value.slice ro ln rc).ownBlock=some b->W.heap.size+1<=b)/\(∀ b,(Value.slice so lm sc).ownBlock=some b->W.heap.size+1<=b)/\Kept af w W') he (h1.mono ?_)).mono ?_
 ·rintro e w' (⟨hl,rfl,rfl⟩ | ⟨hl,h0,rfl,kz⟩ | ⟨hl,h0,rfl,v1,v2,i,j,hk,g,h⟩)
  ·obtain ⟨e1,e2,e3⟩:=uG (X:=X) (Y:=Y) hl;exact ⟨xe,.inr ⟨2,rfl,by rw [HE.o,e1];rfl,none,0,0,none,0,0,x4.alloc _,x5.alloc _,by rw [e2];exact Row.nil _ _,by rw [e3];exact Row.nil _ _,(fun b hb=>by cases hb),(fun b hb=>by cases hb),k1⟩⟩
  ·obtain ⟨e1,e2,e3⟩:=div_zero (X:=X) hl h0;exact ⟨xe.g kz,.inr ⟨1,rfl,by rw [HE.o,e1];rfl,none,0,0,none,0,0,(x4.alloc _).g kz,(x5.alloc _).g kz,by rw [e2];exact Row.nil _ _,by rw [e3];exact Row.nil _ _,(fun b hb=>by cases hb),(fun b hb=>by cases hb),k1.trans kz⟩⟩
  ·obtain ⟨e1,e2,e3⟩:=iz (X:=X) hl h0;rw [r] at i j;have G:=xe.kept hk (by omega);obtain ⟨xo,xc,rfl⟩:=dK i;obtain ⟨yo,yc,rfl⟩:=dK j;exact ⟨G,.inl ⟨rfl,by rw [HE.o,e1];rfl,xo,xc,L,yo,yc,M,g,h,by rw [e2];exact dz i (ag _ _ _),by rw [e3];exact dz j (ag _ _ _),(fun b hb=>(i.lt b hb).1),(fun b hb=>(j.lt b hb).1),k1.next hk (fun x hx e=>by rcases e with e | e <;> omega)⟩⟩
 ·rintro e w' ⟨n,w1,rfl,⟨⟨rfl,ro,rc,ln,so,sc,lm,g,h,p,q,l,m,hk⟩,A⟩,rfl⟩;have a:=g.other ⟨W.heap.size,0,none⟩ (by show _≠W.heap.size;omega) (.int .i64 (E:Int));have c:=h.other ⟨W.heap.size,0,none⟩ (by show _≠W.heap.size;omega) (.int .i64 (E:Int));have c1:=a.cell;have f1:=a.free;have c2:=c.cell;have f2:=c.free;have o:w.heap.size+1+1≠w.heap.size+1+1+1:=by omega
  have c3:=((a.set (.slice ro ln rc)).other ⟨w.heap.size+1+1+1,0,none⟩ o (.slice so lm sc)).cell;have c4:=((c.other ⟨w.heap.size+1+1,0,none⟩ o.symm (.slice ro ln rc)).set (.slice so lm sc)).cell;have s:Kept (fun b=>b=W.heap.size\/b=w.heap.size+1+1\/b=w.heap.size+1+1+1) w1 (w1.setCell ⟨W.heap.size,0,none⟩ (.int .i64 (E:Int))):=(aF w1 W.heap.size _).mono (fun _ _ e=>.inl e);have t:=s.next (aF _ (w.heap.size+1+1) (.slice ro ln rc)) (fun _ _ e=>.inr (.inl e))
  have k:=t.next (aF _ (w.heap.size+1+1+1) (.slice so lm sc)) (fun _ _ e=>.inr (.inr e))
  have HK:=aa (hk.next k (fun x hx e=>by rcases e with e | e | e <;> omega));have y:=aa (p.kept k (fun b hb e=>by have:=l b hb;omega));have z:=aa (q.kept k (fun b hb e=>by have:=m b hb;omega));generalize w1.setCell ⟨W.heap.size,0,none⟩ (.int .i64 (E:Int))=W2 at *;clear h1 g h a c p q l m s t k hk A hu hv x2 x3 x4 x5 xe k0 k1 r he F;go_wp2_with fail;go_region
  all_goals
   go_wp2;refine bodyPost_ret (v:=.tuple #[.slice ro ln rc,.slice so lm sc,.int .i64 (E:Nat)]) (by simp [results,results204,go_sem,c3,c4]) rfl ?_;exact ⟨_,_,rfl,y.o.g (ah _ _).drew,z.o.g (ah _ _).drew,HK.o.drew⟩

theorem zW {w:World} {base:Nat} {v:Value} {zs:LN} (h:OwnN .u64 24 w base v n zs) (hl:zs.length=n):Row .u64 w v zs:=
 Row.of_own (base:=base) (e:=24) (by rw [hl];exact h)

theorem CO (ao bo:OA) (L M a b:Nat) (xs ys:LN) (w:World) (hu:Row .u64 w (.slice ao L a) xs) (hv:Row .u64 w (.slice bo M b) ys) (c:Digs xs) (d:Digs ys) :
  ClZ 110 #[.pointer none,.slice ao L a,.slice bo M b] w fun e w'=>∃ v',e=.returned v'/\Row .u64 w' v' (kD (val xs) (val ys) L M)/\Kept af w w':=by
 refine (L6 none ao bo L M a b xs ys w (TrRoom.none w 300 (by omega)) (RowT.none hu) (RowT.none hv) c d).mono ?_;rintro e w' ⟨v',rfl,hr,_,o',hd⟩;exact ⟨v',rfl,hr,hd.none.2⟩

theorem Ml (u v:Value) (xs ys:LN) (w:World) (hu:Row .u64 w u xs) (hv:Row .u64 w v ys) (a:Digs xs) (b:Digs ys) (hL:xs.length<=100000000) (hM:ys.length<=100000000) :
  ClZ 109 #[.pointer none,u,v] w fun e w'=>∃ v',e=.returned (.tuple #[v',.int .u64 (dF (decide (2^(64*max xs.length ys.length)<=val xs+val ys)):Nat)])/\Row .u64 w' v' (digs (val xs+val ys) (max xs.length ys.length))/\Kept af w w':=by
 refine (Jm none u v xs ys w (TrRoom.none w 1 (by omega)) (RowT.none hu) (RowT.none hv) a b hL hM).mono ?_;rintro e w' ⟨v',rfl,ho,o',hd⟩;exact ⟨v',rfl,zW ho (ag _ _ _),hd.none.2⟩

theorem Jr (u v:Value) (xs ys:LN) (w:World) (hu:Row .u64 w u xs) (hv:Row .u64 w v ys) (a:Digs xs) (b:Digs ys) (hL:xs.length<=100000000) (hM:ys.length<=100000000) :
  ClZ 176 #[.pointer none,u,v] w fun e w'=>∃ v',e=.returned (.tuple #[v',.int .u64 (dF (decide (val xs<val ys)):Nat)])/\Row .u64 w' v' (digs (gV (val xs) (val ys) (max xs.length ys.length)) (max xs.length ys.length))/\Kept af w w':=by
 refine (Cz none u v xs ys w (TrRoom.none w 1 (by omega)) (RowT.none hu) (RowT.none hv) a b hL hM).mono ?_;rintro e w' ⟨v',rfl,ho,o',hd⟩;exact ⟨v',rfl,zW ho (ag _ _ _),hd.none.2⟩

theorem ym (p:Addr) (w:World) :
  CallsD prog 137 #[.pointer (some p)] .returning w fun e u' w'=>e=.returned (.tuple #[])/\u'=.returning/\w'=w:=by
 refine callsD_of_wpS func137 rfl fun c₀ cs hu=>?_
 apply wpS_seq;apply wpS_region;simp [wpOpsS,go_sem,recoverD,hu,ntmps137,Exit.thenS];apply wpS_seq;apply wpS_seq;apply wpS_region;simp [wpOpsS,go_sem,Exit.thenS];refine wpS_cond (t:=true) (by simp [Act.eval,Array.replicate]) ?_;simp only [if_true];refine wpS_of_wp (wp_ret ?_);cases c₀
 simp_all [bodyPostS,results,results137,Exit.thenS]

theorem G6 (p:Addr) (x n:Int) (a:List PanicEntry) (w:World) (hc:w.cell? p=some (.int .i64 x)) (hz:w.frozen? p=false) :
  CallsD prog 137 #[.pointer (some p)] (.panicking (refusal n :: a)) w fun e u' w'=>
   e=.returned (.tuple #[])/\u'=.panicking ({ refusal n with recovered:=true } :: a)/\w'=w.setCell p (.int .i64 n):=by
 refine callsD_of_wpS func137 rfl fun c₀ cs hu=>?_
 apply wpS_seq;apply wpS_region;simp [wpOpsS,go_sem,recoverD,hu,ntmps137,Exit.thenS];apply wpS_seq;apply wpS_seq;apply wpS_region;simp [wpOpsS,go_sem,Exit.thenS];refine wpS_cond (t:=false) (by simp [Act.eval,Array.replicate]) ?_;simp only [mg,if_false];refine wpS_of_wp (wp_skip ?_);simp only [Exit.thenS];refine wpS_of_wp ?_;have b:∀ w:World,(Instr.typeAssert (.iface 35 (.int .i64 n)) 20 35 true).run prog w=.ok (.tuple #[.int .i64 n,.bool true]) w:=fun w=>by kernel_rfl
 have e:(#[Value.pointer (some p)] ++ ((((Array.replicate 15 undef).setIfInBounds 3 (Value.iface 35 (Value.int IntKind.i64 n))).setIfInBounds 0 (Value.iface 35 (Value.int IntKind.i64 n))).setIfInBounds 4 (Value.iface 35 (Value.int IntKind.i64 n))).setIfInBounds 5 (Value.bool false):Array Value)=#[.pointer (some p),.iface 35 (.int .i64 n),undef,undef,.iface 35 (.int .i64 n),.iface 35 (.int .i64 n),.bool false,undef,undef,undef,undef,undef,undef,undef,undef,undef]:=rfl;rw [e];clear e;go_wp2;simp [bodyPostS,results,results137]

theorem oe (f:Nat) (b:Array Value) (w:World) (Q:Int->World->Prop) (he:∀ args w,(callFunc f args).run prog w=.ok (.enter f args) w)
  (h:ClZ f b (w.alloc (.cells #[.int .i64 0] 35)) fun e w'=>w'.heap[w.heap.size]? = some (.cells #[.int .i64 0] 35 (0,0)) /\
   ((e=.returned (.tuple #[])/\Q 0 w')\/∃ n,e=.panicked [refusal n]/\Q n w')) :
  ClZ 86 #[.func (.func f) #[] b] w fun e w'=>∃ n w1,e=.returned (.int .i64 n)/\(Q n w1/\w1.heap[w.heap.size]? = some (.cells #[.int .i64 0] 35 (0,0)))/\w'=w1.setCell ⟨w.heap.size,0,none⟩ (.int .i64 n):=by
 go_enter_defers func86,ntmps86
 go_wp2_with fail;refine h.mono ?_;rintro e w1 ⟨hb,(⟨rfl,hq⟩ | ⟨n,rfl,hq⟩)⟩
 ·have hc:w1.cell? ⟨w.heap.size,0,none⟩=some (.int .i64 0):=by simp [World.cell?,hb]
  have hz:w1.frozen? ⟨w.heap.size,0,none⟩=false:=by simp [World.frozen?,hb]
  clear h;go_wp2_with fail;refine leaves_cons (f:=137) (args:=#[.pointer (some ⟨w.heap.size,0,none⟩)]) (by simp) (by simp [go_sem]) ?_;refine (ym ⟨w.heap.size,0,none⟩ _).mono ?_;rintro e u' c ⟨rfl,rfl,rfl⟩;have a:(w1.setCell ⟨w.heap.size,0,none⟩ (.int .i64 0)).cell? ⟨w.heap.size,0,none⟩=some (.int .i64 0):=World.cell?_setCell_same' _ _ _ (by rw [hc];rfl);simp [Leaves,settle,results,results86,go_sem,a];exact ⟨_,⟨hq,hb⟩,rfl⟩
 ·have hc:w1.cell? ⟨w.heap.size,0,none⟩=some (.int .i64 0):=by simp [World.cell?,hb]
  have hz:w1.frozen? ⟨w.heap.size,0,none⟩=false:=by simp [World.frozen?,hb]
  clear h;refine leaves_cons (f:=137) (args:=#[.pointer (some ⟨w.heap.size,0,none⟩)]) (by simp) (by simp [go_sem]) ?_;refine (G6 ⟨w.heap.size,0,none⟩ 0 n [] _ hc hz).mono ?_;rintro e u' c ⟨rfl,rfl,rfl⟩;have a:(w1.setCell ⟨w.heap.size,0,none⟩ (.int .i64 n)).cell? ⟨w.heap.size,0,none⟩=some (.int .i64 n):=World.cell?_setCell_same' _ _ _ (by rw [hc];rfl);simp [Leaves,settle,results,results86,go_sem,a];exact ⟨_,⟨hq,hb⟩,rfl⟩

theorem dJ (n:Int) (w:World):ClZ 90 #[.bool false,.int .i64 n] w fun e w'=>e=.returned (.tuple #[])/\w'=w:=by
 delta ClZ;go_in;go_wp2;go_end0
 exact ⟨rfl,rfl⟩

theorem eJ (n:Int) (w:World):ClZ 90 #[.bool true,.int .i64 n] w fun e w'=>e=.panicked [refusal n]/\w'=w:=by
 delta ClZ;go_in;go_wp2;exact ⟨rfl,rfl,rfl⟩

theorem mY (ao:OA) (n a:Nat) (w:World):ClZ 144 #[.slice ao n a,.int .i64 0] w fun e w'=>e=.returned (.slice ao n a)/\w'=w:=by
 have hR:=dJ 0 w;delta ClZ;go_in;go_wp2_with fail;refine hR.mono ?_;rintro e w' ⟨rfl,rfl⟩;go_wp2;go_ret;exact ⟨rfl,rfl⟩

theorem iL (x:Nat):val [x]=x:=by simp [val]

theorem pj {x:Nat} (hx:x<18446744073709551616:=by omega):digs x 1=[x]:=jt x 0 hx

theorem qH {V:Nat} (h:V<18446744073709551616^n) (hn:n<=300):ee V (n:Int)=0/\eP V (n:Int)=digs V n:=by
 have hw:=(aC V n).2 h;have e:ee V (n:Int)=0:=by
  unfold ee;rw [aK,aK]
 exact ⟨e,by unfold eP;rw [ai e];rfl⟩

theorem ik (V:Nat):am V=(aN V+63)/64:=by
 unfold am aN;by_cases h:V=0
 ·rw [ai h,ai h]
 ·rw [ar h,ar h];omega

theorem lZ (n s q:Nat) (hq:q=(n+s-1)/s) (hn:n<=1000000000000) (b:0<s) (hs:s<=64) (w:World) :
  ClZ 92 #[.int .i64 (n:Int),.int .i64 (s:Int)] w fun e w'=>e=.returned (.int .i64 (q:Int))/\w'=w:=by
 have g1:((n:Int)+(s:Int)-1)/(s:Int)=(q:Int):=by
  rw [hq];have e:(n:Int)+(s:Int)-1=((n+s-1:Nat):Int):=by omega
  rw [e];rfl
 have g2:((n:Int)+(s:Int)-1).tdiv (s:Int)=(q:Int):=by rw [Int.tdiv_eq_ediv_of_nonneg (by omega)];exact g1
 have g3:¬ (s:Int)=0:=by omega
 have a:q<=1000000000100:=by rw [hq];exact aI (em _ _) (by omega)
 clear hq;delta ClZ;go_in;go_wp2_with fail;go_ret;first | exact ⟨rfl,rfl⟩ | exact ⟨by simp_all,rfl⟩

theorem yp (ao:OA) (L a:Nat) (xs:LN) (w:World) (hu:Row .u64 w (.slice ao L a) xs) (hd:Digs xs) :
  ClZ 196 #[.slice ao L a] w fun e w'=>e=.returned (.bool (decide (val xs%2=1)))/\w'=w:=by
 have J:=Jz _ xs 0 w hu hd;have hb:uk (val xs) 0=val xs%2:=by
  have:=kH (val xs) 0;rw [cP,fC] at this;exact this
 rw [hb] at J;obtain ⟨V,hV⟩:=aj (val xs)
 rw [<- hV] at J ⊢;clear hu hd hb hV;have h2:V%2=0\/V%2=1:=by omega
 rcases h2 with h2 | h2
 ·rw [h2] at J ⊢;delta ClZ;go_in;go_wp2_with fail;refine J.mono ?_;rintro e w' ⟨rfl,rfl⟩;go_wp2;go_ret;exact ⟨rfl,rfl⟩
 ·rw [h2] at J ⊢;delta ClZ;go_in;go_wp2_with fail;refine J.mono ?_;rintro e w' ⟨rfl,rfl⟩;go_wp2;go_ret;exact ⟨rfl,rfl⟩

theorem sq (x:Nat) (hx:x<18446744073709551616) (w:World) :
  ClZ 106 #[.int .u64 (x:Nat),.int .i64 1] w fun r w'=>∃ zo zc,r=.returned (.slice zo 1 zc)/\Row .u64 w' (.slice zo 1 zc) [x]/\Kept af w w':=by
 refine (Gw x hx 1 w).mono ?_;rintro e w' ⟨v',rfl,hr,k⟩;rw [show jL 1=1 from rfl,pj hx] at hr;obtain ⟨zo,zn,zc,rfl,hl,_,_,_,_⟩:=hr.open;obtain rfl:1=zn:=hl.o;exact ⟨_,_,rfl,hr,k⟩

theorem oO (ao:OA) (L a:Nat) (xs:LN) (y:Nat) (hy:y<18446744073709551616) (R:Bool) (hR:R=decide (val xs<y)) (w:World) (hu:Row .u64 w (.slice ao L a) xs) (hd:Digs xs) :
  ClZ 195 #[.slice ao L a,.int .u64 (y:Nat)] w fun e w'=>e=.returned (.bool R)/\Kept af w w':=by
 have JW:=sq y hy w;have JC:HzD (∀ W u,Kept af w W->Row .u64 W u [y]->ClZ 60 #[.slice ao L a,u] W fun e w'=>e=.returned (.int .i64 (cY (val xs) y))/\Kept af w w'):=fun W u k hr=>by
  have h:=ol _ _ xs [y] W (hu.g k) hr hd (Digs.one hy);rw [iL] at h;refine h.mono ?_;rintro e w' ⟨rfl,k'⟩;exact ⟨rfl,k.trans k'⟩
 obtain ⟨V,hV⟩:=aj (val xs)
 rw [<- hV] at JC hR;clear hu hd hV;have h3:V<y\/V=y\/y<V:=by omega
 rcases h3 with h3 | h3 | h3
 ·rw [fh h3] at JC;obtain rfl:R=true:=by rw [hR];exact dV h3
  clear hR h3;delta ClZ;go_in;go_wp2_with fail;refine JW.mono ?_;rintro e w1 ⟨zo,zc,rfl,hr,k⟩;have J:=JC.o _ _ k hr;clear JW;go_wp2_with fail;refine J.mono ?_;rintro e w2 ⟨rfl,k2⟩;have HK:=aa k2;clear J k2 k;go_wp2;go_ret;exact ⟨rfl,HK.o⟩
 ·rw [jz h3] at JC;obtain rfl:R=false:=by rw [hR];exact cI (by omega)
  clear hR h3;delta ClZ;go_in;go_wp2_with fail;refine JW.mono ?_;rintro e w1 ⟨zo,zc,rfl,hr,k⟩;have J:=JC.o _ _ k hr;clear JW;go_wp2_with fail;refine J.mono ?_;rintro e w2 ⟨rfl,k2⟩;have HK:=aa k2;clear J k2 k;go_wp2;go_ret;exact ⟨rfl,HK.o⟩
 ·rw [jA h3] at JC;obtain rfl:R=false:=by rw [hR];exact cI (by omega)
  clear hR h3;delta ClZ;go_in;go_wp2_with fail;refine JW.mono ?_;rintro e w1 ⟨zo,zc,rfl,hr,k⟩;have J:=JC.o _ _ k hr;clear JW;go_wp2_with fail;refine J.mono ?_;rintro e w2 ⟨rfl,k2⟩;have HK:=aa k2;clear J k2 k;go_wp2;go_ret;exact ⟨rfl,HK.o⟩

theorem EZ (ao:OA) (L a:Nat) (xs:LN) (X n:Nat) (hX:X=val xs) (hn:n<=300) (hf:X<18446744073709551616^n) (w:World) (hu:Row .u64 w (.slice ao L a) xs) (hd:Digs xs) :
  ClZ 146 #[.slice ao L a,.int .i64 (n:Nat)] w fun e w'=>∃ vo vc,e=.returned (.slice vo n vc)/\Row .u64 w' (.slice vo n vc) (digs X n)/\Fresh w (.slice vo n vc)/\Kept af w w':=by
 have J:=vw _ xs (n:Nat) w hu hd;rw [<- hX] at J;obtain ⟨e1,e2⟩:=qH hf hn;rw [e1,e2] at J;clear hu hd e1 e2 hX hf;delta ClZ;go_in;go_wp2_with fail;refine J.mono ?_;rintro e w1 ⟨v,rfl,hr,b,k1⟩;obtain ⟨vo,vn,vc,rfl,hl,_,_,_,_⟩:=hr.open;obtain rfl:n=vn:=by rw [<- hl.o,ag]
 have HR:=aa hr;have HN:=aa b;have HK:=aa k1;have JS:=mY vo n vc w1;clear J hr b k1 hl;go_wp2_with fail;refine JS.mono ?_;rintro e w2 ⟨rfl,rfl⟩;clear JS;go_wp2;go_ret;exact ⟨_,_,rfl,HR.o,HN.o,HK.o⟩

theorem sm (ao:OA) (L a:Nat) (xs:LN) (X n:Nat) (hX:X=val xs) (hn:n=am X) (d:n<=300) (w:World) (hu:Row .u64 w (.slice ao L a) xs) (hd:Digs xs) (hL:xs.length<=1000) :
  ClZ 140 #[.slice ao L a] w fun e w'=>∃ vo vc,e=.returned (.slice vo n vc)/\Row .u64 w' (.slice vo n vc) (digs X n)/\Fresh w (.slice vo n vc)/\Kept af w w':=by
 have JB:=iO _ xs w hu hd;rw [<- hX] at JB;have f:aN X<=64*xs.length:=(bh _ _).2 (by rw [aW,hX];exact aE (by omega) hd);have JP:=lZ (aN X) 64 n (by rw [hn,ik];rfl) (by omega) (by omega) (by omega) w;have JF:=EZ ao L a xs X n hX d ((aC X n).1 (by omega)) w hu hd;obtain ⟨b,hb⟩:=aj (aN X)
 rw [<- hb] at JB JP;clear hu hd f hb hX hn hL d;delta ClZ;go_in;go_wp2_with fail;refine JB.mono ?_;rintro e w1 ⟨rfl,rfl⟩;clear JB;go_wp2_with fail;refine JP.mono ?_;rintro e w1 ⟨rfl,rfl⟩;clear JP;go_wp2_with fail;refine JF.mono ?_;rintro e w1 ⟨vo,vc,rfl,hr,c,k1⟩;have HR:=aa hr;have HN:=aa c;have HK:=aa k1;clear JF hr c k1;go_wp2;go_ret;exact ⟨_,_,rfl,HR.o,HN.o,HK.o⟩

theorem zJ (ao:OA) (L b:Nat) (xs:LN) (X:Nat) (hX:X=val xs) (h1:1<=X) (a:xs.length=L) (i:L<=300) (w:World) (hu:Row .u64 w (.slice ao L b) xs) (hd:Digs xs) :
  ClZ 148 #[.slice ao L b] w fun e w'=>∃ vo vc,e=.returned (.slice vo L vc)/\Row .u64 w' (.slice vo L vc) (digs (X-1) L)/\Kept af w w':=by
 have g:1<=L:=by
  rcases cE L with h | h
  ·rw [h] at a;rw [ml.1 a] at hX;have:val []=0:=rfl;omega
  ·exact h
 have JW:=sq 1 (by omega) w;have JS:HzD (∀ W u,Kept af w W->Row .u64 W u [1]->ClZ 176 #[.pointer none,.slice ao L b,u] W fun e w'=>∃ vo vc c,e=.returned (.tuple #[.slice vo L vc,.int .u64 (c:Nat)])/\Row .u64 w' (.slice vo L vc) (digs (X-1) L)/\Kept af w w'):=fun W u k hr=>by
  have h:=Jr _ _ xs [1] W (hu.g k) hr hd (Digs.one (by omega)) (by omega) (by show 1<=_;omega);rw [iL,<- hX,a,show max L [1].length=L by show max L 1=L;omega] at h;have es:gV X 1 L=X-1:=by
   unfold gV;rw [aK]
  rw [es] at h;refine h.mono ?_;rintro e w' ⟨v',rfl,d,k'⟩;obtain ⟨vo,vn,vc,rfl,hl,_,_,_,_⟩:=d.open;obtain rfl:L=vn:=by rw [<- hl.o,ag]
  exact ⟨_,_,_,rfl,d,k.trans k'⟩
 clear hu hd hX h1 a;delta ClZ;go_in;go_wp2_with fail;refine JW.mono ?_;rintro e w1 ⟨zo,zc,rfl,hr,k⟩;have J:=JS.o _ _ k hr;clear JW;go_wp2_with fail;refine J.mono ?_;rintro e w2 ⟨vo,vc,c,rfl,f,k2⟩;have HR:=aa f;have HK:=aa k2;clear J f k2 k hr;go_wp2;go_ret;exact ⟨_,_,rfl,HR.o,HK.o⟩

theorem Ji (ao bo:OA) (L M b d:Nat) (xs ys:LN) (X Y:Nat) (hX:X=val xs) (hY:Y=val ys) (l:0<Y) (hL:L<=300) (hM:M<=300) (w:World) (hu:Row .u64 w (.slice ao L b) xs) (hv:Row .u64 w (.slice bo M d) ys) (f:Digs xs) (g:Digs ys) :
  ClZ 200 #[.slice ao L b,.slice bo M d] w fun e w'=>∃ vo vc,e=.returned (.slice vo L vc)/\Row .u64 w' (.slice vo L vc) (digs (X/Y) L)/\Kept af w w':=by
 have hE:jY (val ys) L M=0:=(iz (X:=X) ⟨hL,hM⟩ (by rw [<- hY];omega)).1;have hQ:pF X (val ys) L M=digs (X/val ys) L:=(iz (X:=X) ⟨hL,hM⟩ (by rw [<- hY];omega)).2.1;have hR:lF X (val ys) L M=digs (X%val ys) M:=(iz (X:=X) ⟨hL,hM⟩ (by rw [<- hY];omega)).2.2;have J:=yH ao bo L M b d xs ys 0 hE.symm w hu hv f g;rw [<- hX,hQ,hR,<- hY] at J;clear hu hv f g hE hQ hR hX hY;delta ClZ;go_in;go_wp2_with fail;refine J.mono ?_;rintro e w1 ⟨v1,v2,rfl,h1,h2,k1⟩;obtain ⟨qo,qn,qc,rfl,h,_,_,_,_⟩:=h1.open;obtain rfl:L=qn:=by rw [<- h.o,ag]
 obtain ⟨so,sn,sc,rfl,i,_,_,_,_⟩:=h2.open;obtain rfl:M=sn:=by rw [<- i.o,ag]
 have j:=aa h1;have k:=aa h2;have HK:=aa k1;have JS:=fun a n c=>mY a n c w1
 clear J h1 h2 k1 h i;go_wp2_with fail;refine (JS _ _ _).mono ?_;rintro e w2 ⟨rfl,rfl⟩;clear JS;go_wp2;go_ret;exact ⟨_,_,rfl,j.o,HK.o⟩

theorem zK (ao bo:OA) (L M b d:Nat) (xs ys:LN) (X Y:Nat) (hX:X=val xs) (hY:Y=val ys) (l:0<Y) (hL:L<=300) (hM:M<=300) (w:World) (hu:Row .u64 w (.slice ao L b) xs) (hv:Row .u64 w (.slice bo M d) ys) (f:Digs xs) (g:Digs ys) :
  ClZ 147 #[.slice ao L b,.slice bo M d] w fun e w'=>∃ vo vc,e=.returned (.slice vo M vc)/\Row .u64 w' (.slice vo M vc) (digs (X%Y) M)/\Kept af w w':=by
 have hE:jY (val ys) L M=0:=(iz (X:=X) ⟨hL,hM⟩ (by rw [<- hY];omega)).1;have hQ:pF X (val ys) L M=digs (X/val ys) L:=(iz (X:=X) ⟨hL,hM⟩ (by rw [<- hY];omega)).2.1;have hR:lF X (val ys) L M=digs (X%val ys) M:=(iz (X:=X) ⟨hL,hM⟩ (by rw [<- hY];omega)).2.2;have J:=yH ao bo L M b d xs ys 0 hE.symm w hu hv f g;rw [<- hX,hQ,hR,<- hY] at J;clear hu hv f g hE hQ hR hX hY;delta ClZ;go_in;go_wp2_with fail;refine J.mono ?_;rintro e w1 ⟨v1,v2,rfl,h1,h2,k1⟩;obtain ⟨qo,qn,qc,rfl,h,_,_,_,_⟩:=h1.open;obtain rfl:L=qn:=by rw [<- h.o,ag]
 obtain ⟨so,sn,sc,rfl,i,_,_,_,_⟩:=h2.open;obtain rfl:M=sn:=by rw [<- i.o,ag]
 have k:=aa h1;have j:=aa h2;have HK:=aa k1;have JS:=fun a n c=>mY a n c w1
 clear J h1 h2 k1 h i;go_wp2_with fail;refine (JS _ _ _).mono ?_;rintro e w2 ⟨rfl,rfl⟩;clear JS;go_wp2;go_ret;exact ⟨_,_,rfl,j.o,HK.o⟩

theorem Cv (ao bo:OA) (n ac K l bc:Nat) (w:World):ClZ 198 #[.agg (mzA ao n ac K bo l bc),.int .i64 0] w fun e w'=>e=.returned (.agg (mzA ao n ac K bo l bc))/\Kept af w w':=by
 have hR:=dJ 0;obtain ⟨W,hW⟩:=aj ((w.alloc (.cells (mzA ao n ac K bo l bc) 71)).alloc (.cells #[.slice none 0 0,.int .u64 0,.slice none 0 0] 71))
 have k0:Kept af w W:=by rw [hW];exact ((ah af w).alloc _).alloc _
 have b1:W.heap[w.heap.size]? = some (.cells (mzA ao n ac K bo l bc) 71 (0,0)):=by rw [hW];exact aw (heap_alloc_new _ _)
 have b2:W.heap[w.heap.size+1]? = some (.cells #[.slice none 0 0,.int .u64 0,.slice none 0 0] 71 (0,0)):=by
  rw [hW];have:=heap_alloc_new (w.alloc (.cells (mzA ao n ac K bo l bc) 71)) (.cells #[.slice none 0 0,.int .u64 0,.slice none 0 0] 71)
  rwa [World.size_alloc] at this
 obtain ⟨c0,c1,c2⟩:=ax b1;obtain ⟨f0,f1,f2⟩:=kC b2;obtain ⟨d0,d1,d2⟩:=ax (tE b2 (.slice ao n ac) (.int .u64 (K:Nat)) (.slice bo l bc));obtain ⟨g0,g1,g2⟩:=ax b2;have a:=aa (k0.next (mO W (w.heap.size+1) (.slice ao n ac) (.int .u64 (K:Nat)) (.slice bo l bc)) (fun x hx e=>by omega));have HW:=aa hW;clear hW k0 b1 b2;delta ClZ;go_in;go_wp2_with (rw [<- HW.o]);refine (hR W).mono ?_;rintro e w1 ⟨rfl,rfl⟩;clear hR;go_wp2_with fail;exact bodyPost_ret (v:=.agg (mzA ao n ac K bo l bc)) (by simp [results,results198,go_sem,d0,d1,d2]) rfl ⟨rfl,a.o⟩

theorem Hg (no dO po qo c g j:OA) (nl nc en dl dc pl pc ql qc b a f d i h:Nat) (w:World):ClZ 88 #[.agg #[.slice no nl nc,.int .u64 (en:Nat),.slice dO dl dc,.slice po pl pc,.slice qo ql qc,.slice c b a,.slice g f d,.slice j i h],.int .i64 0] w fun e w'=>e=.returned (.agg #[.slice no nl nc,.int .u64 (en:Nat),.slice dO dl dc,.slice po pl pc,.slice qo ql qc,.slice c b a,.slice g f d,.slice j i h])/\Kept af w w':=by
 have hR:=dJ 0;obtain ⟨W,hW⟩:=aj ((w.alloc (.cells #[.slice no nl nc,.int .u64 (en:Nat),.slice dO dl dc,.slice po pl pc,.slice qo ql qc,.slice c b a,.slice g f d,.slice j i h] 26)).alloc (.cells zeroKey 26))
 have k0:Kept af w W:=by rw [hW];exact ((ah af w).alloc _).alloc _
 have b1:W.heap[w.heap.size]? = some (.cells #[.slice no nl nc,.int .u64 (en:Nat),.slice dO dl dc,.slice po pl pc,.slice qo ql qc,.slice c b a,.slice g f d,.slice j i h] 26 (0,0)):=by rw [hW];exact aw (heap_alloc_new _ _)
 have b2:W.heap[w.heap.size+1]? = some (.cells zeroKey 26 (0,0)):=by
  rw [hW];have:=heap_alloc_new (w.alloc (.cells #[.slice no nl nc,.int .u64 (en:Nat),.slice dO dl dc,.slice po pl pc,.slice qo ql qc,.slice c b a,.slice g f d,.slice j i h] 26)) (.cells zeroKey 26)
  rwa [World.size_alloc] at this
 obtain ⟨c0,c1,c2,c3,c4,c5,c6,c7⟩:=aZ b1;have f0:=cL b2 0;have f1:=cL b2 1;have f2:=cL b2 2;have f3:=cL b2 3;have f4:=cL b2 4;have f5:=cL b2 5;have f6:=cL b2 6;have f7:=cL b2 7;obtain ⟨k,l,-⟩:=mC k0 (by omega) b2 (.slice no nl nc) (.int .u64 (en:Nat)) (.slice dO dl dc) (.slice po pl pc) (.slice qo ql qc) (.slice c b a) (.slice g f d) (.slice j i h);unfold ow at k l;obtain ⟨d0,d1,d2,d3,d4,d5,d6,d7⟩:=aZ k;obtain ⟨g0,g1,g2,g3,g4,g5,g6,g7⟩:=aZ b2;have m:=aa l;have HW:=aa hW;clear hW k0 b1 b2 k l;unfold zeroKey at HW;delta ClZ;go_in;go_wp2_with (rw [<- HW.o]);refine (hR W).mono ?_
 rintro e w1 ⟨rfl,rfl⟩;clear hR;go_wp2_with fail;exact bodyPost_ret (v:=.agg #[.slice no nl nc,.int .u64 (en:Nat),.slice dO dl dc,.slice po pl pc,.slice qo ql qc,.slice c b a,.slice g f d,.slice j i h]) (by simp [results,results88,go_sem,d0,d1,d2,d3,d4,d5,d6,d7]) rfl ⟨rfl,m.o⟩

theorem E4 (no dO po qo c g j:OA) (nl nc en dl dc pl pc ql qc b a f d i h:Nat) (E:Nat) (hE:E≠0) (w:World):ClZ 88 #[.agg #[.slice no nl nc,.int .u64 (en:Nat),.slice dO dl dc,.slice po pl pc,.slice qo ql qc,.slice c b a,.slice g f d,.slice j i h],.int .i64 (E:Nat)] w fun e w'=>e=.panicked [refusal (E:Nat)]/\Kept af w w':=by
 have hR:=eJ (E:Nat);obtain ⟨W,hW⟩:=aj ((w.alloc (.cells #[.slice no nl nc,.int .u64 (en:Nat),.slice dO dl dc,.slice po pl pc,.slice qo ql qc,.slice c b a,.slice g f d,.slice j i h] 26)).alloc (.cells zeroKey 26))
 have k0:Kept af w W:=by rw [hW];exact ((ah af w).alloc _).alloc _
 have b1:W.heap[w.heap.size]? = some (.cells #[.slice no nl nc,.int .u64 (en:Nat),.slice dO dl dc,.slice po pl pc,.slice qo ql qc,.slice c b a,.slice g f d,.slice j i h] 26 (0,0)):=by rw [hW];exact aw (heap_alloc_new _ _)
 have b2:W.heap[w.heap.size+1]? = some (.cells zeroKey 26 (0,0)):=by
  rw [hW];have:=heap_alloc_new (w.alloc (.cells #[.slice no nl nc,.int .u64 (en:Nat),.slice dO dl dc,.slice po pl pc,.slice qo ql qc,.slice c b a,.slice g f d,.slice j i h] 26)) (.cells zeroKey 26)
  rwa [World.size_alloc] at this
 obtain ⟨c0,c1,c2,c3,c4,c5,c6,c7⟩:=aZ b1;have hb:((E:Int) != 0)=true:=by simp;omega
 have k:=aa k0;have HW:=aa hW;clear hW k0 b1 b2;unfold zeroKey at HW;delta ClZ;go_in;go_wp2_with (rw [<- HW.o]);try rw [hb]
 refine (hR W).mono ?_;rintro e w1 ⟨rfl,rfl⟩;exact ⟨rfl,rfl,k.o⟩

theorem sl (f:Nat) (a:Array Value) (w:World) (E:Nat) (he:∀ args w,(callFunc f args).run prog w=.ok (.enter f args) w)
  (h:ClZ f a (w.alloc (.cells #[.int .i64 0] 35)) fun e w'=>((E=0/\e=.returned (.tuple #[]))\/(E≠0/\e=.panicked [refusal (E:Nat)]))/\Kept af (w.alloc (.cells #[.int .i64 0] 35)) w') :
  ClZ 86 #[.func (.func f) #[] a] w fun e w'=>e=.returned (.int .i64 (E:Nat))/\Kept af w w':=by
 have xe:=heap_alloc_new w (.cells #[.int .i64 0] 35);refine (oe f a w (fun n W'=>n=(E:Nat)/\Kept af (w.alloc (.cells #[.int .i64 0] 35)) W') he (h.mono ?_)).mono ?_
 ·rintro e w' ⟨hc,k⟩;refine ⟨(k.block _ (lt_of_block xe) (fun f=>f)).trans xe,?_⟩;rcases hc with ⟨rfl,rfl⟩ | ⟨_,rfl⟩
  ·exact .inl ⟨rfl,rfl,k⟩
  ·exact .inr ⟨_,rfl,rfl,k⟩
 ·rintro e w' ⟨n,w1,rfl,⟨⟨rfl,k⟩,hb⟩,rfl⟩;exact ⟨rfl,(((ah af w).alloc _).trans k).setCell _ (fun h=>by simp at h) _⟩

theorem rG {xs:LN} (hd:Digs xs) (hp:0<val xs):xs.length=am (val xs)↔xs.length≠0/\xs.getD (xs.length-1) 0≠0:=by
 constructor
 ·intro h;have h0:xs.length≠0:=fun h0=>by
   rw [ml.1 h0] at hp;exact absurd hp (by decide)
  refine ⟨h0,fun ht=>?_⟩;obtain ⟨n,hn⟩:∃ n,xs.length=n+1:=⟨xs.length-1,by omega⟩
  have e:xs=xs.take n ++ [0]:=by
   have h1:=kh n xs;rw [eE (by omega:n<xs.length),jI] at h1;have h2:xs[n]'(by omega)=0:=by
    rw [hn,gF,aA,aS (by omega)] at ht;exact ht
   rw [h2] at h1;exact h1.symm
  have hv:val xs<18446744073709551616^n:=by
   rw [e,dG,df,aV];have:=aE (B:=18446744073709551616) (by omega) (hd.take n)
   rwa [aR,fT] at this
  have:=(aC (val xs) n).2 hv;omega
 ·rintro ⟨_,h⟩;exact oR hd (.inr h)

theorem ot {xs:LN} (hd:Digs xs) (hL:xs.length<=1000) (e:Nat):gU xs e=0↔(32<=aN (val xs)/\aN (val xs)<=8192)/\(xs.length=am (val xs)/\val xs%2=1)/\3<=e/\e<4294967296/\e%2=1:=by
 unfold gU;constructor
 ·intro h;by_cases hc:xs.length=0\/1000<xs.length\/xs.getD (xs.length-1) 0=0\/val xs%2=0\/aN (val xs)<32\/8192<aN (val xs)\/e<3\/e%2=0\/4294967296<=e
  ·rw [ai hc] at h;exact absurd h (by decide)
  ·have h0:0<val xs:=by omega
   have:=(rG hd h0).2 (by omega);omega
 ·rintro ⟨h1,h2,h3⟩;have h0:0<val xs:=by omega
  have:=(rG hd h0).1 h2.1;rw [aK]

theorem lJ (xs:LN) (e:Nat):gU xs e=0\/gU xs e=190:=by
 unfold gU
 split
 ·exact .inr rfl
 ·exact .inl rfl

theorem Hf (ao:OA) (L a:Nat) (xs:LN) (w:World) (hu:Row .u64 w (.slice ao L a) xs) (hd:Digs xs) (hL:L<=1000:=by omega) :
  ClZ 58 #[.slice ao L a] w fun e w'=>e=.returned (.int .i64 (fI (val xs):Nat))/\Kept af w w':=by
 obtain ⟨_,_,_,e1,hl,-,-,-,-⟩:=hu.open;cases e1
 have c:aN (val xs)<=64*xs.length:=(bh _ _).2 (by rw [aW];exact aE (by omega) hd);have JB:=iO _ xs w hu hd (by rw [hl.o];omega);have JP:=lZ (aN (val xs)) 8 (fI (val xs)) rfl (by rw [hl.o] at c;omega) (by omega) (by omega) w;generalize fI (val xs)=s at *;generalize aN (val xs)=b at *;clear hu hd hl c;delta ClZ;go_in;go_wp2_with fail;refine JB.mono ?_;rintro e w1 ⟨rfl,rfl⟩;clear JB;go_wp2_with fail;refine JP.mono ?_;rintro e w1 ⟨rfl,rfl⟩;clear JP;go_wp2;go_ret;exact ⟨rfl,ah _ _⟩

theorem og (ao:OA) (L a:Nat) (xs:LN) (X n:Nat) (hX:X=val xs) (hn:n=am X) (j:L<=300/\eI X) (w:World) (hu:Row .u64 w (.slice ao L a) xs) (hd:Digs xs) :
  ClZ 139 #[.slice ao L a] w fun e w'=>∃ vo vc,e=.returned (.slice vo n vc)/\Row .u64 w' (.slice vo n vc) (digs X n)/\Fresh w (.slice vo n vc)/\Kept af w w':=by
 obtain ⟨_,_,_,e1,hl,-,-,-,-⟩:=hu.open;cases e1
 obtain ⟨hL,h3,ho,hb⟩:=j;have i:n<=300:=by rw [hn];exact aI (cX (n:=128)) (by omega)
 have JB:=iO _ xs w hu hd (by rw [hl.o];omega);have JO:HzD (∀ W,Kept af w W->ClZ 196 #[.slice ao L a] W fun e w'=>e=.returned (.bool true)/\w'=W):=fun W k=>by
  have h:=yp ao L a xs W (hu.g k) hd;rw [<- hX,dV ho] at h;exact h
 have JL:=oO ao L a xs 3 (by omega) false (by symm;exact cI (by omega)) w hu hd;have JN:HzD (∀ W,Kept af w W->ClZ 140 #[.slice ao L a] W fun e w'=>∃ vo vc,e=.returned (.slice vo n vc)/\Row .u64 w' (.slice vo n vc) (digs X n)/\Fresh W (.slice vo n vc)/\Kept af W w'):=fun W k=>sm ao L a xs X n hX hn i W (hu.g k) hd (by rw [hl.o];omega)
 have hR:=dJ 190;rw [<- hX] at JB;obtain ⟨b,g⟩:=aj (aN X)
 rw [<- g] at JB hb;have g1:¬ (L:Int) > 300:=by omega
 have d:¬ (300:Int)<(L:Int):=by omega
 have g2:¬ (b:Int) > 8192:=by omega
 have f:¬ (8192:Int)<(b:Int):=by omega
 have d1:decide ((300:Int)<(L:Int))=false:=cI d;have d2:decide ((8192:Int)<(b:Int))=false:=cI f;clear hu hd hl hX hn h3 ho hb g i hL;delta ClZ;go_in;go_wp2_with fail;refine JB.mono ?_;rintro e w1 ⟨rfl,rfl⟩;clear JB;go_wp2_with fail;try rw [d2]
 refine (hR _).mono ?_;rintro e w1 ⟨rfl,rfl⟩;clear g1 d g2 f d1 d2;go_wp2_with fail;refine JL.mono ?_;rintro e w1 ⟨rfl,k1⟩;have J2:=JO.o _ k1;have c:=aa k1;clear JL k1;go_wp2_with fail;refine J2.mono ?_;rintro e w2 ⟨rfl,rfl⟩;clear J2;go_wp2_with fail;refine (hR _).mono ?_;rintro e w3 ⟨rfl,rfl⟩;have J3:=JN.o _ c.o;clear hR;go_wp2_with fail;refine J3.mono ?_;rintro e w4 ⟨vo,vc,rfl,hr,hf,k4⟩;have HR:=aa hr;have HF:=aa (hf.b c.o);have HK:=aa (c.o.trans k4);clear J3 hr hf k4;go_wp2;go_ret;exact ⟨_,_,rfl,HR.o,HF.o,HK.o⟩

theorem uS (ao:OA) (L c:Nat) (xs:LN) (X:Nat) (hX:X=val xs) (l:L<=1000000) (i:¬ (L<=300/\eI X)) (w:World) (hu:Row .u64 w (.slice ao L c) xs) (hd:Digs xs) :
  ClZ 139 #[.slice ao L c] w fun e w'=>e=.panicked [refusal 190]/\Kept af w w':=by
 obtain ⟨_,_,_,e1,hl,-,-,-,-⟩:=hu.open;cases e1
 have hR:=dJ 190;have hY:=eJ 190;by_cases hL:L<=300
 ·have a:X<3\/X%2=0\/8192<aN X:=by
   have h:¬ eI X:=fun h=>i ⟨hL,h⟩
   unfold eI at h;omega
  have JB:=iO _ xs w hu hd (by rw [hl.o];omega);have JO:HzD (∀ W,Kept af w W->ClZ 196 #[.slice ao L c] W fun e w'=>e=.returned (.bool (decide (X%2=1)))/\w'=W):=fun W k=>by
   have h:=yp ao L c xs W (hu.g k) hd;rw [<- hX] at h;exact h
  have JL:=oO ao L c xs 3 (by omega) (decide (X<3)) (by rw [hX]) w hu hd;rw [<- hX] at JB;obtain ⟨b,j⟩:=aj (aN X)
  rw [<- j] at JB a;have g1:¬ (L:Int) > 300:=by omega
  have d:¬ (300:Int)<(L:Int):=by omega
  have d1:decide ((300:Int)<(L:Int))=false:=cI d;clear hu hd hl hX j i;by_cases h2:8192<b
  ·have g2:(b:Int) > 8192:=by omega
   have f:(8192:Int)<(b:Int):=by omega
   have d2:decide ((8192:Int)<(b:Int))=true:=dV f;clear a h2 JO JL hR;delta ClZ;go_in;go_wp2_with fail;refine JB.mono ?_;rintro e w1 ⟨rfl,rfl⟩;clear JB;go_wp2_with fail;try rw [d2]
   refine (hY _).mono ?_;rintro e w1 ⟨rfl,rfl⟩;exact ⟨rfl,rfl,ah _ _⟩
  ·have g2:¬ (b:Int) > 8192:=by omega
   have f:¬ (8192:Int)<(b:Int):=by omega
   have d2:decide ((8192:Int)<(b:Int))=false:=cI f;by_cases h3:X<3
   ·rw [dV h3] at JL;clear a h2 JO h3;delta ClZ;go_in;go_wp2_with fail;refine JB.mono ?_;rintro e w1 ⟨rfl,rfl⟩;clear JB;go_wp2_with fail;try rw [d2]
    refine (hR _).mono ?_;rintro e w1 ⟨rfl,rfl⟩;clear g1 d g2 f d1 d2 hR;go_wp2_with fail;refine JL.mono ?_;rintro e w1 ⟨rfl,k1⟩;have g:=aa k1;clear JL k1;go_wp2_with fail;refine (hY _).mono ?_;rintro e w2 ⟨rfl,rfl⟩;exact ⟨rfl,rfl,g.o⟩
   ·rw [cI h3] at JL;have h4:¬ X%2=1:=by omega
    rw [cI h4] at JO;clear a h2 h3 h4;delta ClZ;go_in;go_wp2_with fail;refine JB.mono ?_;rintro e w1 ⟨rfl,rfl⟩;clear JB;go_wp2_with fail;try rw [d2]
    refine (hR _).mono ?_;rintro e w1 ⟨rfl,rfl⟩;clear g1 d g2 f d1 d2 hR;go_wp2_with fail;refine JL.mono ?_;rintro e w1 ⟨rfl,k1⟩;have J2:=JO.o _ k1;have g:=aa k1;clear JL k1;go_wp2_with fail;refine J2.mono ?_;rintro e w2 ⟨rfl,rfl⟩;clear J2;go_wp2_with fail;refine (hY _).mono ?_;rintro e w3 ⟨rfl,rfl⟩;exact ⟨rfl,rfl,g.o⟩
 ·have g1:(L:Int) > 300:=by omega
  have d:(300:Int)<(L:Int):=by omega
  have d1:decide ((300:Int)<(L:Int))=true:=dV d;clear hu hd hl hX i hL l hR;delta ClZ;go_in;go_wp2_with fail;try rw [d1]
  refine (hY _).mono ?_;rintro e w1 ⟨rfl,rfl⟩;exact ⟨rfl,rfl,ah _ _⟩

def IL (P:Prop) (n A M E T F:Nat) (RL:LN):Prop:=((E=0/\P)\/(E=1/\¬ P))/\(E=0->Gf A M T F)/\(E=1->F=0)/\RL=if E=0 then digs T n else []

theorem yD {w w':World} {P:Prop} {A M is c:Nat} {v':Value} (h:tX w none P n A M w' v' is c):∃ T RL,Row .u64 w' v' RL/\Kept af w w'/\IL P n A M c T is RL:=by
 obtain ⟨zs,m,o',h1,_,d,hp,hn⟩:=h;have k:=d.none.2;by_cases hP:P
 ·obtain ⟨rfl,_,Y,rfl,hY⟩:=hp hP;exact ⟨Y,_,h1,k,.inl ⟨rfl,hP⟩,fun _=>hY,fun h=>absurd h (by decide),rfl⟩
 ·obtain ⟨rfl,rfl,rfl⟩:=hn hP;exact ⟨0,[],h1,k,.inr ⟨rfl,hP⟩,fun h=>absurd h (by decide),fun _=>rfl,rfl⟩

theorem JJ (ao bo xo:OA) (n l K a b N1 xc:Nat) (ms rs xs:LN) (w:World) (hm:Row .u64 w (.slice ao n a) ms) (hr:Row .u64 w (.slice bo l b) rs) (hx:Row .u64 w (.slice xo N1 xc) xs) (f:Digs ms) (i:Digs rs) (d:Digs xs) (hK:K<18446744073709551616) (g:n<=1000000:=by omega) :
  ClZ 65 #[.pointer none,.agg (mzA ao n a K bo l b),.slice xo N1 xc] w fun e w'=>∃ (v':Value) (F E:Nat),e=.returned (.tuple #[v',.int .u64 (F:Nat),.int .i64 (E:Nat)])/\∃ T RL,Row .u64 w' v' RL/\Kept af w w'/\HzD (IL (okMod ms K rs/\(N1=n/\val xs<val ms)) n (val xs) (val ms) E T F RL):=by
 refine (iOf none ao bo xo n l K a b N1 xc ms rs xs w (TrRoom.none _ _ (by omega)) (RowT.none hm) (RowT.none hr) (RowT.none hx) f i d hK g (.inr rfl)).mono ?_;rintro e w' ⟨v',is,c,rfl,h⟩;obtain ⟨T,RL,h1,h2,h3⟩:=yD h;exact ⟨v',is,c,rfl,T,RL,h1,h2,h3⟩

end Go.Proofs.YtpkmoamgpjcdeaaGreatDoor
