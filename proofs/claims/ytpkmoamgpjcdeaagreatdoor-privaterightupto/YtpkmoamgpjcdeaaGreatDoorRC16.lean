/- Put together of: QuG QuH LimN L5B LimO Kex1 Kex2 Law10. -/
import Derived.Test.YtpkmoamgpjcdeaaGreatDoorRC13
import Derived.Test.YtpkmoamgpjcdeaaGreatDoorRC15

namespace Go.Proofs.YtpkmoamgpjcdeaaGreatDoor
open _root_.Go.Proofs.Tryz
set_option maxRecDepth 100000
set_option maxHeartbeats 4000000
open Go.RowKit
variable {n:Nat}

theorem yq {Y M K:Nat} (h0:0<Y) (hM:Y<18446744073709551616^M) (hK:K=(aL Y+63)/64):0<K/\K<=M/\Y<18446744073709551616^K/\18446744073709551616^(K-1)<=Y:=by
 have h1:¬ aL Y<=0:=fun h=>by have:=(bf Y 0).1 h;simp at this;omega
 have h2:=(bf Y (aL Y)).1 (leR _);have h3:¬ Y<2^(aL Y-1):=fun h=>by have:=(bf Y (aL Y-1)).2 h;omega
 rw [B64] at hM;have h4:=(bf Y (64*M)).2 hM;have a:0<K:=by omega
 refine ⟨a,by omega,?_,?_⟩
 ·rw [B64];exact bg h2 (bi (by omega) (by omega))
 ·rw [B64];exact aH (bi (by omega) (by omega)) (Nat.le_of_not_lt h3)

theorem He (ao bo:OA) (L M aB ar:Nat) (xs ys:LN) (X Y:Nat) (hX:X=val xs) (hY:Y=val ys) (aX:0<Y) (w:World) (hu:Row .u64 w (.slice ao L aB) xs) (hv:Row .u64 w (.slice bo M ar) ys) (ce:Digs xs) (bS:Digs ys) (hL:L<=100000) (hM:M<=100000) :
  ClZ 235 #[.slice ao L aB,.slice bo M ar] w fun e w'=>∃ v1 v2,e=.returned (.tuple #[v1,v2]) /\
   OwnN .u64 24 w' w.heap.size v1 L (digs (X/Y) L)/\OwnN .u64 24 w' w.heap.size v2 M (digs (X%Y) M)/\Kept aa w w':=by
 obtain ⟨i0,cp,cq,cs,ct⟩:=info_parts Tryz.info24;obtain ⟨_,_,_,e1,cn,_,_,_,_⟩:=hu.open;cases e1
 obtain ⟨_,_,_,e1,bQ,_,_,_,_⟩:=hv.open;cases e1
 have eM:=af bQ.o;have bR:Y<18446744073709551616^M:=by rw [hY,<- bQ.o];exact aC (by omega) bS
 have co:HzD (X<18446744073709551616^L):=by unfold HzD;rw [hX,<- cn.o];exact aC (by omega) ce
 have bi:=fun W (k:Kept aa w W)=>iO _ ys W (hv.g k) bS (by rw [bQ.o];omega)
 rw [<- hY] at bi;obtain ⟨K,hK⟩:=aj ((aL Y+63)/64)
 obtain ⟨n1,n2,n3,n4⟩:=yq aX bR hK;have cQ:aL Y<=6400000:=by
  rw [B64] at bR;have:=(bf Y (64*M)).2 bR;omega
 generalize aL Y=bl at *;have gK:((bl:Int)+64-1)/64=(K:Int):=by omega
 have HU:=af hu;have HV:=af hv;have bP:=af ce;have az:=af bS;have HX:=af hX;have HY:=af hY;have aq:=af n3;have cm:=af n4;obtain ⟨CL,cc⟩:=aj (madeCells #[.int .u64 0] L)
 obtain ⟨CM,cd⟩:=aj (madeCells #[.int .u64 0] M)
 have bx:∀ W,(Instr.makeSlice 23 (.int .i64 (L:Int)) (.int .i64 (L:Int))).run prog W=.ok (.slice (some ⟨W.heap.size,0,none⟩) L L) (W.alloc (.cells CL 24)):=fun W=>by rw [cc];exact run_make_row (P:=prog) _ _ i0 _ underlying23 cp cq cs rfl _ _ L (by rw [ct];omega) (by omega) W
 have bz:∀ W,(Instr.makeSlice 23 (.int .i64 (M:Int)) (.int .i64 (M:Int))).run prog W=.ok (.slice (some ⟨W.heap.size,0,none⟩) M M) (W.alloc (.cells CM 24)):=fun W=>by rw [cd];exact run_make_row (P:=prog) _ _ i0 _ underlying23 cp cq cs rfl _ _ M (by rw [ct];omega) (by omega) W
 have bN:=af cc;have bO:=af cd;clear hu hv ce bS cn bQ hX hY bR hK n3 n4 cc cd;delta ClZ;go_in;go_wp2_with fail;go_region
 ·have ci:=ow w L M CL CM bN.o bO.o (by omega) (by omega);generalize ((w.alloc (.cells CL 24)).alloc (.cells CM 24)).drew=W1 at *;obtain ⟨ad,ae,k1⟩:=ci;clear bx bz bN bO;obtain ⟨_,_,_,e1,_,_,_,_,aw⟩:=(HV.o.g k1).open;cases e1
  go_wp2_with fail;refine (bi _ k1).mono ?_;rintro e w2 ⟨rfl,rfl⟩;clear bi;have a1:HzD (xs≠[]->∀ b,(Value.slice ao L aB).ownBlock=some b->b<w.heap.size):=fun h b hb=>HU.o.lt h b hb
  by_cases hK1:K=1
  ·subst hK1;have cw:((bl:Int)+64-1)/64=1:=gK;clear gK;obtain ⟨b2,r,rfl,cy⟩:=aw 0 (by omega);have bK:ys.getD 0 0=Y:=by
    rw [<- dr (by omega) az.o,<- HY.o,dig,cZ,fM];have:=aq.o;rw [ju] at this;exact aA this
   have cu:w2.cell? ⟨b2,r,none⟩=some (.int .u64 (Y:Nat)):=by rw [<- bK];exact cy
   have ab:Y<18446744073709551616:=by have:=aq.o;rwa [ju] at this
   obtain ⟨R,hR⟩:=aj (X%Y)
   have aJ:R<18446744073709551616:=by rw [hR];exact bG (aW _ aX) ab
   have O:=Jf w.heap.size w.heap.size L L ao aB xs (List.replicate L 0) X Y R HX.o hR ab aX w2 ad (by simp) (HU.o.g k1) bP.o (fun h b hb=>by have:=a1.o h b hb;omega) (by omega);obtain ⟨M1,bk⟩:∃ M1,M=M1+1:=⟨M-1,by omega⟩
   have ca:HzD (digs R M=(List.replicate M 0).set 0 R):=by unfold HzD;rw [bk,jp R M1 aJ,j9,lsZ]
   have b3:=af hR;clear aw cy bK bk hR;go_wp2_with fail;refine O.mono ?_;rintro e w3 ⟨rfl,q,k3⟩;have g:=k3.own ae (fun b hb e=>by simp [Value.ownBlock] at hb;omega);have cr:w3.cell? ⟨(w.heap.size+1),0,none⟩=some (.int .u64 0):=by
    rw [World.ownsRow.cellAt g 0 (by omega),bV,eG,bZ];rfl
   have fr:=World.ownsRow.frozenAt g 0;have bE:=(World.ownsRow.stored g 0 (.int .u64 (R:Int))).1;have kb:Kept (fun b=>b=(w.heap.size+1)) w3 (w3.setCell ⟨(w.heap.size+1),0,none⟩ (.int .u64 (R:Int))):=aE w3 (w.heap.size+1) _;have HQ:=af (kb.own q (fun b hb e=>by simp [Value.ownBlock] at hb;omega));have b1:HzD (OwnN .u64 24 (w3.setCell ⟨(w.heap.size+1),0,none⟩ (.int .u64 (R:Int))) w.heap.size (.slice (some ⟨(w.heap.size+1),0,none⟩) M M) M (digs (X%Y) M)):=by
    unfold HzD OwnN;rw [<- b3.o,ca.o,cI];exact bE
   have aF:=af ((k1.next k3 (fun x hx e=>by omega)).next kb (fun x hx e=>by omega));clear O g bE kb q k3 ad ae;go_wp2_with fail;go_ret2;exact ⟨_,_,rfl,HQ.o,b1.o,aF.o⟩
  ·have cv:((K:Int) == 1)=false:=by simp;omega
   have cx:¬ (K:Int)=1:=by omega
   obtain ⟨n,hn⟩:=aj (K-2)
   obtain ⟨nk,a2⟩:=aj (K-1)
   obtain ⟨b2,r,rfl,cy⟩:=aw nk (by omega);obtain ⟨t,ht⟩:=aj (Y/18446744073709551616^nk)
   have aY:Y<18446744073709551616^(nk+1):=by rw [show nk+1=K by omega];exact aq.o
   have E:0<18446744073709551616^nk:=aV;have bF:t<18446744073709551616:=by
    rw [ht,cS E,<- li];exact aY
   have ck:0<t:=by rw [ht];exact Nat.div_pos (by rw [a2];exact cm.o) E
   have bL:ys.getD nk 0=t:=by rw [<- dr (by omega) az.o,<- HY.o,dig,<- ht,aA bF]
   rw [bL] at cy;obtain ⟨s,hs⟩:=aj (64-aL t)
   obtain ⟨ap,v1,v2,v3⟩:=vf aY ht ck hs;rw [show nk+1=K by omega] at v1;have aI:=fun W=>bLz t bF W
   rw [<- hs] at aI;obtain ⟨V,hV⟩:=aj (Y*2^s)
   rw [<- hV] at v1 v2 v3;have b8:=af hV;obtain ⟨N,hN⟩:=aj (max L K+1)
   have gN:max (L:Int) (K:Int)+1=(N:Int):=by omega
   have cA:(K:Int)-1=(nk:Int):=by omega
   have cB:(nk:Int)<(M:Int):=by omega
   have cC:(K:Int)<=(M:Int):=by omega
   have bm:M<=ar:=by obtain ⟨_,_,_,e1,_,hh,_⟩:=HV.o.open;cases e1;exact hh
   have cD:(K:Int)<=(ar:Int):=by omega
   have hcut:∀ W,Kept aa w W->Row .u64 W (.slice (some ⟨b2,r,none⟩) K ar) (ys.take K):=fun W k=>(HV.o.g k).cut (by rw [eM.o];omega)
   have bJ:Y=val (ys.take K):=by rw [iR (by omega) az.o,<- HY.o,aA aq.o]
   have aK:=fun W (k:Kept aa w W)=>tw (some ⟨b2,r,none⟩) K ar (ys.take K) Y s K bJ ap W (hcut W k) (az.o.take K) (by omega) (leR _)
   have bn:=fun W (k:Kept aa w W)=>tw ao L aB xs X s N HX.o ap W (HU.o.g k) bP.o (by omega) (by omega)
   rw [<- hV] at aK;have H0:HzD (n=K-2/\nk=K-1/\N=max L K+1/\2<=K):=⟨hn,a2,hN,by omega⟩
   clear aw ht hs bL hV hcut bJ hn a2 hN E aY;go_wp2_with fail;refine (aI _).mono ?_;rintro e w3 ⟨rfl,rfl⟩;clear aI;go_wp2_with fail;refine (aK _ k1).mono ?_;rintro e w4 ⟨rfl,a6,k4⟩;have bc:=k1.trans k4;go_wp2_with fail;refine (bn _ bc).mono ?_;rintro e w5 ⟨rfl,F,k5⟩;have cl:=bc.trans k5;have ai:=k5.own a6 (fun _ _ f=>f);have A:=(k4.trans k5).own ad (fun _ _ f=>f);have B:=(k4.trans k5).own ae (fun _ _ f=>f);have am:w.heap.size+1<w3.heap.size:=by have h1:=fX ad;have h2:=fX ae;omega
   have an:w3.heap.size<w4.heap.size:=fX a6;clear aK bn a6 ad ae k1 bc;go_wp2_with fail;obtain ⟨T,hT⟩:=aj (L+1-K)
   have cf:=fX A;have cg:=fX B;have a7:w.heap.size+1<w3.heap.size:=am;have a8:w3.heap.size<w4.heap.size:=an;obtain ⟨gv,a0⟩:=aj w3.heap.size
   obtain ⟨gu,aZ⟩:=aj w4.heap.size
   have D:OwnN .u64 24 w5 w.heap.size (.slice (some ⟨gu,0,none⟩) N N) N (digs (X*2^s) N):=by
    rw [aZ];exact de F (fun b hb=>by simp [Value.ownBlock] at hb;omega)
   have bC:Row .u64 w5 (.slice (some ⟨gv,0,none⟩) K K) (digs V K):=by rw [a0];exact dt ai (ag _ _ _)
   rw [<- a0,<- aZ];have dq:w.heap.size≠gu/\(w.heap.size+1)≠gu/\gv≠gu/\gv≠w.heap.size/\w.heap.size≠(w.heap.size+1)/\w.heap.size<=gu:=by omega
   clear F ai a0 aZ a8 a7 cf cg;obtain ⟨H,I,J,cN⟩:=H0.o;have aR:0<V:=bg (gH (by omega) (aV)) v3;have aT:X*2^s<2^s*18446744073709551616^L:=by rw [aD];exact mu co.o (aV)
   have bs:X*2^s<18446744073709551616^N:=xp aT ap (by omega);obtain ⟨a,c⟩:=aj (digs (X*2^s) N)
   rw [<- c] at D;have bA:a.length=N:=by rw [c,ag]
   have a3:Digs a:=by rw [c];exact ak (by omega) _ _
   have a4:val a=X*2^s:=by rw [c,ax,aA bs]
   have l:val (a.drop T)<V:=by rw [kN (by omega) a3,a4];exact pk aT ap v3 (by omega)
   have o:HzD (a.length=N/\Digs a/\val a=X*2^s):=⟨bA,a3,a4⟩
   have bv:(digs V K).getD nk 0=dig V nk:=jf _ _ _ _ (by omega);rw [<- bv] at v2;have bH:V=val (digs V K):=by rw [ax,aA v1]
   have HT:=af hT;have b4:=af bC;have bW:=af D;have b7:=af v2;have b9:=af bH;have b5:=af l;have gT:(L:Int)-(K:Int)+1=(T:Int)\/(T=0/\(L:Int)-(K:Int)+1<=0):=by omega
   obtain ⟨TI,bq⟩:=aj ((L:Int)-(K:Int)+1)
   have bh:∀ k:Nat,k<=T->((k:Int)<TI↔k<T):=fun k hk=>by omega
   rw [<- bq];clear hT bC D v2 bH l bA a3 a4 c bv bs aT gT cy bq H I J;go_loopw [63] (fun i wr=>∃ (k:Nat) (zs qs:LN),k<=T/\i=.int .i64 (k:Int)/\OwnN .u64 24 wr w.heap.size (.slice (some ⟨gu,0,none⟩) N N) N zs/\OwnN .u64 24 wr w.heap.size (.slice (some ⟨w.heap.size,0,none⟩) L L) L ((List.replicate T 0).take (T-k) ++ (qs ++ List.replicate (L-T) 0))/\Kept (fun b=>b=gu\/b=w.heap.size) w5 wr /\
     HzD ((zs.length=N/\Digs zs)/\(qs.length=k/\Digs qs)/\zs.take (T-k)=a.take (T-k)/\val (zs.drop (T-k))<V/\V*val qs+val (zs.drop (T-k))=val (a.drop (T-k)))) (fun i _=>T-(intOf i).toNat)
   case atStart=>
    refine ⟨0,a,[],aP _,rfl,bW.o,?_,ah _ _,⟨⟨o.o.1,o.o.2.1⟩,⟨rfl,Digs.nil _⟩,rfl,by rw [et];exact b5.o,by rw [val,cY,dX]⟩⟩;rw [et,dV (by simp),bY,ny,show T+(L-T)=L by have:=HT.o;omega];exact A
   case round=>
    clear A;obtain ⟨k,zs,qs,hk,rfl,F,q,av,HI⟩:=hrel;by_cases hkT:k<T
    ·have gk:(k:Int)<TI:=(bh k hk).2 hkT;have aO:=HT.o;obtain ⟨H,I,J,_⟩:=H0.o;obtain ⟨j,hj⟩:=aj (T-1-k)
     have br:T-k=j+1:=by omega
     have S:T-(k+1)=j:=by omega
     have gj:(L:Int)-(K:Int)-(k:Int)=(j:Int):=by omega
     have cz:(j:Int)<(L:Int):=by omega
     have bw:j+(K+1)<=N:=by omega
     obtain ⟨⟨i1,i2⟩,⟨i3,i4⟩,i5,i6,i7⟩:=HI.o;rw [br] at i5 i6 i7 q;obtain ⟨U,hU⟩:=aj (val ((zs.drop j).take (K+1)))
     obtain ⟨aH,be⟩:=qh (by omega) i2 i1 o.o.1 bw v1 aR i6 i5 i7 U hU;obtain ⟨l1,l2,l3,l4,l5⟩:=be _ rfl;obtain ⟨Q,hQ⟩:=aj (U/V)
     obtain ⟨R,hR⟩:=aj (U%V)
     have cP:Q<18446744073709551616:=by rw [hQ,cS aR,aD];exact aH
     rw [<- hR] at l1 l2 l3 l4 l5;rw [<- hQ] at l5;have al:Row .u64 wr (.slice (some ⟨gv,0,none⟩) K K) (digs V K):=b4.o.kept av (fun b hb e=>by simp [Value.ownBlock] at hb;omega);have aN:=Gb gu w.heap.size N N j n nk K (N-j) (by omega) (by omega) zs (digs V K) (some ⟨gv,0,none⟩) K U V Q R wr F i1 i2 bw (by omega) (by omega) al (ak (by omega) _ _) (fun b hb e=>by simp [Value.ownBlock] at hb;omega) b7.o hU b9.o aH hQ hR;have bj:∀ W,OwnN .u64 24 W w.heap.size (.slice (some ⟨w.heap.size,0,none⟩) L L) L ((List.replicate T 0).take (j+1) ++ (qs ++ List.replicate (L-T) 0))->W.cell? ⟨w.heap.size,j,none⟩=some (.int .u64 0):=fun W h=>by
      rw [World.ownsRow.cellAt h j (by omega),bV,il (by rw [aQ,bu];omega),eH,bZ,eG,bZ];rfl
     have aM:HzD (∀ W,OwnN .u64 24 W w.heap.size (.slice (some ⟨w.heap.size,0,none⟩) L L) L ((List.replicate T 0).take (j+1) ++ (qs ++ List.replicate (L-T) 0))->OwnN .u64 24 (W.setCell ⟨w.heap.size,j,none⟩ (.int .u64 (Q:Int))) w.heap.size (.slice (some ⟨w.heap.size,0,none⟩) L L) L ((List.replicate T 0).take j ++ ((Q :: qs) ++ List.replicate (L-T) 0))):=fun W h=>by
      have:=(World.ownsRow.stored h j (.int .u64 (Q:Int))).1;unfold OwnN;rw [fI,<- oT (by rw [bu];omega),cI];exact this
     have bU:HzD (((zs.take j ++ (digs R (K+1) ++ zs.drop (j+(K+1)))).length=N/\Digs (zs.take j ++ (digs R (K+1) ++ zs.drop (j+(K+1)))))/\((Q :: qs).length=k+1/\Digs (Q :: qs))/\(zs.take j ++ (digs R (K+1) ++ zs.drop (j+(K+1)))).take j=a.take j/\val ((zs.take j ++ (digs R (K+1) ++ zs.drop (j+(K+1)))).drop j)<V/\V*val (Q :: qs)+val ((zs.take j ++ (digs R (K+1) ++ zs.drop (j+(K+1)))).drop j)=val (a.drop j)):=⟨⟨l1,l2⟩,⟨by rw [dg,i3],fun d hd=>by rcases fL.1 hd with h | h;omega;exact i4 d h⟩,l3,l4,l5⟩
     have G:=af S;have cJ:(j:Int)<=(j:Int)+(K:Int)+1:=by omega
     have cb:(j:Int)+(K:Int)+1<=(N:Int):=by omega
     clear HI hj br S i1 i2 i3 i4 i5 i6 i7 l1 l2 l3 l4 l5 aH be hU hQ hR al H I J aO;generalize zs.take j ++ (digs R (K+1) ++ zs.drop (j+(K+1)))=zs2 at *;rw [show K+1=j+K+1-j by omega] at aN;go_wp2_with fail;refine aN.mono ?_;rintro e w6 ⟨rfl,a5,k6⟩;have C:=k6.own q (fun b hb e=>by simp [Value.ownBlock] at hb;omega);have c6:=bj _ C;have f6:=World.ownsRow.frozenAt C j;clear aN bj;go_wp2_with fail;go_roundw
     case rel=>
      have kb:Kept (fun b=>b=w.heap.size) w6 (w6.setCell ⟨w.heap.size,j,none⟩ (.int .u64 (Q:Int))):=(ah (fun b=>b=w.heap.size) w6).setCell ⟨w.heap.size,j,none⟩ (fun _=>rfl) _;refine ⟨k+1,zs2,Q :: qs,by omega,by go_num,kb.own a5 (fun b hb e=>by simp [Value.ownBlock] at hb;omega),?_,(av.next k6 (fun _ _ e=>.inl e)).next kb (fun _ _ e=>.inr e),by rw [G.o];exact bU⟩;rw [G.o];exact aM.o _ C
     case measure=>simp [intOf];omega
    ·have gk:¬ (k:Int)<TI:=fun h=>hkT ((bh k hk).1 h)
     obtain rfl:k=T:=by omega
     obtain ⟨H,I,J,_⟩:=H0.o;have aO:=HT.o;obtain ⟨⟨i1,i2⟩,⟨i3,i4⟩,_,i6,i7⟩:=HI.o;rw [cj,ik] at i6 i7;rw [ik,o.o.2.2] at i7;rw [cj,nB,bY] at q;obtain ⟨d1,d2⟩:=oU (M:=X) (y:=Y) (p:=2^s) (aV);rw [<- b8.o,<- i7] at d1 d2;rw [gG aR,bI i6,aU] at d1;rw [iZ,aA i6] at d2;have bB:qs ++ List.replicate (L-k) 0=digs (X/Y) L:=by
      rw [iM i4 d1 (by omega),i3]
     rw [bB] at q;obtain ⟨Z,hZ⟩:=aj (val zs)
     rw [<- hZ] at d2;have bM:∀ i,zs.getD i 0=dig Z i:=fun i=>by rw [hZ];exact (dr (by omega) i2 i).symm
     have bt:∀ W,Kept (fun b=>b=(w.heap.size+1)) wr W->∀ i,i<N->W.cell? ⟨gu,i,none⟩=some (.int .u64 (dig Z i:Nat)):=fun W kk i hi=>by
      have h1:=kk.own F (fun b hb e=>by simp [Value.ownBlock] at hb;omega);rw [World.ownsRow.cellAt h1 i (by omega),bV,<- bM,ay,aS (by omega)];rfl
     have g:=av.own B (fun b hb e=>by simp [Value.ownBlock] at hb;omega);have bd:=af bt;have bX:=af q;have bT:=af d2;have cO:K+1<=N:=by omega
     obtain ⟨s2,bD⟩:=aj (64-s)
     have cb:IntKind.i64.wrap (64-(s:Int))=(s2:Int):=jN
     have cK:(s2:Int)<=64:=by omega
     have b6:=af bD;clear HI i1 i2 i3 i4 i6 i7 d1 d2 bB hZ bM bt q F B H I J aO bD;go_wp2_with fail;go_loopw [86] (fun i wz=>∃ (m:Nat),m<=K/\i=.int .i64 (m:Int)/\OwnN .u64 24 wz w.heap.size (.slice (some ⟨(w.heap.size+1),0,none⟩) M M) M (digs (Z/2^s) m ++ List.replicate (M-m) 0)/\Kept (fun b=>b=(w.heap.size+1)) wr wz) (fun i _=>K-(intOf i).toNat)
     case atStart=>exact ⟨0,aP _,rfl,by rw [et];exact g,ah _ _⟩
     case round=>
      clear g;obtain ⟨m,hm,rfl,g,ac⟩:=hrel;by_cases hmK:m<K
      ·have cR:(0:Int)<=(m:Int):=cL _;have ch:(m:Int)<(K:Int):=by omega
       obtain ⟨m1,v⟩:=aj (m+1)
       have cE:IntKind.i64.wrap ((m:Int)+1)=(m1:Int):=jN
       have cF:(m:Int)<(N:Int):=by omega
       have cG:(m1:Int)<(N:Int):=by omega
       have cH:(m:Int)<(M:Int):=by omega
       have c1:=bd.o _ ac m (by omega);have c2:=bd.o _ ac m1 (by omega);have au:=qp (Z:=Z) (i:=m) ap;rw [<- b6.o,<- v] at au;have cr:=jg g (ag _ _ _) (by omega);have fr:=World.ownsRow.frozenAt g m;have bp:HzD (OwnN .u64 24 (wr.setCell ⟨(w.heap.size+1),m,none⟩ (.int .u64 (dig (Z/2^s) m:Nat))) w.heap.size (.slice (some ⟨(w.heap.size+1),0,none⟩) M M) M (digs (Z/2^s) (m+1) ++ List.replicate (M-(m+1)) 0)):=by
        have:=(World.ownsRow.stored g m (.int .u64 (dig (Z/2^s) m:Nat))).1;unfold HzD OwnN;rw [digs,<- kM _ M m _ (ag _ _ _) (by omega),cI];exact this
       obtain ⟨z,hz⟩:=aj (dig (Z/2^s) m)
       rw [<- hz] at au bp;obtain ⟨x1,a9⟩:=aj (dig Z m)
       obtain ⟨x2,ba⟩:=aj (dig Z m1)
       rw [<- a9,<- ba] at au;rw [<- a9] at c1;rw [<- ba] at c2;obtain ⟨xl,bb⟩:=aj (x1/2^s)
       rw [<- bb] at au;have cM:(x1:Int)/2^s=(xl:Int):=by rw [bb];simp
       have aG:=af v;clear hz a9 ba bb v g;go_wp2_with fail;go_still_tail 17,(by kernel_rfl)
       change wpList _ _ _ _ _ wr.drew
       go_wp2_with fail;go_roundw
       case rel=>exact ⟨m1,by have:=aG.o;omega,rfl,by rw [aG.o];exact bp.o,(ac.setCell ⟨(w.heap.size+1),m,none⟩ (fun _=>rfl) _).drew⟩
       case measure=>have:=aG.o;simp [intOf];omega
      ·have ch:¬ (m:Int)<(K:Int):=by omega
       obtain rfl:m=K:=by omega
       rw [bT.o] at g;have hf:=iM (m:=M) (ak (by omega) (X%Y) m) (V:=X%Y) (by rw [ax,aA (bG (aW _ aX) aq.o)]) (by rw [ag];omega);rw [ag] at hf;rw [<- hf] at g;have b0:=af (ac.own bX.o (fun b hb e=>by have e':b=(w.heap.size+1):=e;simp [Value.ownBlock] at hb;omega));have aF:=af ((cl.next av (fun x hx e=>by rcases e with e | e <;> omega)).next ac (fun x hx e=>by have e':x=(w.heap.size+1):=e;omega));clear hf;go_wp2_with fail;go_ret2;exact ⟨_,_,rfl,b0.o,g,aF.o⟩
 ·have ci:=ow w M L CM CL bO.o bN.o (by omega) (by omega);generalize ((w.alloc (.cells CM 24)).alloc (.cells CL 24)).drew=W1 at *;obtain ⟨ae,ad,k1⟩:=ci;clear bx bz bN bO;obtain ⟨_,_,_,e1,_,_,_,_,aw⟩:=(HV.o.g k1).open;cases e1
  go_wp2_with fail;refine (bi _ k1).mono ?_;rintro e w2 ⟨rfl,rfl⟩;clear bi;have a1:HzD (xs≠[]->∀ b,(Value.slice ao L aB).ownBlock=some b->b<w.heap.size):=fun h b hb=>HU.o.lt h b hb
  by_cases hK1:K=1
  ·subst hK1;have cw:((bl:Int)+64-1)/64=1:=gK;clear gK;obtain ⟨b2,r,rfl,cy⟩:=aw 0 (by omega);have bK:ys.getD 0 0=Y:=by
    rw [<- dr (by omega) az.o,<- HY.o,dig,cZ,fM];have:=aq.o;rw [ju] at this;exact aA this
   have cu:w2.cell? ⟨b2,r,none⟩=some (.int .u64 (Y:Nat)):=by rw [<- bK];exact cy
   have ab:Y<18446744073709551616:=by have:=aq.o;rwa [ju] at this
   obtain ⟨R,hR⟩:=aj (X%Y)
   have aJ:R<18446744073709551616:=by rw [hR];exact bG (aW _ aX) ab
   have O:=Jf (w.heap.size+1) w.heap.size L L ao aB xs (List.replicate L 0) X Y R HX.o hR ab aX w2 ad (by simp) (HU.o.g k1) bP.o (fun h b hb=>by have:=a1.o h b hb;omega) (by omega);obtain ⟨M1,bk⟩:∃ M1,M=M1+1:=⟨M-1,by omega⟩
   have ca:HzD (digs R M=(List.replicate M 0).set 0 R):=by unfold HzD;rw [bk,jp R M1 aJ,j9,lsZ]
   have b3:=af hR;clear aw cy bK bk hR;go_wp2_with fail;refine O.mono ?_;rintro e w3 ⟨rfl,q,k3⟩;have g:=k3.own ae (fun b hb e=>by simp [Value.ownBlock] at hb;omega);have cr:w3.cell? ⟨w.heap.size,0,none⟩=some (.int .u64 0):=by
    rw [World.ownsRow.cellAt g 0 (by omega),bV,eG,bZ];rfl
   have fr:=World.ownsRow.frozenAt g 0;have bE:=(World.ownsRow.stored g 0 (.int .u64 (R:Int))).1;have kb:Kept (fun b=>b=w.heap.size) w3 (w3.setCell ⟨w.heap.size,0,none⟩ (.int .u64 (R:Int))):=aE w3 w.heap.size _;have HQ:=af (kb.own q (fun b hb e=>by simp [Value.ownBlock] at hb;omega));have b1:HzD (OwnN .u64 24 (w3.setCell ⟨w.heap.size,0,none⟩ (.int .u64 (R:Int))) w.heap.size (.slice (some ⟨w.heap.size,0,none⟩) M M) M (digs (X%Y) M)):=by
    unfold HzD OwnN;rw [<- b3.o,ca.o,cI];exact bE
   have aF:=af ((k1.next k3 (fun x hx e=>by omega)).next kb (fun x hx e=>by omega));clear O g bE kb q k3 ad ae;go_wp2_with fail;go_ret2;exact ⟨_,_,rfl,HQ.o,b1.o,aF.o⟩
  ·have cv:((K:Int) == 1)=false:=by simp;omega
   have cx:¬ (K:Int)=1:=by omega
   obtain ⟨n,hn⟩:=aj (K-2)
   obtain ⟨nk,a2⟩:=aj (K-1)
   obtain ⟨b2,r,rfl,cy⟩:=aw nk (by omega);obtain ⟨t,ht⟩:=aj (Y/18446744073709551616^nk)
   have aY:Y<18446744073709551616^(nk+1):=by rw [show nk+1=K by omega];exact aq.o
   have E:0<18446744073709551616^nk:=aV;have bF:t<18446744073709551616:=by
    rw [ht,cS E,<- li];exact aY
   have ck:0<t:=by rw [ht];exact Nat.div_pos (by rw [a2];exact cm.o) E
   have bL:ys.getD nk 0=t:=by rw [<- dr (by omega) az.o,<- HY.o,dig,<- ht,aA bF]
   rw [bL] at cy;obtain ⟨s,hs⟩:=aj (64-aL t)
   obtain ⟨ap,v1,v2,v3⟩:=vf aY ht ck hs;rw [show nk+1=K by omega] at v1;have aI:=fun W=>bLz t bF W
   rw [<- hs] at aI;obtain ⟨V,hV⟩:=aj (Y*2^s)
   rw [<- hV] at v1 v2 v3;have b8:=af hV;obtain ⟨N,hN⟩:=aj (max L K+1)
   have gN:max (L:Int) (K:Int)+1=(N:Int):=by omega
   have cA:(K:Int)-1=(nk:Int):=by omega
   have cB:(nk:Int)<(M:Int):=by omega
   have cC:(K:Int)<=(M:Int):=by omega
   have bm:M<=ar:=by obtain ⟨_,_,_,e1,_,hh,_⟩:=HV.o.open;cases e1;exact hh
   have cD:(K:Int)<=(ar:Int):=by omega
   have hcut:∀ W,Kept aa w W->Row .u64 W (.slice (some ⟨b2,r,none⟩) K ar) (ys.take K):=fun W k=>(HV.o.g k).cut (by rw [eM.o];omega)
   have bJ:Y=val (ys.take K):=by rw [iR (by omega) az.o,<- HY.o,aA aq.o]
   have aK:=fun W (k:Kept aa w W)=>tw (some ⟨b2,r,none⟩) K ar (ys.take K) Y s K bJ ap W (hcut W k) (az.o.take K) (by omega) (leR _)
   have bn:=fun W (k:Kept aa w W)=>tw ao L aB xs X s N HX.o ap W (HU.o.g k) bP.o (by omega) (by omega)
   rw [<- hV] at aK;have H0:HzD (n=K-2/\nk=K-1/\N=max L K+1/\2<=K):=⟨hn,a2,hN,by omega⟩
   clear aw ht hs bL hV hcut bJ hn a2 hN E aY;go_wp2_with fail;refine (aI _).mono ?_;rintro e w3 ⟨rfl,rfl⟩;clear aI;go_wp2_with fail;refine (aK _ k1).mono ?_;rintro e w4 ⟨rfl,a6,k4⟩;have bc:=k1.trans k4;go_wp2_with fail;refine (bn _ bc).mono ?_;rintro e w5 ⟨rfl,F,k5⟩;have cl:=bc.trans k5;have ai:=k5.own a6 (fun _ _ f=>f);have A:=(k4.trans k5).own ad (fun _ _ f=>f);have B:=(k4.trans k5).own ae (fun _ _ f=>f);have am:w.heap.size+1<w3.heap.size:=by have h1:=fX ad;have h2:=fX ae;omega
   have an:w3.heap.size<w4.heap.size:=fX a6;clear aK bn a6 ad ae k1 bc;go_wp2_with fail;obtain ⟨T,hT⟩:=aj (L+1-K)
   have cf:=fX A;have cg:=fX B;have a7:w.heap.size+1<w3.heap.size:=am;have a8:w3.heap.size<w4.heap.size:=an;obtain ⟨gv,a0⟩:=aj w3.heap.size
   obtain ⟨gu,aZ⟩:=aj w4.heap.size
   have D:OwnN .u64 24 w5 w.heap.size (.slice (some ⟨gu,0,none⟩) N N) N (digs (X*2^s) N):=by
    rw [aZ];exact de F (fun b hb=>by simp [Value.ownBlock] at hb;omega)
   have bC:Row .u64 w5 (.slice (some ⟨gv,0,none⟩) K K) (digs V K):=by rw [a0];exact dt ai (ag _ _ _)
   rw [<- a0,<- aZ];have dq:(w.heap.size+1)≠gu/\w.heap.size≠gu/\gv≠gu/\gv≠(w.heap.size+1)/\(w.heap.size+1)≠w.heap.size/\w.heap.size<=gu:=by omega
   clear F ai a0 aZ a8 a7 cf cg;obtain ⟨H,I,J,cN⟩:=H0.o;have aR:0<V:=bg (gH (by omega) (aV)) v3;have aT:X*2^s<2^s*18446744073709551616^L:=by rw [aD];exact mu co.o (aV)
   have bs:X*2^s<18446744073709551616^N:=xp aT ap (by omega);obtain ⟨a,c⟩:=aj (digs (X*2^s) N)
   rw [<- c] at D;have bA:a.length=N:=by rw [c,ag]
   have a3:Digs a:=by rw [c];exact ak (by omega) _ _
   have a4:val a=X*2^s:=by rw [c,ax,aA bs]
   have l:val (a.drop T)<V:=by rw [kN (by omega) a3,a4];exact pk aT ap v3 (by omega)
   have o:HzD (a.length=N/\Digs a/\val a=X*2^s):=⟨bA,a3,a4⟩
   have bv:(digs V K).getD nk 0=dig V nk:=jf _ _ _ _ (by omega);rw [<- bv] at v2;have bH:V=val (digs V K):=by rw [ax,aA v1]
   have HT:=af hT;have b4:=af bC;have bW:=af D;have b7:=af v2;have b9:=af bH;have b5:=af l;have gT:(L:Int)-(K:Int)+1=(T:Int)\/(T=0/\(L:Int)-(K:Int)+1<=0):=by omega
   obtain ⟨TI,bq⟩:=aj ((L:Int)-(K:Int)+1)
   have bh:∀ k:Nat,k<=T->((k:Int)<TI↔k<T):=fun k hk=>by omega
   rw [<- bq];clear hT bC D v2 bH l bA a3 a4 c bv bs aT gT cy bq H I J;go_loopw [63] (fun i wr=>∃ (k:Nat) (zs qs:LN),k<=T/\i=.int .i64 (k:Int)/\OwnN .u64 24 wr w.heap.size (.slice (some ⟨gu,0,none⟩) N N) N zs/\OwnN .u64 24 wr w.heap.size (.slice (some ⟨(w.heap.size+1),0,none⟩) L L) L ((List.replicate T 0).take (T-k) ++ (qs ++ List.replicate (L-T) 0))/\Kept (fun b=>b=gu\/b=(w.heap.size+1)) w5 wr /\
     HzD ((zs.length=N/\Digs zs)/\(qs.length=k/\Digs qs)/\zs.take (T-k)=a.take (T-k)/\val (zs.drop (T-k))<V/\V*val qs+val (zs.drop (T-k))=val (a.drop (T-k)))) (fun i _=>T-(intOf i).toNat)
   case atStart=>
    refine ⟨0,a,[],aP _,rfl,bW.o,?_,ah _ _,⟨⟨o.o.1,o.o.2.1⟩,⟨rfl,Digs.nil _⟩,rfl,by rw [et];exact b5.o,by rw [val,cY,dX]⟩⟩;rw [et,dV (by simp),bY,ny,show T+(L-T)=L by have:=HT.o;omega];exact A
   case round=>
    clear A;obtain ⟨k,zs,qs,hk,rfl,F,q,av,HI⟩:=hrel;by_cases hkT:k<T
    ·have gk:(k:Int)<TI:=(bh k hk).2 hkT;have aO:=HT.o;obtain ⟨H,I,J,_⟩:=H0.o;obtain ⟨j,hj⟩:=aj (T-1-k)
     have br:T-k=j+1:=by omega
     have S:T-(k+1)=j:=by omega
     have gj:(L:Int)-(K:Int)-(k:Int)=(j:Int):=by omega
     have cz:(j:Int)<(L:Int):=by omega
     have bw:j+(K+1)<=N:=by omega
     obtain ⟨⟨i1,i2⟩,⟨i3,i4⟩,i5,i6,i7⟩:=HI.o;rw [br] at i5 i6 i7 q;obtain ⟨U,hU⟩:=aj (val ((zs.drop j).take (K+1)))
     obtain ⟨aH,be⟩:=qh (by omega) i2 i1 o.o.1 bw v1 aR i6 i5 i7 U hU;obtain ⟨l1,l2,l3,l4,l5⟩:=be _ rfl;obtain ⟨Q,hQ⟩:=aj (U/V)
     obtain ⟨R,hR⟩:=aj (U%V)
     have cP:Q<18446744073709551616:=by rw [hQ,cS aR,aD];exact aH
     rw [<- hR] at l1 l2 l3 l4 l5;rw [<- hQ] at l5;have al:Row .u64 wr (.slice (some ⟨gv,0,none⟩) K K) (digs V K):=b4.o.kept av (fun b hb e=>by simp [Value.ownBlock] at hb;omega);have aN:=Gb gu w.heap.size N N j n nk K (N-j) (by omega) (by omega) zs (digs V K) (some ⟨gv,0,none⟩) K U V Q R wr F i1 i2 bw (by omega) (by omega) al (ak (by omega) _ _) (fun b hb e=>by simp [Value.ownBlock] at hb;omega) b7.o hU b9.o aH hQ hR;have bj:∀ W,OwnN .u64 24 W w.heap.size (.slice (some ⟨(w.heap.size+1),0,none⟩) L L) L ((List.replicate T 0).take (j+1) ++ (qs ++ List.replicate (L-T) 0))->W.cell? ⟨(w.heap.size+1),j,none⟩=some (.int .u64 0):=fun W h=>by
      rw [World.ownsRow.cellAt h j (by omega),bV,il (by rw [aQ,bu];omega),eH,bZ,eG,bZ];rfl
     have aM:HzD (∀ W,OwnN .u64 24 W w.heap.size (.slice (some ⟨(w.heap.size+1),0,none⟩) L L) L ((List.replicate T 0).take (j+1) ++ (qs ++ List.replicate (L-T) 0))->OwnN .u64 24 (W.setCell ⟨(w.heap.size+1),j,none⟩ (.int .u64 (Q:Int))) w.heap.size (.slice (some ⟨(w.heap.size+1),0,none⟩) L L) L ((List.replicate T 0).take j ++ ((Q :: qs) ++ List.replicate (L-T) 0))):=fun W h=>by
      have:=(World.ownsRow.stored h j (.int .u64 (Q:Int))).1;unfold OwnN;rw [fI,<- oT (by rw [bu];omega),cI];exact this
     have bU:HzD (((zs.take j ++ (digs R (K+1) ++ zs.drop (j+(K+1)))).length=N/\Digs (zs.take j ++ (digs R (K+1) ++ zs.drop (j+(K+1)))))/\((Q :: qs).length=k+1/\Digs (Q :: qs))/\(zs.take j ++ (digs R (K+1) ++ zs.drop (j+(K+1)))).take j=a.take j/\val ((zs.take j ++ (digs R (K+1) ++ zs.drop (j+(K+1)))).drop j)<V/\V*val (Q :: qs)+val ((zs.take j ++ (digs R (K+1) ++ zs.drop (j+(K+1)))).drop j)=val (a.drop j)):=⟨⟨l1,l2⟩,⟨by rw [dg,i3],fun d hd=>by rcases fL.1 hd with h | h;omega;exact i4 d h⟩,l3,l4,l5⟩
     have G:=af S;have cJ:(j:Int)<=(j:Int)+(K:Int)+1:=by omega
     have cb:(j:Int)+(K:Int)+1<=(N:Int):=by omega
     clear HI hj br S i1 i2 i3 i4 i5 i6 i7 l1 l2 l3 l4 l5 aH be hU hQ hR al H I J aO;generalize zs.take j ++ (digs R (K+1) ++ zs.drop (j+(K+1)))=zs2 at *;rw [show K+1=j+K+1-j by omega] at aN;go_wp2_with fail;refine aN.mono ?_;rintro e w6 ⟨rfl,a5,k6⟩;have C:=k6.own q (fun b hb e=>by simp [Value.ownBlock] at hb;omega);have c6:=bj _ C;have f6:=World.ownsRow.frozenAt C j;clear aN bj;go_wp2_with fail;go_roundw
     case rel=>
      have kb:Kept (fun b=>b=(w.heap.size+1)) w6 (w6.setCell ⟨(w.heap.size+1),j,none⟩ (.int .u64 (Q:Int))):=(ah (fun b=>b=(w.heap.size+1)) w6).setCell ⟨(w.heap.size+1),j,none⟩ (fun _=>rfl) _;refine ⟨k+1,zs2,Q :: qs,by omega,by go_num,kb.own a5 (fun b hb e=>by simp [Value.ownBlock] at hb;omega),?_,(av.next k6 (fun _ _ e=>.inl e)).next kb (fun _ _ e=>.inr e),by rw [G.o];exact bU⟩;rw [G.o];exact aM.o _ C
     case measure=>simp [intOf];omega
    ·have gk:¬ (k:Int)<TI:=fun h=>hkT ((bh k hk).1 h)
     obtain rfl:k=T:=by omega
     obtain ⟨H,I,J,_⟩:=H0.o;have aO:=HT.o;obtain ⟨⟨i1,i2⟩,⟨i3,i4⟩,_,i6,i7⟩:=HI.o;rw [cj,ik] at i6 i7;rw [ik,o.o.2.2] at i7;rw [cj,nB,bY] at q;obtain ⟨d1,d2⟩:=oU (M:=X) (y:=Y) (p:=2^s) (aV);rw [<- b8.o,<- i7] at d1 d2;rw [gG aR,bI i6,aU] at d1;rw [iZ,aA i6] at d2;have bB:qs ++ List.replicate (L-k) 0=digs (X/Y) L:=by
      rw [iM i4 d1 (by omega),i3]
     rw [bB] at q;obtain ⟨Z,hZ⟩:=aj (val zs)
     rw [<- hZ] at d2;have bM:∀ i,zs.getD i 0=dig Z i:=fun i=>by rw [hZ];exact (dr (by omega) i2 i).symm
     have bt:∀ W,Kept (fun b=>b=w.heap.size) wr W->∀ i,i<N->W.cell? ⟨gu,i,none⟩=some (.int .u64 (dig Z i:Nat)):=fun W kk i hi=>by
      have h1:=kk.own F (fun b hb e=>by simp [Value.ownBlock] at hb;omega);rw [World.ownsRow.cellAt h1 i (by omega),bV,<- bM,ay,aS (by omega)];rfl
     have g:=av.own B (fun b hb e=>by simp [Value.ownBlock] at hb;omega);have bd:=af bt;have bX:=af q;have bT:=af d2;have cO:K+1<=N:=by omega
     obtain ⟨s2,bD⟩:=aj (64-s)
     have cb:IntKind.i64.wrap (64-(s:Int))=(s2:Int):=jN
     have cK:(s2:Int)<=64:=by omega
     have b6:=af bD;clear HI i1 i2 i3 i4 i6 i7 d1 d2 bB hZ bM bt q F B H I J aO bD;go_wp2_with fail;go_loopw [86] (fun i wz=>∃ (m:Nat),m<=K/\i=.int .i64 (m:Int)/\OwnN .u64 24 wz w.heap.size (.slice (some ⟨w.heap.size,0,none⟩) M M) M (digs (Z/2^s) m ++ List.replicate (M-m) 0)/\Kept (fun b=>b=w.heap.size) wr wz) (fun i _=>K-(intOf i).toNat)
     case atStart=>exact ⟨0,aP _,rfl,by rw [et];exact g,ah _ _⟩
     case round=>
      clear g;obtain ⟨m,hm,rfl,g,ac⟩:=hrel;by_cases hmK:m<K
      ·have cR:(0:Int)<=(m:Int):=cL _;have ch:(m:Int)<(K:Int):=by omega
       obtain ⟨m1,v⟩:=aj (m+1)
       have cE:IntKind.i64.wrap ((m:Int)+1)=(m1:Int):=jN
       have cF:(m:Int)<(N:Int):=by omega
       have cG:(m1:Int)<(N:Int):=by omega
       have cH:(m:Int)<(M:Int):=by omega
       have c1:=bd.o _ ac m (by omega);have c2:=bd.o _ ac m1 (by omega);have au:=qp (Z:=Z) (i:=m) ap;rw [<- b6.o,<- v] at au;have cr:=jg g (ag _ _ _) (by omega);have fr:=World.ownsRow.frozenAt g m;have bp:HzD (OwnN .u64 24 (wr.setCell ⟨w.heap.size,m,none⟩ (.int .u64 (dig (Z/2^s) m:Nat))) w.heap.size (.slice (some ⟨w.heap.size,0,none⟩) M M) M (digs (Z/2^s) (m+1) ++ List.replicate (M-(m+1)) 0)):=by
        have:=(World.ownsRow.stored g m (.int .u64 (dig (Z/2^s) m:Nat))).1;unfold HzD OwnN;rw [digs,<- kM _ M m _ (ag _ _ _) (by omega),cI];exact this
       obtain ⟨z,hz⟩:=aj (dig (Z/2^s) m)
       rw [<- hz] at au bp;obtain ⟨x1,a9⟩:=aj (dig Z m)
       obtain ⟨x2,ba⟩:=aj (dig Z m1)
       rw [<- a9,<- ba] at au;rw [<- a9] at c1;rw [<- ba] at c2;obtain ⟨xl,bb⟩:=aj (x1/2^s)
       rw [<- bb] at au;have cM:(x1:Int)/2^s=(xl:Int):=by rw [bb];simp
       have aG:=af v;clear hz a9 ba bb v g;go_wp2_with fail;go_still_tail 17,(by kernel_rfl)
       change wpList _ _ _ _ _ wr.drew
       go_wp2_with fail;go_roundw
       case rel=>exact ⟨m1,by have:=aG.o;omega,rfl,by rw [aG.o];exact bp.o,(ac.setCell ⟨w.heap.size,m,none⟩ (fun _=>rfl) _).drew⟩
       case measure=>have:=aG.o;simp [intOf];omega
      ·have ch:¬ (m:Int)<(K:Int):=by omega
       obtain rfl:m=K:=by omega
       rw [bT.o] at g;have hf:=iM (m:=M) (ak (by omega) (X%Y) m) (V:=X%Y) (by rw [ax,aA (bG (aW _ aX) aq.o)]) (by rw [ag];omega);rw [ag] at hf;rw [<- hf] at g;have b0:=af (ac.own bX.o (fun b hb e=>by have e':b=w.heap.size:=e;simp [Value.ownBlock] at hb;omega));have aF:=af ((cl.next av (fun x hx e=>by rcases e with e | e <;> omega)).next ac (fun x hx e=>by have e':x=w.heap.size:=e;omega));clear hf;go_wp2_with fail;go_ret2;exact ⟨_,_,rfl,b0.o,g,aF.o⟩

theorem Lg (u:Value) (xs:LN) (w:World) (hu:Row .u64 w u xs) (a:Digs xs) (hL:xs.length<=100000000) :
  ClZ 209 #[.pointer none,u] w fun e w'=>e=.returned (.int .u64 (dD (decide (val xs=0)):Nat))/\Kept aa w w':=by
 refine (FZ none u xs w (TrRoom.none w 1 (by omega)) (RowT.none hu) a hL).mono ?_;rintro e w' ⟨rfl,o',hd⟩;exact ⟨rfl,hd.none.2⟩

theorem EZ (ao bo:OA) (L M g h:Nat) (xs ys:LN) (X Y:Nat) (hX:X=val xs) (hY:Y=val ys) (bA bB bQ bR:Nat) (w:World) (hu:Row .u64 w (.slice ao L g) xs) (hv:Row .u64 w (.slice bo M h) ys) (v:Digs xs) (m:Digs ys)
  (hA:Box w bA (.slice ao L g) 23) (hB:Box w bB (.slice bo M h) 23) (hQ:Box w bQ (.slice none 0 0) 23) (hR:Box w bR (.slice none 0 0) 23) (x:bQ≠bR) :
  ClZ 234 #[.pointer (some ⟨bA,0,none⟩),.pointer (some ⟨bB,0,none⟩),.pointer (some ⟨bQ,0,none⟩),.pointer (some ⟨bR,0,none⟩)] w fun e w'=>
   (¬ (L<=300/\M<=300)/\e=.panicked [refusal 2]/\w'=w)\/((L<=300/\M<=300)/\Y=0/\e=.panicked [refusal 1]/\Kept aa w w') \/
   ((L<=300/\M<=300)/\Y≠0/\e=.returned (.tuple #[])/\∃ v1 v2,OwnN .u64 24 w' w.heap.size v1 L (digs (X/Y) L)/\OwnN .u64 24 w' w.heap.size v2 M (digs (X%Y) M)/\Kept (fun b=>b=bQ\/b=bR) w w'/\Box w' bQ v1 23/\Box w' bR v2 23):=by
 obtain ⟨_,_,_,e1,J,_,_,_,_⟩:=hu.open;cases e1
 obtain ⟨_,_,_,e1,s,_,_,_,_⟩:=hv.open;cases e1
 have hP:=fun W=>zH ao bo L M g h W
 have hZ:=fun (l:M<=300)=>Lg _ ys w hv m (by have:=s.o;omega)
 rw [<- hY] at hZ;have hD:=fun W (k:Kept aa w W) (l1:L<=300) (l2:M<=300) (h0:0<Y)=>He ao bo L M g h xs ys X Y hX hY h0 W (hu.g k) (hv.g k) v m (by omega) (by omega)
 have cA:=hA.cell;have cB:=hB.cell;have y:=af hA;have z:=af hB;have A:=af hQ;have B:=af hR;clear hu hv v m J s hA hB hQ hR hX hY;delta ClZ;go_in;go_wp2_with fail;refine (hP _).mono ?_;rintro e w1 ⟨⟨l1,l2,rfl⟩ | ⟨l1,rfl⟩,rfl⟩
 ·obtain ⟨nz,n⟩:=aj (dD (decide (Y=0)))
  rw [<- n] at hZ;have q:=af n;clear hP n;go_wp2_with fail;refine (hZ l2).mono ?_;rintro e w2 ⟨rfl,k2⟩;have H:=(y.o.g k2).cell;have I:=(z.o.g k2).cell;have o:=A.o.g k2;have p:=B.o.g k2;clear hZ cA cB;by_cases h0:Y=0
  ·have en:nz=1:=by rw [q.o,dR h0];rfl
   have j:=mY 1 w2;go_wp2_with fail;refine j.mono ?_;rintro e w4 ⟨rfl,rfl⟩;exact ⟨rfl,.inr (.inl ⟨⟨l1,l2⟩,h0,rfl,k2⟩)⟩
  ·have en:nz=0:=by rw [q.o,cG h0];rfl
   have t:=oP 1 w2;have r:=hD w2 k2 l1 l2 (by omega);clear hD;go_wp2_with fail;refine t.mono ?_;rintro e w3 ⟨rfl,rfl⟩;clear t;go_wp2_with fail;refine r.mono ?_;rintro e w4 ⟨v1,v2,rfl,d,f,k4⟩;obtain ⟨xo,xc,rfl⟩:=dI d;obtain ⟨yo,yc,rfl⟩:=dI f;have a:=o.g k4;have c:=p.g k4;have cQ:=a.cell;have fQ:=a.free;have cR:=c.cell;have fR:=c.free;have N:=o.lt;have O:=p.lt;have P:=k2.size;have kb:Kept (fun b=>b=bQ\/b=bR) w4 (w4.setCell ⟨bQ,0,none⟩ (.slice xo L xc)):=(aE w4 bQ (.slice xo L xc)).mono (fun _ _ e=>.inl e);have i:=kb.next (aE _ bR (.slice yo M yc)) (fun _ _ e=>.inr e)
   have D:=af (de (base':=w1.heap.size) (i.own d (fun b hb e=>by have:=(d.lt b hb).1;omega)) (fun b hb=>by have:=(d.lt b hb).1;omega));have E:=af (de (base':=w1.heap.size) (i.own f (fun b hb e=>by have:=(f.lt b hb).1;omega)) (fun b hb=>by have:=(f.lt b hb).1;omega));have F:=af ((a.set (.slice xo L xc)).other ⟨bR,0,none⟩ x (.slice yo M yc));have G:=af ((c.other ⟨bQ,0,none⟩ (fun e=>x e.symm) (.slice xo L xc)).set (.slice yo M yc));have C:=af ((k2.trans k4).any.trans i);clear d f a c kb i o p H I r;go_wp2_with fail;go_end0
   exact .inr (.inr ⟨⟨l1,l2⟩,h0,rfl,_,_,D.o,E.o,C.o,F.o,G.o⟩)
 ·exact ⟨rfl,.inl ⟨l1,rfl,rfl⟩⟩

theorem yw (ao bo:OA) (L M d f:Nat) (xs ys:LN) (E:Nat) (hE:E=jY (val ys) L M) (w:World) (hu:Row .u64 w (.slice ao L d) xs) (hv:Row .u64 w (.slice bo M f) ys) (C:Digs xs) (D:Digs ys) :
  ClZ 204 #[.slice ao L d,.slice bo M f] w fun e w'=>∃ v1 v2,e=.returned (.tuple #[v1,v2,.int .i64 (E:Nat)]) /\
   Row .u64 w' v1 (pu (val xs) (val ys) L M)/\Row .u64 w' v2 (lC (val xs) (val ys) L M)/\Kept aa w w':=by
 have F:=GW;have B:=sQ w (.slice ao L d) (.slice bo M f) (.slice none 0 0) (.slice none 0 0) 23 23 23 23;have he:∀ args w,(callFunc 234 args).run prog w=.ok (.enter 234 args) w:=fun _ _=>by simp [go_sem]
 obtain ⟨X,hX⟩:=aj (val xs)
 obtain ⟨Y,hY⟩:=aj (val ys)
 rw [<- hY] at hE;rw [<- hX,<- hY];have HE:=af hE;have HX:=af hX;have HY:=af hY;clear hE hX hY;delta ClZ;go_in;go_wp2_with fail;generalize (((w.alloc (.cells #[.slice ao L d] 23)).alloc (.cells #[.slice bo M f] 23)).alloc (.cells #[.slice none 0 0] 23)).alloc (.cells #[.slice none 0 0] 23)=W at *;obtain ⟨k0,x2,x3,x4,x5,hs⟩:=B;have k1:=k0.alloc (.cells #[.int .i64 0] 35);have xe:=Box.new W (.int .i64 0) 35;have h1:=EZ ao bo L M d f xs ys X Y HX.o HY.o _ _ _ _ _ (hu.g k1) (hv.g k1) C D (x2.alloc _) (x3.alloc _) (x4.alloc (.cells #[.int .i64 0] 35)) (x5.alloc _) (by omega)
 have r:(W.alloc (.cells #[.int .i64 0] 35)).heap.size=W.heap.size+1:=by simp
 refine (og 234 _ W (fun n W'=>n=(E:Int)/\∃ ro rc ln so sc lm,Box W' (w.heap.size+1+1) (.slice ro ln rc) 23/\Box W' (w.heap.size+1+1+1) (.slice so lm sc) 23/\Row .u64 W' (.slice ro ln rc) (pu X Y L M)/\Row .u64 W' (.slice so lm sc) (lC X Y L M)/\(∀ b,(Value.slice ro ln rc).ownBlock=some b->W.heap.size+1<=b)/\(∀ b,(Value.slice so lm sc).ownBlock=some b->W.heap.size+1<=b)/\Kept aa w W') he (h1.mono ?_)).mono ?_
 ·rintro e w' (⟨hl,rfl,rfl⟩ | ⟨hl,h0,rfl,kz⟩ | ⟨hl,h0,rfl,v1,v2,i,j,hk,g,h⟩)
  ·obtain ⟨e1,e2,e3⟩:=uy (X:=X) (Y:=Y) hl;exact ⟨xe,.inr ⟨2,rfl,by rw [HE.o,e1];rfl,none,0,0,none,0,0,x4.alloc _,x5.alloc _,by rw [e2];exact Row.nil _ _,by rw [e3];exact Row.nil _ _,(fun b hb=>by cases hb),(fun b hb=>by cases hb),k1⟩⟩
  ·obtain ⟨e1,e2,e3⟩:=div_zero (X:=X) hl h0;exact ⟨xe.g kz,.inr ⟨1,rfl,by rw [HE.o,e1];rfl,none,0,0,none,0,0,(x4.alloc _).g kz,(x5.alloc _).g kz,by rw [e2];exact Row.nil _ _,by rw [e3];exact Row.nil _ _,(fun b hb=>by cases hb),(fun b hb=>by cases hb),k1.trans kz⟩⟩
  ·obtain ⟨e1,e2,e3⟩:=ix (X:=X) hl h0;rw [r] at i j;have G:=xe.kept hk (by omega);obtain ⟨xo,xc,rfl⟩:=dI i;obtain ⟨yo,yc,rfl⟩:=dI j;exact ⟨G,.inl ⟨rfl,by rw [HE.o,e1];rfl,xo,xc,L,yo,yc,M,g,h,by rw [e2];exact dt i (ag _ _ _),by rw [e3];exact dt j (ag _ _ _),(fun b hb=>(i.lt b hb).1),(fun b hb=>(j.lt b hb).1),k1.next hk (fun x hx e=>by rcases e with e | e <;> omega)⟩⟩
 ·rintro e w' ⟨n,w1,rfl,⟨⟨rfl,ro,rc,ln,so,sc,lm,g,h,p,q,l,m,hk⟩,A⟩,rfl⟩;have a:=g.other ⟨W.heap.size,0,none⟩ (by show _≠W.heap.size;omega) (.int .i64 (E:Int));have c:=h.other ⟨W.heap.size,0,none⟩ (by show _≠W.heap.size;omega) (.int .i64 (E:Int));have c1:=a.cell;have f1:=a.free;have c2:=c.cell;have f2:=c.free;have o:w.heap.size+1+1≠w.heap.size+1+1+1:=by omega
  have c3:=((a.set (.slice ro ln rc)).other ⟨w.heap.size+1+1+1,0,none⟩ o (.slice so lm sc)).cell;have c4:=((c.other ⟨w.heap.size+1+1,0,none⟩ o.symm (.slice ro ln rc)).set (.slice so lm sc)).cell;have s:Kept (fun b=>b=W.heap.size\/b=w.heap.size+1+1\/b=w.heap.size+1+1+1) w1 (w1.setCell ⟨W.heap.size,0,none⟩ (.int .i64 (E:Int))):=(aE w1 W.heap.size _).mono (fun _ _ e=>.inl e);have t:=s.next (aE _ (w.heap.size+1+1) (.slice ro ln rc)) (fun _ _ e=>.inr (.inl e))
  have k:=t.next (aE _ (w.heap.size+1+1+1) (.slice so lm sc)) (fun _ _ e=>.inr (.inr e))
  have HK:=af (hk.next k (fun x hx e=>by rcases e with e | e | e <;> omega));have y:=af (p.kept k (fun b hb e=>by have:=l b hb;omega));have z:=af (q.kept k (fun b hb e=>by have:=m b hb;omega));generalize w1.setCell ⟨W.heap.size,0,none⟩ (.int .i64 (E:Int))=W2 at *;clear h1 g h a c p q l m s t k hk A hu hv x2 x3 x4 x5 xe k0 k1 r he F;go_wp2_with fail;go_region
  all_goals
   go_wp2;refine bodyPost_ret (v:=.tuple #[.slice ro ln rc,.slice so lm sc,.int .i64 (E:Nat)]) (by simp [results,results204,go_sem,c3,c4]) rfl ?_;exact ⟨_,_,rfl,y.o.g (ah _ _).drew,z.o.g (ah _ _).drew,HK.o.drew⟩

theorem zG {w:World} {base:Nat} {v:Value} {zs:LN} (h:OwnN .u64 24 w base v n zs) (hl:zs.length=n):Row .u64 w v zs:=
 Row.of_own (base:=base) (e:=24) (by rw [hl];exact h)

theorem Cw (ao bo:OA) (L M a b:Nat) (xs ys:LN) (w:World) (hu:Row .u64 w (.slice ao L a) xs) (hv:Row .u64 w (.slice bo M b) ys) (c:Digs xs) (d:Digs ys) :
  ClZ 110 #[.pointer none,.slice ao L a,.slice bo M b] w fun e w'=>∃ v',e=.returned v'/\Row .u64 w' v' (kD (val xs) (val ys) L M)/\Kept aa w w':=by
 refine (LD none ao bo L M a b xs ys w (TrRoom.none w 300 (by omega)) (RowT.none hu) (RowT.none hv) c d).mono ?_;rintro e w' ⟨v',rfl,hr,_,o',hd⟩;exact ⟨v',rfl,hr,hd.none.2⟩

theorem LV (u v:Value) (xs ys:LN) (w:World) (hu:Row .u64 w u xs) (hv:Row .u64 w v ys) (a:Digs xs) (b:Digs ys) (hL:xs.length<=100000000) (hM:ys.length<=100000000) :
  ClZ 109 #[.pointer none,u,v] w fun e w'=>∃ v',e=.returned (.tuple #[v',.int .u64 (dD (decide (2^(64*max xs.length ys.length)<=val xs+val ys)):Nat)])/\Row .u64 w' v' (digs (val xs+val ys) (max xs.length ys.length))/\Kept aa w w':=by
 refine (IW none u v xs ys w (TrRoom.none w 1 (by omega)) (RowT.none hu) (RowT.none hv) a b hL hM).mono ?_;rintro e w' ⟨v',rfl,ho,o',hd⟩;exact ⟨v',rfl,zG ho (ag _ _ _),hd.none.2⟩

theorem IY (u v:Value) (xs ys:LN) (w:World) (hu:Row .u64 w u xs) (hv:Row .u64 w v ys) (a:Digs xs) (b:Digs ys) (hL:xs.length<=100000000) (hM:ys.length<=100000000) :
  ClZ 176 #[.pointer none,u,v] w fun e w'=>∃ v',e=.returned (.tuple #[v',.int .u64 (dD (decide (val xs<val ys)):Nat)])/\Row .u64 w' v' (digs (gO (val xs) (val ys) (max xs.length ys.length)) (max xs.length ys.length))/\Kept aa w w':=by
 refine (Ck none u v xs ys w (TrRoom.none w 1 (by omega)) (RowT.none hu) (RowT.none hv) a b hL hM).mono ?_;rintro e w' ⟨v',rfl,ho,o',hd⟩;exact ⟨v',rfl,zG ho (ag _ _ _),hd.none.2⟩

theorem ye (p:Addr) (w:World) :
  CallsD prog 137 #[.pointer (some p)] .returning w fun e u' w'=>e=.returned (.tuple #[])/\u'=.returning/\w'=w:=by
 refine callsD_of_wpS func137 rfl fun c₀ cs hu=>?_
 apply wpS_seq;apply wpS_region;simp [wpOpsS,go_sem,recoverD,hu,ntmps137,Exit.thenS];apply wpS_seq;apply wpS_seq;apply wpS_region;simp [wpOpsS,go_sem,Exit.thenS];refine wpS_cond (t:=true) (by simp [Act.eval,Array.replicate]) ?_;simp only [if_true];refine wpS_of_wp (wp_ret ?_);cases c₀
 simp_all [bodyPostS,results,results137,Exit.thenS]

theorem GD (p:Addr) (x n:Int) (a:List PanicEntry) (w:World) (hc:w.cell? p=some (.int .i64 x)) (hz:w.frozen? p=false) :
  CallsD prog 137 #[.pointer (some p)] (.panicking (refusal n :: a)) w fun e u' w'=>
   e=.returned (.tuple #[])/\u'=.panicking ({ refusal n with recovered:=true } :: a)/\w'=w.setCell p (.int .i64 n):=by
 refine callsD_of_wpS func137 rfl fun c₀ cs hu=>?_
 apply wpS_seq;apply wpS_region;simp [wpOpsS,go_sem,recoverD,hu,ntmps137,Exit.thenS];apply wpS_seq;apply wpS_seq;apply wpS_region;simp [wpOpsS,go_sem,Exit.thenS];refine wpS_cond (t:=false) (by simp [Act.eval,Array.replicate]) ?_;simp only [mf,if_false];refine wpS_of_wp (wp_skip ?_);simp only [Exit.thenS];refine wpS_of_wp ?_;have b:∀ w:World,(Instr.typeAssert (.iface 35 (.int .i64 n)) 20 35 true).run prog w=.ok (.tuple #[.int .i64 n,.bool true]) w:=fun w=>by kernel_rfl
 have e:(#[Value.pointer (some p)] ++ ((((Array.replicate 15 undef).setIfInBounds 3 (Value.iface 35 (Value.int IntKind.i64 n))).setIfInBounds 0 (Value.iface 35 (Value.int IntKind.i64 n))).setIfInBounds 4 (Value.iface 35 (Value.int IntKind.i64 n))).setIfInBounds 5 (Value.bool false):Array Value)=#[.pointer (some p),.iface 35 (.int .i64 n),undef,undef,.iface 35 (.int .i64 n),.iface 35 (.int .i64 n),.bool false,undef,undef,undef,undef,undef,undef,undef,undef,undef]:=rfl;rw [e];clear e;go_wp2;simp [bodyPostS,results,results137]

theorem nT (f:Nat) (b:Array Value) (w:World) (Q:Int->World->Prop) (he:∀ args w,(callFunc f args).run prog w=.ok (.enter f args) w)
  (h:ClZ f b (w.alloc (.cells #[.int .i64 0] 35)) fun e w'=>w'.heap[w.heap.size]? = some (.cells #[.int .i64 0] 35 (0,0)) /\
   ((e=.returned (.tuple #[])/\Q 0 w')\/∃ n,e=.panicked [refusal n]/\Q n w')) :
  ClZ 86 #[.func (.func f) #[] b] w fun e w'=>∃ n w1,e=.returned (.int .i64 n)/\(Q n w1/\w1.heap[w.heap.size]? = some (.cells #[.int .i64 0] 35 (0,0)))/\w'=w1.setCell ⟨w.heap.size,0,none⟩ (.int .i64 n):=by
 go_enter_defers func86,ntmps86
 go_wp2_with fail;refine h.mono ?_;rintro e w1 ⟨hb,(⟨rfl,hq⟩ | ⟨n,rfl,hq⟩)⟩
 ·have hc:w1.cell? ⟨w.heap.size,0,none⟩=some (.int .i64 0):=by simp [World.cell?,hb]
  have hz:w1.frozen? ⟨w.heap.size,0,none⟩=false:=by simp [World.frozen?,hb]
  clear h;go_wp2_with fail;refine leaves_cons (f:=137) (args:=#[.pointer (some ⟨w.heap.size,0,none⟩)]) (by simp) (by simp [go_sem]) ?_;refine (ye ⟨w.heap.size,0,none⟩ _).mono ?_;rintro e u' c ⟨rfl,rfl,rfl⟩;have a:(w1.setCell ⟨w.heap.size,0,none⟩ (.int .i64 0)).cell? ⟨w.heap.size,0,none⟩=some (.int .i64 0):=World.cell?_setCell_same' _ _ _ (by rw [hc];rfl);simp [Leaves,settle,results,results86,go_sem,a];exact ⟨_,⟨hq,hb⟩,rfl⟩
 ·have hc:w1.cell? ⟨w.heap.size,0,none⟩=some (.int .i64 0):=by simp [World.cell?,hb]
  have hz:w1.frozen? ⟨w.heap.size,0,none⟩=false:=by simp [World.frozen?,hb]
  clear h;refine leaves_cons (f:=137) (args:=#[.pointer (some ⟨w.heap.size,0,none⟩)]) (by simp) (by simp [go_sem]) ?_;refine (GD ⟨w.heap.size,0,none⟩ 0 n [] _ hc hz).mono ?_;rintro e u' c ⟨rfl,rfl,rfl⟩;have a:(w1.setCell ⟨w.heap.size,0,none⟩ (.int .i64 n)).cell? ⟨w.heap.size,0,none⟩=some (.int .i64 n):=World.cell?_setCell_same' _ _ _ (by rw [hc];rfl);simp [Leaves,settle,results,results86,go_sem,a];exact ⟨_,⟨hq,hb⟩,rfl⟩

theorem dH (n:Int) (w:World):ClZ 90 #[.bool false,.int .i64 n] w fun e w'=>e=.returned (.tuple #[])/\w'=w:=by
 delta ClZ;go_in;go_wp2;go_end0
 exact ⟨rfl,rfl⟩

theorem eK (n:Int) (w:World):ClZ 90 #[.bool true,.int .i64 n] w fun e w'=>e=.panicked [refusal n]/\w'=w:=by
 delta ClZ;go_in;go_wp2;exact ⟨rfl,rfl,rfl⟩

theorem mT (ao:OA) (n a:Nat) (w:World):ClZ 144 #[.slice ao n a,.int .i64 0] w fun e w'=>e=.returned (.slice ao n a)/\w'=w:=by
 have hR:=dH 0 w;delta ClZ;go_in;go_wp2_with fail;refine hR.mono ?_;rintro e w' ⟨rfl,rfl⟩;go_wp2;go_ret;exact ⟨rfl,rfl⟩

theorem iK (x:Nat):val [x]=x:=by simp [val]

theorem oY {x:Nat} (hx:x<18446744073709551616):digs x 1=[x]:=jp x 0 hx

theorem qz {V:Nat} (h:V<18446744073709551616^n) (hn:n<=300):dZ V (n:Int)=0/\eR V (n:Int)=digs V n:=by
 have hw:=(aB V n).2 h;have e:dZ V (n:Int)=0:=by
  unfold dZ;rw [aJ,aJ]
 exact ⟨e,by unfold eR;rw [ai e];rfl⟩

theorem ij (V:Nat):al V=(aL V+63)/64:=by
 unfold al aL;by_cases h:V=0
 ·rw [ai h,ai h]
 ·rw [am h,am h];omega

theorem lY (n s q:Nat) (hq:q=(n+s-1)/s) (hn:n<=1000000000000) (b:0<s) (hs:s<=64) (w:World) :
  ClZ 92 #[.int .i64 (n:Int),.int .i64 (s:Int)] w fun e w'=>e=.returned (.int .i64 (q:Int))/\w'=w:=by
 have g1:((n:Int)+(s:Int)-1)/(s:Int)=(q:Int):=by
  rw [hq];have e:(n:Int)+(s:Int)-1=((n+s-1:Nat):Int):=by omega
  rw [e];rfl
 have g2:((n:Int)+(s:Int)-1).tdiv (s:Int)=(q:Int):=by rw [Int.tdiv_eq_ediv_of_nonneg (by omega)];exact g1
 have g3:¬ (s:Int)=0:=by omega
 have a:q<=1000000000100:=by rw [hq];exact aH (el _ _) (by omega)
 clear hq;delta ClZ;go_in;go_wp2_with fail;go_ret;first | exact ⟨rfl,rfl⟩ | exact ⟨by simp_all,rfl⟩

theorem yf (ao:OA) (L a:Nat) (xs:LN) (w:World) (hu:Row .u64 w (.slice ao L a) xs) (hd:Digs xs) :
  ClZ 196 #[.slice ao L a] w fun e w'=>e=.returned (.bool (decide (val xs%2=1)))/\w'=w:=by
 have J:=I6 _ xs 0 w hu hd (by omega);have hb:tX (val xs) 0=val xs%2:=by
  have:=kH (val xs) 0;rw [cZ,fM] at this;exact this
 rw [hb] at J;obtain ⟨V,hV⟩:=aj (val xs)
 rw [<- hV] at J ⊢;clear hu hd hb hV;have h2:V%2=0\/V%2=1:=by omega
 rcases h2 with h2 | h2
 ·rw [h2] at J ⊢;delta ClZ;go_in;go_wp2_with fail;refine J.mono ?_;rintro e w' ⟨rfl,rfl⟩;go_wp2;go_ret;exact ⟨rfl,rfl⟩
 ·rw [h2] at J ⊢;delta ClZ;go_in;go_wp2_with fail;refine J.mono ?_;rintro e w' ⟨rfl,rfl⟩;go_wp2;go_ret;exact ⟨rfl,rfl⟩

theorem si (x:Nat) (hx:x<18446744073709551616) (w:World) :
  ClZ 106 #[.int .u64 (x:Nat),.int .i64 1] w fun r w'=>∃ zo zc,r=.returned (.slice zo 1 zc)/\Row .u64 w' (.slice zo 1 zc) [x]/\Kept aa w w':=by
 refine (F9 x hx 1 w).mono ?_;rintro e w' ⟨v',rfl,hr,k⟩;rw [show jK 1=1 from rfl,oY hx] at hr;obtain ⟨zo,zn,zc,rfl,hl,_,_,_,_⟩:=hr.open;obtain rfl:1=zn:=hl.o;exact ⟨_,_,rfl,hr,k⟩

theorem oI (ao:OA) (L a:Nat) (xs:LN) (y:Nat) (hy:y<18446744073709551616) (R:Bool) (hR:R=decide (val xs<y)) (w:World) (hu:Row .u64 w (.slice ao L a) xs) (hd:Digs xs) :
  ClZ 195 #[.slice ao L a,.int .u64 (y:Nat)] w fun e w'=>e=.returned (.bool R)/\Kept aa w w':=by
 have JW:=si y hy w;have JC:HzD (∀ W u,Kept aa w W->Row .u64 W u [y]->ClZ 60 #[.slice ao L a,u] W fun e w'=>e=.returned (.int .i64 (dh (val xs) y))/\Kept aa w w'):=fun W u k hr=>by
  have h:=nY _ _ xs [y] W (hu.g k) hr hd (Digs.one hy);rw [iK] at h;refine h.mono ?_;rintro e w' ⟨rfl,k'⟩;exact ⟨rfl,k.trans k'⟩
 obtain ⟨V,hV⟩:=aj (val xs)
 rw [<- hV] at JC hR;clear hu hd hV;have h3:V<y\/V=y\/y<V:=by omega
 rcases h3 with h3 | h3 | h3
 ·rw [fu h3] at JC;obtain rfl:R=true:=by rw [hR];exact dR h3
  clear hR h3;delta ClZ;go_in;go_wp2_with fail;refine JW.mono ?_;rintro e w1 ⟨zo,zc,rfl,hr,k⟩;have J:=JC.o _ _ k hr;clear JW;go_wp2_with fail;refine J.mono ?_;rintro e w2 ⟨rfl,k2⟩;have HK:=af k2;clear J k2 k;go_wp2;go_ret;exact ⟨rfl,HK.o⟩
 ·rw [jx h3] at JC;obtain rfl:R=false:=by rw [hR];exact cG (by omega)
  clear hR h3;delta ClZ;go_in;go_wp2_with fail;refine JW.mono ?_;rintro e w1 ⟨zo,zc,rfl,hr,k⟩;have J:=JC.o _ _ k hr;clear JW;go_wp2_with fail;refine J.mono ?_;rintro e w2 ⟨rfl,k2⟩;have HK:=af k2;clear J k2 k;go_wp2;go_ret;exact ⟨rfl,HK.o⟩
 ·rw [jy h3] at JC;obtain rfl:R=false:=by rw [hR];exact cG (by omega)
  clear hR h3;delta ClZ;go_in;go_wp2_with fail;refine JW.mono ?_;rintro e w1 ⟨zo,zc,rfl,hr,k⟩;have J:=JC.o _ _ k hr;clear JW;go_wp2_with fail;refine J.mono ?_;rintro e w2 ⟨rfl,k2⟩;have HK:=af k2;clear J k2 k;go_wp2;go_ret;exact ⟨rfl,HK.o⟩

theorem ED (ao:OA) (L a:Nat) (xs:LN) (X n:Nat) (hX:X=val xs) (hn:n<=300) (hf:X<18446744073709551616^n) (w:World) (hu:Row .u64 w (.slice ao L a) xs) (hd:Digs xs) :
  ClZ 146 #[.slice ao L a,.int .i64 (n:Nat)] w fun e w'=>∃ vo vc,e=.returned (.slice vo n vc)/\Row .u64 w' (.slice vo n vc) (digs X n)/\Fresh w (.slice vo n vc)/\Kept aa w w':=by
 have J:=uZ _ xs (n:Nat) w hu hd;rw [<- hX] at J;obtain ⟨e1,e2⟩:=qz hf hn;rw [e1,e2] at J;clear hu hd e1 e2 hX hf;delta ClZ;go_in;go_wp2_with fail;refine J.mono ?_;rintro e w1 ⟨v,rfl,hr,b,k1⟩;obtain ⟨vo,vn,vc,rfl,hl,_,_,_,_⟩:=hr.open;obtain rfl:n=vn:=by rw [<- hl.o,ag]
 have HR:=af hr;have HN:=af b;have HK:=af k1;have JS:=mT vo n vc w1;clear J hr b k1 hl;go_wp2_with fail;refine JS.mono ?_;rintro e w2 ⟨rfl,rfl⟩;clear JS;go_wp2;go_ret;exact ⟨_,_,rfl,HR.o,HN.o,HK.o⟩

theorem sf (ao:OA) (L a:Nat) (xs:LN) (X n:Nat) (hX:X=val xs) (hn:n=al X) (d:n<=300) (w:World) (hu:Row .u64 w (.slice ao L a) xs) (hd:Digs xs) (hL:xs.length<=1000) :
  ClZ 140 #[.slice ao L a] w fun e w'=>∃ vo vc,e=.returned (.slice vo n vc)/\Row .u64 w' (.slice vo n vc) (digs X n)/\Fresh w (.slice vo n vc)/\Kept aa w w':=by
 have JB:=iO _ xs w hu hd (by omega);rw [<- hX] at JB;have f:aL X<=64*xs.length:=(bf _ _).2 (by rw [aX,hX];exact aC (by omega) hd);have JP:=lY (aL X) 64 n (by rw [hn,ij];rfl) (by omega) (by omega) (by omega) w;have JF:=ED ao L a xs X n hX d ((aB X n).1 (by omega)) w hu hd;obtain ⟨b,hb⟩:=aj (aL X)
 rw [<- hb] at JB JP;clear hu hd f hb hX hn hL d;delta ClZ;go_in;go_wp2_with fail;refine JB.mono ?_;rintro e w1 ⟨rfl,rfl⟩;clear JB;go_wp2_with fail;refine JP.mono ?_;rintro e w1 ⟨rfl,rfl⟩;clear JP;go_wp2_with fail;refine JF.mono ?_;rintro e w1 ⟨vo,vc,rfl,hr,c,k1⟩;have HR:=af hr;have HN:=af c;have HK:=af k1;clear JF hr c k1;go_wp2;go_ret;exact ⟨_,_,rfl,HR.o,HN.o,HK.o⟩

theorem zt (ao:OA) (L b:Nat) (xs:LN) (X:Nat) (hX:X=val xs) (h1:1<=X) (a:xs.length=L) (i:L<=300) (w:World) (hu:Row .u64 w (.slice ao L b) xs) (hd:Digs xs) :
  ClZ 148 #[.slice ao L b] w fun e w'=>∃ vo vc,e=.returned (.slice vo L vc)/\Row .u64 w' (.slice vo L vc) (digs (X-1) L)/\Kept aa w w':=by
 have g:1<=L:=by
  rcases cD L with h | h
  ·rw [h] at a;rw [pD.1 a] at hX;have:val []=0:=rfl;omega
  ·exact h
 have JW:=si 1 (by omega) w;have JS:HzD (∀ W u,Kept aa w W->Row .u64 W u [1]->ClZ 176 #[.pointer none,.slice ao L b,u] W fun e w'=>∃ vo vc c,e=.returned (.tuple #[.slice vo L vc,.int .u64 (c:Nat)])/\Row .u64 w' (.slice vo L vc) (digs (X-1) L)/\Kept aa w w'):=fun W u k hr=>by
  have h:=IY _ _ xs [1] W (hu.g k) hr hd (Digs.one (by omega)) (by omega) (by show 1<=_;omega);rw [iK,<- hX,a,show max L [1].length=L by show max L 1=L;omega] at h;have es:gO X 1 L=X-1:=by
   unfold gO;rw [aJ]
  rw [es] at h;refine h.mono ?_;rintro e w' ⟨v',rfl,d,k'⟩;obtain ⟨vo,vn,vc,rfl,hl,_,_,_,_⟩:=d.open;obtain rfl:L=vn:=by rw [<- hl.o,ag]
  exact ⟨_,_,_,rfl,d,k.trans k'⟩
 clear hu hd hX h1 a;delta ClZ;go_in;go_wp2_with fail;refine JW.mono ?_;rintro e w1 ⟨zo,zc,rfl,hr,k⟩;have J:=JS.o _ _ k hr;clear JW;go_wp2_with fail;refine J.mono ?_;rintro e w2 ⟨vo,vc,c,rfl,f,k2⟩;have HR:=af f;have HK:=af k2;clear J f k2 k hr;go_wp2;go_ret;exact ⟨_,_,rfl,HR.o,HK.o⟩

theorem IS (ao bo:OA) (L M b d:Nat) (xs ys:LN) (X Y:Nat) (hX:X=val xs) (hY:Y=val ys) (l:0<Y) (hL:L<=300) (hM:M<=300) (w:World) (hu:Row .u64 w (.slice ao L b) xs) (hv:Row .u64 w (.slice bo M d) ys) (f:Digs xs) (g:Digs ys) :
  ClZ 200 #[.slice ao L b,.slice bo M d] w fun e w'=>∃ vo vc,e=.returned (.slice vo L vc)/\Row .u64 w' (.slice vo L vc) (digs (X/Y) L)/\Kept aa w w':=by
 have hE:jY (val ys) L M=0:=(ix (X:=X) ⟨hL,hM⟩ (by rw [<- hY];omega)).1;have hQ:pu X (val ys) L M=digs (X/val ys) L:=(ix (X:=X) ⟨hL,hM⟩ (by rw [<- hY];omega)).2.1;have hR:lC X (val ys) L M=digs (X%val ys) M:=(ix (X:=X) ⟨hL,hM⟩ (by rw [<- hY];omega)).2.2;have J:=yw ao bo L M b d xs ys 0 hE.symm w hu hv f g;rw [<- hX,hQ,hR,<- hY] at J;clear hu hv f g hE hQ hR hX hY;delta ClZ;go_in;go_wp2_with fail;refine J.mono ?_;rintro e w1 ⟨v1,v2,rfl,h1,h2,k1⟩;obtain ⟨qo,qn,qc,rfl,h,_,_,_,_⟩:=h1.open;obtain rfl:L=qn:=by rw [<- h.o,ag]
 obtain ⟨so,sn,sc,rfl,i,_,_,_,_⟩:=h2.open;obtain rfl:M=sn:=by rw [<- i.o,ag]
 have j:=af h1;have k:=af h2;have HK:=af k1;have JS:=fun a n c=>mT a n c w1
 clear J h1 h2 k1 h i;go_wp2_with fail;refine (JS _ _ _).mono ?_;rintro e w2 ⟨rfl,rfl⟩;clear JS;go_wp2;go_ret;exact ⟨_,_,rfl,j.o,HK.o⟩

theorem zu (ao bo:OA) (L M b d:Nat) (xs ys:LN) (X Y:Nat) (hX:X=val xs) (hY:Y=val ys) (l:0<Y) (hL:L<=300) (hM:M<=300) (w:World) (hu:Row .u64 w (.slice ao L b) xs) (hv:Row .u64 w (.slice bo M d) ys) (f:Digs xs) (g:Digs ys) :
  ClZ 147 #[.slice ao L b,.slice bo M d] w fun e w'=>∃ vo vc,e=.returned (.slice vo M vc)/\Row .u64 w' (.slice vo M vc) (digs (X%Y) M)/\Kept aa w w':=by
 have hE:jY (val ys) L M=0:=(ix (X:=X) ⟨hL,hM⟩ (by rw [<- hY];omega)).1;have hQ:pu X (val ys) L M=digs (X/val ys) L:=(ix (X:=X) ⟨hL,hM⟩ (by rw [<- hY];omega)).2.1;have hR:lC X (val ys) L M=digs (X%val ys) M:=(ix (X:=X) ⟨hL,hM⟩ (by rw [<- hY];omega)).2.2;have J:=yw ao bo L M b d xs ys 0 hE.symm w hu hv f g;rw [<- hX,hQ,hR,<- hY] at J;clear hu hv f g hE hQ hR hX hY;delta ClZ;go_in;go_wp2_with fail;refine J.mono ?_;rintro e w1 ⟨v1,v2,rfl,h1,h2,k1⟩;obtain ⟨qo,qn,qc,rfl,h,_,_,_,_⟩:=h1.open;obtain rfl:L=qn:=by rw [<- h.o,ag]
 obtain ⟨so,sn,sc,rfl,i,_,_,_,_⟩:=h2.open;obtain rfl:M=sn:=by rw [<- i.o,ag]
 have k:=af h1;have j:=af h2;have HK:=af k1;have JS:=fun a n c=>mT a n c w1
 clear J h1 h2 k1 h i;go_wp2_with fail;refine (JS _ _ _).mono ?_;rintro e w2 ⟨rfl,rfl⟩;clear JS;go_wp2;go_ret;exact ⟨_,_,rfl,j.o,HK.o⟩

theorem Cg (ao bo:OA) (n ac K l bc:Nat) (w:World):ClZ 198 #[.agg #[.slice ao n ac,.int .u64 (K:Nat),.slice bo l bc],.int .i64 0] w fun e w'=>e=.returned (.agg #[.slice ao n ac,.int .u64 (K:Nat),.slice bo l bc])/\Kept aa w w':=by
 have hR:=dH 0;obtain ⟨W,hW⟩:=aj ((w.alloc (.cells #[.slice ao n ac,.int .u64 (K:Nat),.slice bo l bc] 71)).alloc (.cells #[.slice none 0 0,.int .u64 0,.slice none 0 0] 71))
 have k0:Kept aa w W:=by rw [hW];exact ((ah aa w).alloc _).alloc _
 have b1:W.heap[w.heap.size]? = some (.cells #[.slice ao n ac,.int .u64 (K:Nat),.slice bo l bc] 71 (0,0)):=by rw [hW];exact au (heap_alloc_new _ _)
 have b2:W.heap[w.heap.size+1]? = some (.cells #[.slice none 0 0,.int .u64 0,.slice none 0 0] 71 (0,0)):=by
  rw [hW];have:=heap_alloc_new (w.alloc (.cells #[.slice ao n ac,.int .u64 (K:Nat),.slice bo l bc] 71)) (.cells #[.slice none 0 0,.int .u64 0,.slice none 0 0] 71)
  rwa [World.size_alloc] at this
 obtain ⟨c0,c1,c2⟩:=aw b1;obtain ⟨f0,f1,f2⟩:=kC b2;obtain ⟨d0,d1,d2⟩:=aw (tz b2 (.slice ao n ac) (.int .u64 (K:Nat)) (.slice bo l bc));obtain ⟨g0,g1,g2⟩:=aw b2;have a:=af (k0.next (mI W (w.heap.size+1) (.slice ao n ac) (.int .u64 (K:Nat)) (.slice bo l bc)) (fun x hx e=>by omega));have HW:=af hW;clear hW k0 b1 b2;delta ClZ;go_in;go_wp2_with (rw [<- HW.o]);refine (hR W).mono ?_;rintro e w1 ⟨rfl,rfl⟩;clear hR;go_wp2_with fail;exact bodyPost_ret (v:=.agg #[.slice ao n ac,.int .u64 (K:Nat),.slice bo l bc]) (by simp [results,results198,go_sem,d0,d1,d2]) rfl ⟨rfl,a.o⟩

theorem GN (no dO po qo c g j:OA) (nl nc en dl dc pl pc ql qc b a f d i h:Nat) (w:World):ClZ 88 #[.agg #[.slice no nl nc,.int .u64 (en:Nat),.slice dO dl dc,.slice po pl pc,.slice qo ql qc,.slice c b a,.slice g f d,.slice j i h],.int .i64 0] w fun e w'=>e=.returned (.agg #[.slice no nl nc,.int .u64 (en:Nat),.slice dO dl dc,.slice po pl pc,.slice qo ql qc,.slice c b a,.slice g f d,.slice j i h])/\Kept aa w w':=by
 have hR:=dH 0;obtain ⟨W,hW⟩:=aj ((w.alloc (.cells #[.slice no nl nc,.int .u64 (en:Nat),.slice dO dl dc,.slice po pl pc,.slice qo ql qc,.slice c b a,.slice g f d,.slice j i h] 26)).alloc (.cells zeroKey 26))
 have k0:Kept aa w W:=by rw [hW];exact ((ah aa w).alloc _).alloc _
 have b1:W.heap[w.heap.size]? = some (.cells #[.slice no nl nc,.int .u64 (en:Nat),.slice dO dl dc,.slice po pl pc,.slice qo ql qc,.slice c b a,.slice g f d,.slice j i h] 26 (0,0)):=by rw [hW];exact au (heap_alloc_new _ _)
 have b2:W.heap[w.heap.size+1]? = some (.cells zeroKey 26 (0,0)):=by
  rw [hW];have:=heap_alloc_new (w.alloc (.cells #[.slice no nl nc,.int .u64 (en:Nat),.slice dO dl dc,.slice po pl pc,.slice qo ql qc,.slice c b a,.slice g f d,.slice j i h] 26)) (.cells zeroKey 26)
  rwa [World.size_alloc] at this
 obtain ⟨c0,c1,c2,c3,c4,c5,c6,c7⟩:=aY b1;have f0:=cK b2 0;have f1:=cK b2 1;have f2:=cK b2 2;have f3:=cK b2 3;have f4:=cK b2 4;have f5:=cK b2 5;have f6:=cK b2 6;have f7:=cK b2 7;obtain ⟨k,l,-⟩:=mz k0 (by omega) b2 (.slice no nl nc) (.int .u64 (en:Nat)) (.slice dO dl dc) (.slice po pl pc) (.slice qo ql qc) (.slice c b a) (.slice g f d) (.slice j i h);unfold oj at k l;obtain ⟨d0,d1,d2,d3,d4,d5,d6,d7⟩:=aY k;obtain ⟨g0,g1,g2,g3,g4,g5,g6,g7⟩:=aY b2;have m:=af l;have HW:=af hW;clear hW k0 b1 b2 k l;unfold zeroKey at HW;delta ClZ;go_in;go_wp2_with (rw [<- HW.o]);refine (hR W).mono ?_
 rintro e w1 ⟨rfl,rfl⟩;clear hR;go_wp2_with fail;exact bodyPost_ret (v:=.agg #[.slice no nl nc,.int .u64 (en:Nat),.slice dO dl dc,.slice po pl pc,.slice qo ql qc,.slice c b a,.slice g f d,.slice j i h]) (by simp [results,results88,go_sem,d0,d1,d2,d3,d4,d5,d6,d7]) rfl ⟨rfl,m.o⟩

theorem EG (no dO po qo c g j:OA) (nl nc en dl dc pl pc ql qc b a f d i h:Nat) (E:Nat) (hE:E≠0) (w:World):ClZ 88 #[.agg #[.slice no nl nc,.int .u64 (en:Nat),.slice dO dl dc,.slice po pl pc,.slice qo ql qc,.slice c b a,.slice g f d,.slice j i h],.int .i64 (E:Nat)] w fun e w'=>e=.panicked [refusal (E:Nat)]/\Kept aa w w':=by
 have hR:=eK (E:Nat);obtain ⟨W,hW⟩:=aj ((w.alloc (.cells #[.slice no nl nc,.int .u64 (en:Nat),.slice dO dl dc,.slice po pl pc,.slice qo ql qc,.slice c b a,.slice g f d,.slice j i h] 26)).alloc (.cells zeroKey 26))
 have k0:Kept aa w W:=by rw [hW];exact ((ah aa w).alloc _).alloc _
 have b1:W.heap[w.heap.size]? = some (.cells #[.slice no nl nc,.int .u64 (en:Nat),.slice dO dl dc,.slice po pl pc,.slice qo ql qc,.slice c b a,.slice g f d,.slice j i h] 26 (0,0)):=by rw [hW];exact au (heap_alloc_new _ _)
 have b2:W.heap[w.heap.size+1]? = some (.cells zeroKey 26 (0,0)):=by
  rw [hW];have:=heap_alloc_new (w.alloc (.cells #[.slice no nl nc,.int .u64 (en:Nat),.slice dO dl dc,.slice po pl pc,.slice qo ql qc,.slice c b a,.slice g f d,.slice j i h] 26)) (.cells zeroKey 26)
  rwa [World.size_alloc] at this
 obtain ⟨c0,c1,c2,c3,c4,c5,c6,c7⟩:=aY b1;have hb:((E:Int) != 0)=true:=by simp;omega
 have k:=af k0;have HW:=af hW;clear hW k0 b1 b2;unfold zeroKey at HW;delta ClZ;go_in;go_wp2_with (rw [<- HW.o]);try rw [hb]
 refine (hR W).mono ?_;rintro e w1 ⟨rfl,rfl⟩;exact ⟨rfl,rfl,k.o⟩

theorem se (f:Nat) (a:Array Value) (w:World) (E:Nat) (he:∀ args w,(callFunc f args).run prog w=.ok (.enter f args) w)
  (h:ClZ f a (w.alloc (.cells #[.int .i64 0] 35)) fun e w'=>((E=0/\e=.returned (.tuple #[]))\/(E≠0/\e=.panicked [refusal (E:Nat)]))/\Kept aa (w.alloc (.cells #[.int .i64 0] 35)) w') :
  ClZ 86 #[.func (.func f) #[] a] w fun e w'=>e=.returned (.int .i64 (E:Nat))/\Kept aa w w':=by
 have xe:=heap_alloc_new w (.cells #[.int .i64 0] 35);refine (nT f a w (fun n W'=>n=(E:Nat)/\Kept aa (w.alloc (.cells #[.int .i64 0] 35)) W') he (h.mono ?_)).mono ?_
 ·rintro e w' ⟨hc,k⟩;refine ⟨(k.block _ (lt_of_block xe) (fun f=>f)).trans xe,?_⟩;rcases hc with ⟨rfl,rfl⟩ | ⟨_,rfl⟩
  ·exact .inl ⟨rfl,rfl,k⟩
  ·exact .inr ⟨_,rfl,rfl,k⟩
 ·rintro e w' ⟨n,w1,rfl,⟨⟨rfl,k⟩,hb⟩,rfl⟩;exact ⟨rfl,(((ah aa w).alloc _).trans k).setCell _ (fun h=>by simp at h) _⟩

theorem rz {xs:LN} (hd:Digs xs) (hp:0<val xs):xs.length=al (val xs)↔xs.length≠0/\xs.getD (xs.length-1) 0≠0:=by
 constructor
 ·intro h;have h0:xs.length≠0:=fun h0=>by
   rw [pD.1 h0] at hp;exact absurd hp (by decide)
  refine ⟨h0,fun ht=>?_⟩;obtain ⟨n,hn⟩:∃ n,xs.length=n+1:=⟨xs.length-1,by omega⟩
  have e:xs=xs.take n ++ [0]:=by
   have h1:=kh n xs;rw [eF (by omega:n<xs.length),jH] at h1;have h2:xs[n]'(by omega)=0:=by
    rw [hn,gD,ay,aS (by omega)] at ht;exact ht
   rw [h2] at h1;exact h1.symm
  have hv:val xs<18446744073709551616^n:=by
   rw [e,dF,cY,aU];have:=aC (B:=18446744073709551616) (by omega) (hd.take n)
   rwa [aQ,fT] at this
  have:=(aB (val xs) n).2 hv;omega
 ·rintro ⟨_,h⟩;exact oL hd (.inr h)

theorem oh {xs:LN} (hd:Digs xs) (hL:xs.length<=1000) (e:Nat):jE xs e=0↔(32<=aL (val xs)/\aL (val xs)<=8192)/\(xs.length=al (val xs)/\val xs%2=1)/\3<=e/\e<4294967296/\e%2=1:=by
 unfold jE;constructor
 ·intro h;by_cases hc:xs.length=0\/1000<xs.length\/xs.getD (xs.length-1) 0=0\/val xs%2=0\/aL (val xs)<32\/8192<aL (val xs)\/e<3\/e%2=0\/4294967296<=e
  ·rw [ai hc] at h;exact absurd h (by decide)
  ·have h0:0<val xs:=by omega
   have:=(rz hd h0).2 (by omega);omega
 ·rintro ⟨h1,h2,h3⟩;have h0:0<val xs:=by omega
  have:=(rz hd h0).1 h2.1;rw [aJ]

theorem lI (xs:LN) (e:Nat):jE xs e=0\/jE xs e=190:=by
 unfold jE
 split
 ·exact .inr rfl
 ·exact .inl rfl

theorem GM (ao:OA) (L a:Nat) (xs:LN) (w:World) (hu:Row .u64 w (.slice ao L a) xs) (hd:Digs xs) (hL:L<=1000) :
  ClZ 58 #[.slice ao L a] w fun e w'=>e=.returned (.int .i64 (jc (val xs):Nat))/\Kept aa w w':=by
 obtain ⟨_,_,_,e1,hl,-,-,-,-⟩:=hu.open;cases e1
 have c:aL (val xs)<=64*xs.length:=(bf _ _).2 (by rw [aX];exact aC (by omega) hd);have JB:=iO _ xs w hu hd (by rw [hl.o];omega);have JP:=lY (aL (val xs)) 8 (jc (val xs)) rfl (by rw [hl.o] at c;omega) (by omega) (by omega) w;generalize jc (val xs)=s at *;generalize aL (val xs)=b at *;clear hu hd hl c;delta ClZ;go_in;go_wp2_with fail;refine JB.mono ?_;rintro e w1 ⟨rfl,rfl⟩;clear JB;go_wp2_with fail;refine JP.mono ?_;rintro e w1 ⟨rfl,rfl⟩;clear JP;go_wp2;go_ret;exact ⟨rfl,ah _ _⟩

theorem nU (ao:OA) (L a:Nat) (xs:LN) (X n:Nat) (hX:X=val xs) (hn:n=al X) (j:L<=300/\eJ X) (w:World) (hu:Row .u64 w (.slice ao L a) xs) (hd:Digs xs) :
  ClZ 139 #[.slice ao L a] w fun e w'=>∃ vo vc,e=.returned (.slice vo n vc)/\Row .u64 w' (.slice vo n vc) (digs X n)/\Fresh w (.slice vo n vc)/\Kept aa w w':=by
 obtain ⟨_,_,_,e1,hl,-,-,-,-⟩:=hu.open;cases e1
 obtain ⟨hL,h3,ho,hb⟩:=j;have i:n<=300:=by rw [hn];exact aH (cV (n:=128) (by omega)) (by omega)
 have JB:=iO _ xs w hu hd (by rw [hl.o];omega);have JO:HzD (∀ W,Kept aa w W->ClZ 196 #[.slice ao L a] W fun e w'=>e=.returned (.bool true)/\w'=W):=fun W k=>by
  have h:=yf ao L a xs W (hu.g k) hd;rw [<- hX,dR ho] at h;exact h
 have JL:=oI ao L a xs 3 (by omega) false (by symm;exact cG (by omega)) w hu hd;have JN:HzD (∀ W,Kept aa w W->ClZ 140 #[.slice ao L a] W fun e w'=>∃ vo vc,e=.returned (.slice vo n vc)/\Row .u64 w' (.slice vo n vc) (digs X n)/\Fresh W (.slice vo n vc)/\Kept aa W w'):=fun W k=>sf ao L a xs X n hX hn i W (hu.g k) hd (by rw [hl.o];omega)
 have hR:=dH 190;rw [<- hX] at JB;obtain ⟨b,g⟩:=aj (aL X)
 rw [<- g] at JB hb;have g1:¬ (L:Int) > 300:=by omega
 have d:¬ (300:Int)<(L:Int):=by omega
 have g2:¬ (b:Int) > 8192:=by omega
 have f:¬ (8192:Int)<(b:Int):=by omega
 have d1:decide ((300:Int)<(L:Int))=false:=cG d;have d2:decide ((8192:Int)<(b:Int))=false:=cG f;clear hu hd hl hX hn h3 ho hb g i hL;delta ClZ;go_in;go_wp2_with fail;refine JB.mono ?_;rintro e w1 ⟨rfl,rfl⟩;clear JB;go_wp2_with fail;try rw [d2]
 refine (hR _).mono ?_;rintro e w1 ⟨rfl,rfl⟩;clear g1 d g2 f d1 d2;go_wp2_with fail;refine JL.mono ?_;rintro e w1 ⟨rfl,k1⟩;have J2:=JO.o _ k1;have c:=af k1;clear JL k1;go_wp2_with fail;refine J2.mono ?_;rintro e w2 ⟨rfl,rfl⟩;clear J2;go_wp2_with fail;refine (hR _).mono ?_;rintro e w3 ⟨rfl,rfl⟩;have J3:=JN.o _ c.o;clear hR;go_wp2_with fail;refine J3.mono ?_;rintro e w4 ⟨vo,vc,rfl,hr,hf,k4⟩;have HR:=af hr;have HF:=af (hf.b c.o);have HK:=af (c.o.trans k4);clear J3 hr hf k4;go_wp2;go_ret;exact ⟨_,_,rfl,HR.o,HF.o,HK.o⟩

theorem uM (ao:OA) (L c:Nat) (xs:LN) (X:Nat) (hX:X=val xs) (l:L<=1000000) (i:¬ (L<=300/\eJ X)) (w:World) (hu:Row .u64 w (.slice ao L c) xs) (hd:Digs xs) :
  ClZ 139 #[.slice ao L c] w fun e w'=>e=.panicked [refusal 190]/\Kept aa w w':=by
 obtain ⟨_,_,_,e1,hl,-,-,-,-⟩:=hu.open;cases e1
 have hR:=dH 190;have hY:=eK 190;by_cases hL:L<=300
 ·have a:X<3\/X%2=0\/8192<aL X:=by
   have h:¬ eJ X:=fun h=>i ⟨hL,h⟩
   unfold eJ at h;omega
  have JB:=iO _ xs w hu hd (by rw [hl.o];omega);have JO:HzD (∀ W,Kept aa w W->ClZ 196 #[.slice ao L c] W fun e w'=>e=.returned (.bool (decide (X%2=1)))/\w'=W):=fun W k=>by
   have h:=yf ao L c xs W (hu.g k) hd;rw [<- hX] at h;exact h
  have JL:=oI ao L c xs 3 (by omega) (decide (X<3)) (by rw [hX]) w hu hd;rw [<- hX] at JB;obtain ⟨b,j⟩:=aj (aL X)
  rw [<- j] at JB a;have g1:¬ (L:Int) > 300:=by omega
  have d:¬ (300:Int)<(L:Int):=by omega
  have d1:decide ((300:Int)<(L:Int))=false:=cG d;clear hu hd hl hX j i;by_cases h2:8192<b
  ·have g2:(b:Int) > 8192:=by omega
   have f:(8192:Int)<(b:Int):=by omega
   have d2:decide ((8192:Int)<(b:Int))=true:=dR f;clear a h2 JO JL hR;delta ClZ;go_in;go_wp2_with fail;refine JB.mono ?_;rintro e w1 ⟨rfl,rfl⟩;clear JB;go_wp2_with fail;try rw [d2]
   refine (hY _).mono ?_;rintro e w1 ⟨rfl,rfl⟩;exact ⟨rfl,rfl,ah _ _⟩
  ·have g2:¬ (b:Int) > 8192:=by omega
   have f:¬ (8192:Int)<(b:Int):=by omega
   have d2:decide ((8192:Int)<(b:Int))=false:=cG f;by_cases h3:X<3
   ·rw [dR h3] at JL;clear a h2 JO h3;delta ClZ;go_in;go_wp2_with fail;refine JB.mono ?_;rintro e w1 ⟨rfl,rfl⟩;clear JB;go_wp2_with fail;try rw [d2]
    refine (hR _).mono ?_;rintro e w1 ⟨rfl,rfl⟩;clear g1 d g2 f d1 d2 hR;go_wp2_with fail;refine JL.mono ?_;rintro e w1 ⟨rfl,k1⟩;have g:=af k1;clear JL k1;go_wp2_with fail;refine (hY _).mono ?_;rintro e w2 ⟨rfl,rfl⟩;exact ⟨rfl,rfl,g.o⟩
   ·rw [cG h3] at JL;have h4:¬ X%2=1:=by omega
    rw [cG h4] at JO;clear a h2 h3 h4;delta ClZ;go_in;go_wp2_with fail;refine JB.mono ?_;rintro e w1 ⟨rfl,rfl⟩;clear JB;go_wp2_with fail;try rw [d2]
    refine (hR _).mono ?_;rintro e w1 ⟨rfl,rfl⟩;clear g1 d g2 f d1 d2 hR;go_wp2_with fail;refine JL.mono ?_;rintro e w1 ⟨rfl,k1⟩;have J2:=JO.o _ k1;have g:=af k1;clear JL k1;go_wp2_with fail;refine J2.mono ?_;rintro e w2 ⟨rfl,rfl⟩;clear J2;go_wp2_with fail;refine (hY _).mono ?_;rintro e w3 ⟨rfl,rfl⟩;exact ⟨rfl,rfl,g.o⟩
 ·have g1:(L:Int) > 300:=by omega
  have d:(300:Int)<(L:Int):=by omega
  have d1:decide ((300:Int)<(L:Int))=true:=dR d;clear hu hd hl hX i hL l hR;delta ClZ;go_in;go_wp2_with fail;try rw [d1]
  refine (hY _).mono ?_;rintro e w1 ⟨rfl,rfl⟩;exact ⟨rfl,rfl,ah _ _⟩

def Im (P:Prop) (n A M E T F:Nat) (RL:LN):Prop:=((E=0/\P)\/(E=1/\¬ P))/\(E=0->FK A M T F)/\(E=1->F=0)/\RL=if E=0 then digs T n else []

theorem yt {w w':World} {P:Prop} {A M is c:Nat} {v':Value} (h:tQ w none P n A M w' v' is c):∃ T RL,Row .u64 w' v' RL/\Kept aa w w'/\Im P n A M c T is RL:=by
 obtain ⟨zs,m,o',h1,_,d,hp,hn⟩:=h;have k:=d.none.2;by_cases hP:P
 ·obtain ⟨rfl,_,Y,rfl,hY⟩:=hp hP;exact ⟨Y,_,h1,k,.inl ⟨rfl,hP⟩,fun _=>hY,fun h=>absurd h (by decide),rfl⟩
 ·obtain ⟨rfl,rfl,rfl⟩:=hn hP;exact ⟨0,[],h1,k,.inr ⟨rfl,hP⟩,fun h=>absurd h (by decide),fun _=>rfl,rfl⟩

theorem I9 (ao bo xo:OA) (n l K a b N1 xc:Nat) (ms rs xs:LN) (w:World) (hm:Row .u64 w (.slice ao n a) ms) (hr:Row .u64 w (.slice bo l b) rs) (hx:Row .u64 w (.slice xo N1 xc) xs) (f:Digs ms) (i:Digs rs) (d:Digs xs) (hK:K<18446744073709551616) (g:n<=1000000) :
  ClZ 65 #[.pointer none,.agg #[.slice ao n a,.int .u64 (K:Nat),.slice bo l b],.slice xo N1 xc] w fun e w'=>∃ (v':Value) (F E:Nat),e=.returned (.tuple #[v',.int .u64 (F:Nat),.int .i64 (E:Nat)])/\∃ T RL,Row .u64 w' v' RL/\Kept aa w w'/\HzD (Im (okMod ms K rs/\(N1=n/\val xs<val ms)) n (val xs) (val ms) E T F RL):=by
 refine (iOf none ao bo xo n l K a b N1 xc ms rs xs w (TrRoom.none _ _ (by omega)) (RowT.none hm) (RowT.none hr) (RowT.none hx) f i d hK g (.inr rfl)).mono ?_;rintro e w' ⟨v',is,c,rfl,h⟩;obtain ⟨T,RL,h1,h2,h3⟩:=yt h;exact ⟨v',is,c,rfl,T,RL,h1,h2,h3⟩

end Go.Proofs.YtpkmoamgpjcdeaaGreatDoor
