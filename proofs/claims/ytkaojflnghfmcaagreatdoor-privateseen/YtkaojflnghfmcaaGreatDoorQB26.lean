/- Put together of: QuG QuH LimN L5B LimO. -/
import Derived.Test.YtkaojflnghfmcaaGreatDoorQB25

namespace Go.Proofs.YtkaojflnghfmcaaGreatDoor
set_option maxRecDepth 100000
set_option maxHeartbeats 4000000
open Go.RowKit

theorem pC {Y M K:Nat} (h0:0<Y) (hM:Y<18446744073709551616^M) (hK:K=(aF Y+63)/64):0<K∧K≤M∧Y<18446744073709551616^K∧18446744073709551616^(K-1)≤Y:=by
 have h1:¬ aF Y≤0:=fun h=>by have:=(aI Y 0).1 h;simp at this;omega
 have h2:=(aI Y (aF Y)).1 (leR _);have h3:¬ Y<2^(aF Y-1):=fun h=>by have:=(aI Y (aF Y-1)).2 h;omega
 rw [B64] at hM;have h4:=(aI Y (64*M)).2 hM;have a:0<K:=by omega
 refine ⟨a,by omega,?_,?_⟩
 ·rw [B64];exact Nat.lt_of_lt_of_le h2 (Nat.pow_le_pow_right (by omega) (by omega))
 ·rw [B64];exact Nat.le_trans (Nat.pow_le_pow_right (by omega) (by omega)) (Nat.le_of_not_lt h3)

theorem AI (ao bo:Option Addr) (L M aC ax:Nat) (xs ys:List Nat) (X Y:Nat) (hX:X=val xs) (hY:Y=val ys) (aS:0<Y) (w:World) (hu:Row .u64 w (.slice ao L aC) xs) (hv:Row .u64 w (.slice bo M ax) ys) (b5:Digs xs) (bK:Digs ys) (hL:L≤100000) (hM:M≤100000) :
  Calls Tryz.prog 250 #[.slice ao L aC,.slice bo M ax] w fun e w'=>∃ v1 v2,e=.returned (.tuple #[v1,v2]) ∧
   OwnN .u64 24 w' w.heap.size v1 L (digs (X/Y) L)∧OwnN .u64 24 w' w.heap.size v2 M (digs (X%Y) M)∧Kept ae w w':=by
 obtain ⟨i0,ce,cf,cg,ch⟩:=info_parts Tryz.info24;obtain ⟨_,_,_,e1,b4,_,_,_,_⟩:=hu.open;cases e1
 obtain ⟨_,_,_,e1,bI,_,_,_,_⟩:=hv.open;cases e1
 have eL:=aa b4.out;have eM:=aa bI.out;have bJ:Y<18446744073709551616^M:=by rw [hY,← bI.out];exact aD (by omega) bK
 have cd:Hid (X<18446744073709551616^L):=by unfold Hid;rw [hX,← b4.out];exact aD (by omega) b5
 have bc:=fun W (k:Kept ae w W)=>dX _ ys W (hv.grew k) bK (by rw [bI.out];omega)
 rw [← hY] at bc;obtain ⟨K,hK⟩:∃ K,K=(aF Y+63)/64:=⟨_,rfl⟩
 obtain ⟨n1,n2,n3,n4⟩:=pC aS bJ hK;have cE:aF Y≤6400000:=by
  rw [B64] at bJ;have:=(aI Y (64*M)).2 bJ;omega
 generalize aF Y=bl at *;have gK:((bl:Int)+64-1)/64=(K:Int):=by omega
 have HU:=aa hu;have HV:=aa hv;have bH:=aa b5;have aB:=aa bK;have HX:=aa hX;have HY:=aa hY;have av:=aa n3;have cc:=aa n4;obtain ⟨CL,b1⟩:∃ C,C=madeCells #[.int .u64 0] L:=⟨_,rfl⟩
 obtain ⟨CM,b3⟩:∃ C,C=madeCells #[.int .u64 0] M:=⟨_,rfl⟩
 have br:∀ W,(Instr.makeSlice 23 (.int .i64 (L:Int)) (.int .i64 (L:Int))).run Tryz.prog W=.ok (.slice (some ⟨W.heap.size,0,none⟩) L L) (W.alloc (.cells CL 24)):=fun W=>by rw [b1];exact run_make_row (P:=Tryz.prog) _ _ i0 _ Tryz.underlying23 ce cf cg rfl _ _ L (by rw [ch];omega) (by omega) W
 have bs:∀ W,(Instr.makeSlice 23 (.int .i64 (M:Int)) (.int .i64 (M:Int))).run Tryz.prog W=.ok (.slice (some ⟨W.heap.size,0,none⟩) M M) (W.alloc (.cells CM 24)):=fun W=>by rw [b3];exact run_make_row (P:=Tryz.prog) _ _ i0 _ Tryz.underlying23 ce cf cg rfl _ _ M (by rw [ch];omega) (by omega) W
 have bF:=aa b1;have bG:=aa b3;clear hu hv b5 bK b4 bI hX hY bJ hK n3 n4 b1 b3;go_enter Tryz.func250,Tryz.ntmps250;go_wp2_with fail;go_region
 ·have b9:=jc w L M CL CM bF.out bG.out (by omega) (by omega);generalize ((w.alloc (.cells CL 24)).alloc (.cells CM 24)).drew=W1 at *;obtain ⟨aj,ak,k1⟩:=b9;clear br bs bF bG;obtain ⟨_,_,_,e1,_,_,_,_,aA⟩:=(HV.out.grew k1).open;cases e1
  go_wp2_with fail;refine (bc _ k1).mono ?_;rintro e w2 ⟨rfl,rfl⟩;clear bc;have aX:Hid (xs≠[]→∀ b,(Value.slice ao L aC).ownBlock=some b→b<w.heap.size):=fun h b hb=>HU.out.lt h b hb
  by_cases hK1:K=1
  ·subst hK1;have ck:((bl:Int)+64-1)/64=1:=gK;clear gK;obtain ⟨b2,v,rfl,cy⟩:=aA 0 (by omega);have bC:ys.getD 0 0=Y:=by
    rw [← bk (by omega) aB.out,← HY.out,dig,Nat.pow_zero,Nat.div_one];have:=av.out;rw [Nat.pow_one] at this;exact ar this
   have ci:w2.cell? ⟨b2,v,none⟩=some (.int .u64 (Y:Nat)):=by rw [← bC];exact cy
   have ad:Y<18446744073709551616:=by have:=av.out;rwa [Nat.pow_one] at this
   obtain ⟨R,hR⟩:∃ R,R=X%Y:=⟨_,rfl⟩
   have aK:R<18446744073709551616:=by rw [hR];exact Nat.lt_trans (Nat.mod_lt _ aS) ad
   have ab:=Cl w.heap.size w.heap.size L L ao aC xs (List.replicate L 0) X Y R HX.out hR ad aS w2 aj (by simp) (HU.out.grew k1) bH.out (fun h b hb=>by have:=aX.out h b hb;omega) (by omega);have cB:(0:Int)<(M:Int):=by omega
   obtain ⟨M1,be⟩:∃ M1,M=M1+1:=⟨M-1,by omega⟩
   have bY:Hid (digs R M=(List.replicate M 0).set 0 R):=by unfold Hid;rw [be,eF R M1 aK,List.replicate_succ,lsZ]
   have bR:=aa hR;clear aA cy bC be hR;go_wp2_with fail;refine ab.mono ?_;rintro e w3 ⟨rfl,r,k3⟩;have l:=k3.own ak (fun b hb e=>by simp [Value.ownBlock] at hb;omega);have cr:w3.cell? ⟨(w.heap.size+1),0,none⟩=some (.int .u64 0):=by
    rw [World.ownsRow.cellAt l 0 (by omega),List.getElem?_map,List.getElem?_replicate,if_pos (by omega)];rfl
   have fr:=World.ownsRow.frozenAt l 0;have bx:=(World.ownsRow.stored l 0 (.int .u64 (R:Int))).1;have kb:Kept (fun b=>b=(w.heap.size+1)) w3 (w3.setCell ⟨(w.heap.size+1),0,none⟩ (.int .u64 (R:Int))):=aw w3 (w.heap.size+1) _;have HQ:=aa (kb.own r (fun b hb e=>by simp [Value.ownBlock] at hb;omega));have bQ:Hid (OwnN .u64 24 (w3.setCell ⟨(w.heap.size+1),0,none⟩ (.int .u64 (R:Int))) w.heap.size (.slice (some ⟨(w.heap.size+1),0,none⟩) M M) M (digs (X%Y) M)):=by
    unfold Hid OwnN;rw [← bR.out,bY.out,List.map_set];exact bx
   have aE:=aa ((k1.next k3 (fun x hx e=>by omega)).next kb (fun x hx e=>by omega));clear ab l bx kb r k3 aj ak;go_wp2_with fail;go_ret2;exact ⟨_,_,rfl,HQ.out,bQ.out,aE.out⟩
  ·have cj:((K:Int) == 1)=false:=by simp;omega
   have cl:¬ (K:Int)=1:=by omega
   obtain ⟨n,hn⟩:∃ n,n=K-2:=⟨_,rfl⟩
   obtain ⟨nk,aY⟩:∃ nk,nk=K-1:=⟨_,rfl⟩
   obtain ⟨b2,v,rfl,cy⟩:=aA nk (by omega);obtain ⟨t,ht⟩:∃ t,t=Y/18446744073709551616^nk:=⟨_,rfl⟩
   have aT:Y<18446744073709551616^(nk+1):=by rw [show nk+1=K by omega];exact av.out
   have G:0<18446744073709551616^nk:=Nat.pow_pos (by omega);have bz:t<18446744073709551616:=by
    rw [ht,Nat.div_lt_iff_lt_mul G,← Nat.pow_succ'];exact aT
   have ca:0<t:=by rw [ht];exact Nat.div_pos (by rw [aY];exact cc.out) G
   have bD:ys.getD nk 0=t:=by rw [← bk (by omega) aB.out,← HY.out,dig,← ht,ar bz]
   rw [bD] at cy;obtain ⟨s,hs⟩:∃ s,s=64-aF t:=⟨_,rfl⟩
   obtain ⟨aq,v1,v2,v3⟩:=ox aT ht ca hs;rw [show nk+1=K by omega] at v1;have aJ:=fun W=>bLz t bz W
   rw [← hs] at aJ;obtain ⟨V,hV⟩:∃ V,V=Y*2^s:=⟨_,rfl⟩
   rw [← hV] at v1 v2 v3;have bW:=aa hV;obtain ⟨N,hN⟩:∃ N,N=max L K+1:=⟨_,rfl⟩
   have gN:max (L:Int) (K:Int)+1=(N:Int):=by omega
   have cn:(K:Int)-1=(nk:Int):=by omega
   have co:(nk:Int)<(M:Int):=by omega
   have cp:(K:Int)≤(M:Int):=by omega
   have bf:M≤ax:=by obtain ⟨_,_,_,e1,_,hh,_⟩:=HV.out.open;cases e1;exact hh
   have cq:(K:Int)≤(ax:Int):=by omega
   have hcut:∀ W,Kept ae w W→Row .u64 W (.slice (some ⟨b2,v,none⟩) K ax) (ys.take K):=fun W k=>(HV.out.grew k).cut (by rw [eM.out];omega)
   have bB:Y=val (ys.take K):=by rw [ef (by omega) aB.out,← HY.out,ar av.out]
   have aL:=fun W (k:Kept ae w W)=>mJ (some ⟨b2,v,none⟩) K ax (ys.take K) Y s K bB aq W (hcut W k) (aB.out.take K) (by omega) (leR _)
   have bg:=fun W (k:Kept ae w W)=>mJ ao L aC xs X s N HX.out aq W (HU.out.grew k) bH.out (by omega) (by omega)
   rw [← hV] at aL;have H0:Hid (n=K-2∧nk=K-1∧N=max L K+1∧2≤K):=⟨hn,aY,hN,by omega⟩
   clear aA ht hs bD hV hcut bB hn aY hN G aT;go_wp2_with fail;refine (aJ _).mono ?_;rintro e w3 ⟨rfl,rfl⟩;clear aJ;go_wp2_with fail;refine (aL _ k1).mono ?_;rintro e w4 ⟨rfl,a2,k4⟩;have a8:=k1.trans k4;go_wp2_with fail;refine (bg _ a8).mono ?_;rintro e w5 ⟨rfl,H,k5⟩;have cb:=a8.trans k5;have al:=k5.own a2 (fun _ _ f=>f);have B:=(k4.trans k5).own aj (fun _ _ f=>f);have D:=(k4.trans k5).own ak (fun _ _ f=>f);have an:w.heap.size+1<w3.heap.size:=by have h1:=cC aj;have h2:=cC ak;omega
   have ap:w3.heap.size<w4.heap.size:=cC a2;clear aL bg a2 aj ak k1 a8;go_wp2_with fail;obtain ⟨T,hT⟩:∃ T,T=L+1-K:=⟨_,rfl⟩
   have b6:=cC B;have b7:=cC D;have a3:w.heap.size+1<w3.heap.size:=an;have a4:w3.heap.size<w4.heap.size:=ap;obtain ⟨gv,aW⟩:∃ g,g=w3.heap.size:=⟨_,rfl⟩
   obtain ⟨gu,aV⟩:∃ g,g=w4.heap.size:=⟨_,rfl⟩
   have F:OwnN .u64 24 w5 w.heap.size (.slice (some ⟨gu,0,none⟩) N N) N (digs (X*2^s) N):=by
    rw [aV];exact aR H (fun b hb=>by simp [Value.ownBlock] at hb;omega)
   have bv:Row .u64 w5 (.slice (some ⟨gv,0,none⟩) K K) (digs V K):=by rw [aW];exact aU al (af _ _ _)
   rw [← aW,← aV];have dq:w.heap.size≠gu∧(w.heap.size+1)≠gu∧gv≠gu∧gv≠w.heap.size∧w.heap.size≠(w.heap.size+1)∧w.heap.size≤gu:=by omega
   clear H al aW aV a4 a3 b6 b7;obtain ⟨J,O,S,cz⟩:=H0.out;have aP:0<V:=Nat.lt_of_lt_of_le (Nat.mul_pos (by omega) (Nat.pow_pos (by omega))) v3;have aQ:X*2^s<2^s*18446744073709551616^L:=by rw [Nat.mul_comm];exact Nat.mul_lt_mul_of_pos_left cd.out (Nat.pow_pos (by omega))
   have bm:X*2^s<18446744073709551616^N:=oN aQ aq (by omega);obtain ⟨a,c⟩:∃ a,a=digs (X*2^s) N:=⟨_,rfl⟩
   rw [← c] at F;have bt:a.length=N:=by rw [c,af]
   have aZ:Digs a:=by rw [c];exact ai (by omega) _ _
   have a0:val a=X*2^s:=by rw [c,au,ar bm]
   have o:val (a.drop T)<V:=by rw [fT (by omega) aZ,a0];exact jH aQ aq v3 (by omega)
   have q:Hid (a.length=N∧Digs a∧val a=X*2^s):=⟨bt,aZ,a0⟩
   have bp:(digs V K).getD nk 0=dig V nk:=ep _ _ _ _ (by omega);rw [← bp] at v2;have bA:V=val (digs V K):=by rw [au,ar v1]
   have HT:=aa hT;have bS:=aa bv;have bN:=aa F;have bV:=aa v2;have bX:=aa bA;have bT:=aa o;have gT:(L:Int)-(K:Int)+1=(T:Int)∨(T=0∧(L:Int)-(K:Int)+1≤0):=by omega
   obtain ⟨TI,bi⟩:∃ TI,TI=(L:Int)-(K:Int)+1:=⟨_,rfl⟩
   have bb:∀ k:Nat,k≤T→((k:Int)<TI↔k<T):=fun k hk=>by omega
   rw [← bi];clear hT bv F v2 bA o bt aZ a0 c bp bm aQ gT cy bi J O S;go_loopw [63] (fun i wr=>∃ (k:Nat) (zs qs:List Nat),k≤T∧i=.int .i64 (k:Int)∧OwnN .u64 24 wr w.heap.size (.slice (some ⟨gu,0,none⟩) N N) N zs∧OwnN .u64 24 wr w.heap.size (.slice (some ⟨w.heap.size,0,none⟩) L L) L ((List.replicate T 0).take (T-k) ++ (qs ++ List.replicate (L-T) 0))∧Kept (fun b=>b=gu∨b=w.heap.size) w5 wr ∧
     Hid ((zs.length=N∧Digs zs)∧(qs.length=k∧Digs qs)∧zs.take (T-k)=a.take (T-k)∧val (zs.drop (T-k))<V∧V*val qs+val (zs.drop (T-k))=val (a.drop (T-k)))) (fun i _=>T-(intOf i).toNat)
   case atStart=>
    refine ⟨0,a,[],Nat.zero_le _,rfl,bN.out,?_,ag _ _,⟨⟨q.out.1,q.out.2.1⟩,⟨rfl,Digs.nil _⟩,rfl,by rw [Nat.sub_zero];exact bT.out,by rw [val,Nat.mul_zero,Nat.zero_add]⟩⟩;rw [Nat.sub_zero,List.take_of_length_le (by simp),List.nil_append,List.replicate_append_replicate,show T+(L-T)=L by have:=HT.out;omega];exact B
   case round=>
    clear B;obtain ⟨k,zs,qs,hk,rfl,H,r,az,HI⟩:=hrel;by_cases hkT:k<T
    ·have gk:(k:Int)<TI:=(bb k hk).2 hkT;have cF:(0:Int)≤(k:Int):=Int.natCast_nonneg _;have aO:=HT.out;obtain ⟨J,O,S,_⟩:=H0.out;obtain ⟨j,hj⟩:∃ j,j=T-1-k:=⟨_,rfl⟩
     have bj:T-k=j+1:=by omega
     have ac:T-(k+1)=j:=by omega
     have gj:(L:Int)-(K:Int)-(k:Int)=(j:Int):=by omega
     have cm:(j:Int)<(L:Int):=by omega
     have bq:j+(K+1)≤N:=by omega
     obtain ⟨⟨i1,i2⟩,⟨i3,i4⟩,i5,i6,i7⟩:=HI.out;rw [bj] at i5 i6 i7 r;obtain ⟨U,hU⟩:∃ U,U=val ((zs.drop j).take (K+1)):=⟨_,rfl⟩
     obtain ⟨aH,ba⟩:=j3 (by omega) i2 i1 q.out.1 bq v1 aP i6 i5 i7 U hU;obtain ⟨l1,l2,l3,l4,l5⟩:=ba _ rfl;obtain ⟨Q,hQ⟩:∃ Q,Q=U/V:=⟨_,rfl⟩
     obtain ⟨R,hR⟩:∃ R,R=U%V:=⟨_,rfl⟩
     have cD:Q<18446744073709551616:=by rw [hQ,Nat.div_lt_iff_lt_mul aP,Nat.mul_comm];exact aH
     rw [← hR] at l1 l2 l3 l4 l5;rw [← hQ] at l5;have am:Row .u64 wr (.slice (some ⟨gv,0,none⟩) K K) (digs V K):=bS.out.kept az (fun b hb e=>by simp [Value.ownBlock] at hb;omega);have aN:=zF gu w.heap.size N N j n nk K (N-j) (by omega) (by omega) zs (digs V K) (some ⟨gv,0,none⟩) K U V Q R wr H i1 i2 bq (by omega) (by omega) am (ai (by omega) _ _) (fun b hb e=>by simp [Value.ownBlock] at hb;omega) bV.out hU bX.out aH hQ hR;have bd:∀ W,OwnN .u64 24 W w.heap.size (.slice (some ⟨w.heap.size,0,none⟩) L L) L ((List.replicate T 0).take (j+1) ++ (qs ++ List.replicate (L-T) 0))→W.cell? ⟨w.heap.size,j,none⟩=some (.int .u64 0):=fun W h=>by
      rw [World.ownsRow.cellAt h j (by omega),List.getElem?_map,List.getElem?_append_left (by rw [List.length_take,List.length_replicate];omega),List.getElem?_take,if_pos (by omega),List.getElem?_replicate,if_pos (by omega)];rfl
     have aM:Hid (∀ W,OwnN .u64 24 W w.heap.size (.slice (some ⟨w.heap.size,0,none⟩) L L) L ((List.replicate T 0).take (j+1) ++ (qs ++ List.replicate (L-T) 0))→OwnN .u64 24 (W.setCell ⟨w.heap.size,j,none⟩ (.int .u64 (Q:Int))) w.heap.size (.slice (some ⟨w.heap.size,0,none⟩) L L) L ((List.replicate T 0).take j ++ ((Q :: qs) ++ List.replicate (L-T) 0))):=fun W h=>by
      have:=(World.ownsRow.stored h j (.int .u64 (Q:Int))).1;unfold OwnN;rw [List.cons_append,← ju (by rw [List.length_replicate];omega),List.map_set];exact this
     have bM:Hid (((zs.take j ++ (digs R (K+1) ++ zs.drop (j+(K+1)))).length=N∧Digs (zs.take j ++ (digs R (K+1) ++ zs.drop (j+(K+1)))))∧((Q :: qs).length=k+1∧Digs (Q :: qs))∧(zs.take j ++ (digs R (K+1) ++ zs.drop (j+(K+1)))).take j=a.take j∧val ((zs.take j ++ (digs R (K+1) ++ zs.drop (j+(K+1)))).drop j)<V∧V*val (Q :: qs)+val ((zs.take j ++ (digs R (K+1) ++ zs.drop (j+(K+1)))).drop j)=val (a.drop j)):=⟨⟨l1,l2⟩,⟨by rw [List.length_cons,i3],fun d hd=>by rcases List.mem_cons.1 hd with h | h;omega;exact i4 d h⟩,l3,l4,l5⟩
     have I:=aa ac;have bZ:(j:Int)≤(j:Int)+(K:Int)+1:=by omega
     have b0:(j:Int)+(K:Int)+1≤(N:Int):=by omega
     clear HI hj bj ac i1 i2 i3 i4 i5 i6 i7 l1 l2 l3 l4 l5 aH ba hU hQ hR am J O S aO;generalize zs.take j ++ (digs R (K+1) ++ zs.drop (j+(K+1)))=zs2 at *;rw [show K+1=j+K+1-j by omega] at aN;go_wp2_with fail;refine aN.mono ?_;rintro e w6 ⟨rfl,a1,k6⟩;have E:=k6.own r (fun b hb e=>by simp [Value.ownBlock] at hb;omega);have c6:=bd _ E;have f6:=World.ownsRow.frozenAt E j;clear aN bd;go_wp2_with fail;go_roundw
     case rel=>
      have kb:Kept (fun b=>b=w.heap.size) w6 (w6.setCell ⟨w.heap.size,j,none⟩ (.int .u64 (Q:Int))):=(ag (fun b=>b=w.heap.size) w6).setCell ⟨w.heap.size,j,none⟩ (fun _=>rfl) _;refine ⟨k+1,zs2,Q :: qs,by omega,by go_num,kb.own a1 (fun b hb e=>by simp [Value.ownBlock] at hb;omega),?_,(az.next k6 (fun _ _ e=>.inl e)).next kb (fun _ _ e=>.inr e),by rw [I.out];exact bM⟩;rw [I.out];exact aM.out _ E
     case measure=>simp [intOf];omega
    ·have gk:¬ (k:Int)<TI:=fun h=>hkT ((bb k hk).1 h)
     obtain rfl:k=T:=by omega
     obtain ⟨J,O,S,_⟩:=H0.out;have aO:=HT.out;obtain ⟨⟨i1,i2⟩,⟨i3,i4⟩,_,i6,i7⟩:=HI.out;rw [Nat.sub_self,List.drop_zero] at i6 i7;rw [List.drop_zero,q.out.2.2] at i7;rw [Nat.sub_self,List.take_zero,List.nil_append] at r;obtain ⟨d1,d2⟩:=jv (M:=X) (y:=Y) (p:=2^s) (Nat.pow_pos (by omega));rw [← bW.out,← i7] at d1 d2;rw [Nat.mul_add_div aP,Nat.div_eq_of_lt i6,Nat.add_zero] at d1;rw [Nat.mul_add_mod,ar i6] at d2;have bu:qs ++ List.replicate (L-k) 0=digs (X/Y) L:=by
      rw [dU i4 d1 (by omega),i3]
     rw [bu] at r;obtain ⟨Z,hZ⟩:∃ Z,Z=val zs:=⟨_,rfl⟩
     rw [← hZ] at d2;have bE:∀ i,zs.getD i 0=dig Z i:=fun i=>by rw [hZ];exact (bk (by omega) i2 i).symm
     have bn:∀ W,Kept (fun b=>b=(w.heap.size+1)) wr W→∀ i,i<N→W.cell? ⟨gu,i,none⟩=some (.int .u64 (dig Z i:Nat)):=fun W kk i hi=>by
      have h1:=kk.own H (fun b hb e=>by simp [Value.ownBlock] at hb;omega);rw [World.ownsRow.cellAt h1 i (by omega),List.getElem?_map,← bE,List.getD_eq_getElem?_getD,List.getElem?_eq_getElem (by omega)];rfl
     have l:=az.own D (fun b hb e=>by simp [Value.ownBlock] at hb;omega);have a9:=aa bn;have bO:=aa r;have bL:=aa d2;have cA:K+1≤N:=by omega
     obtain ⟨s2,bw⟩:∃ s2,s2=64-s:=⟨_,rfl⟩
     have bZ:(s:Int)≤64:=by omega
     have b0:IntKind.i64.wrap (64-(s:Int))=(s2:Int):=by rw [IntKind.wrap_i64];omega
     have cw:(s2:Int)≤64:=by omega
     have bU:=aa bw;clear HI i1 i2 i3 i4 i6 i7 d1 d2 bu hZ bE bn r H D J O S aO bw;go_wp2_with fail;go_loopw [86] (fun i wz=>∃ (m:Nat),m≤K∧i=.int .i64 (m:Int)∧OwnN .u64 24 wz w.heap.size (.slice (some ⟨(w.heap.size+1),0,none⟩) M M) M (digs (Z/2^s) m ++ List.replicate (M-m) 0)∧Kept (fun b=>b=(w.heap.size+1)) wr wz) (fun i _=>K-(intOf i).toNat)
     case atStart=>exact ⟨0,Nat.zero_le _,rfl,by rw [Nat.sub_zero];exact l,ag _ _⟩
     case round=>
      clear l;obtain ⟨m,hm,rfl,l,ah⟩:=hrel;by_cases hmK:m<K
      ·have cG:(0:Int)≤(m:Int):=Int.natCast_nonneg _;have b8:(m:Int)<(K:Int):=by omega
       obtain ⟨m1,A⟩:∃ m1,m1=m+1:=⟨_,rfl⟩
       have cs:IntKind.i64.wrap ((m:Int)+1)=(m1:Int):=by rw [IntKind.wrap_i64];omega
       have ct:(m:Int)<(N:Int):=by omega
       have cu:(m1:Int)<(N:Int):=by omega
       have cv:(m:Int)<(M:Int):=by omega
       have c1:=a9.out _ ah m (by omega);have c2:=a9.out _ ah m1 (by omega);have ay:=j6 (Z:=Z) (i:=m) aq;rw [← bU.out,← A] at ay;have cr:=er l (af _ _ _) (by omega);have fr:=World.ownsRow.frozenAt l m;have bh:Hid (OwnN .u64 24 (wr.setCell ⟨(w.heap.size+1),m,none⟩ (.int .u64 (dig (Z/2^s) m:Nat))) w.heap.size (.slice (some ⟨(w.heap.size+1),0,none⟩) M M) M (digs (Z/2^s) (m+1) ++ List.replicate (M-(m+1)) 0)):=by
        have:=(World.ownsRow.stored l m (.int .u64 (dig (Z/2^s) m:Nat))).1;unfold Hid OwnN;rw [digs,← fN _ M m _ (af _ _ _) (by omega),List.map_set];exact this
       obtain ⟨z,hz⟩:∃ z,z=dig (Z/2^s) m:=⟨_,rfl⟩
       rw [← hz] at ay bh;obtain ⟨x1,a5⟩:∃ x1,x1=dig Z m:=⟨_,rfl⟩
       obtain ⟨x2,a6⟩:∃ x2,x2=dig Z m1:=⟨_,rfl⟩
       rw [← a5,← a6] at ay;rw [← a5] at c1;rw [← a6] at c2;obtain ⟨xl,a7⟩:∃ xl,xl=x1/2^s:=⟨_,rfl⟩
       rw [← a7] at ay;have cx:(x1:Int)/2^s=(xl:Int):=by rw [a7];simp
       have aG:=aa A;clear hz a5 a6 a7 A l;go_wp2_with fail;go_still_tail 17,(by kernel_rfl)
       change wpList _ _ _ _ _ wr.drew
       go_wp2_with fail;go_roundw
       case rel=>exact ⟨m1,by have:=aG.out;omega,rfl,by rw [aG.out];exact bh.out,(ah.setCell ⟨(w.heap.size+1),m,none⟩ (fun _=>rfl) _).drew⟩
       case measure=>have:=aG.out;simp [intOf];omega
      ·have b8:¬ (m:Int)<(K:Int):=by omega
       obtain rfl:m=K:=by omega
       rw [bL.out] at l;have hf:=dU (m:=M) (ai (by omega) (X%Y) m) (V:=X%Y) (by rw [au,ar (Nat.lt_trans (Nat.mod_lt _ aS) av.out)]) (by rw [af];omega);rw [af] at hf;rw [← hf] at l;have bP:=aa (ah.own bO.out (fun b hb e=>by have e':b=(w.heap.size+1):=e;simp [Value.ownBlock] at hb;omega));have aE:=aa ((cb.next az (fun x hx e=>by rcases e with e | e <;> omega)).next ah (fun x hx e=>by have e':x=(w.heap.size+1):=e;omega));clear hf;go_wp2_with fail;go_ret2;exact ⟨_,_,rfl,bP.out,l,aE.out⟩
 ·have b9:=jc w M L CM CL bG.out bF.out (by omega) (by omega);generalize ((w.alloc (.cells CM 24)).alloc (.cells CL 24)).drew=W1 at *;obtain ⟨ak,aj,k1⟩:=b9;clear br bs bF bG;obtain ⟨_,_,_,e1,_,_,_,_,aA⟩:=(HV.out.grew k1).open;cases e1
  go_wp2_with fail;refine (bc _ k1).mono ?_;rintro e w2 ⟨rfl,rfl⟩;clear bc;have aX:Hid (xs≠[]→∀ b,(Value.slice ao L aC).ownBlock=some b→b<w.heap.size):=fun h b hb=>HU.out.lt h b hb
  by_cases hK1:K=1
  ·subst hK1;have ck:((bl:Int)+64-1)/64=1:=gK;clear gK;obtain ⟨b2,v,rfl,cy⟩:=aA 0 (by omega);have bC:ys.getD 0 0=Y:=by
    rw [← bk (by omega) aB.out,← HY.out,dig,Nat.pow_zero,Nat.div_one];have:=av.out;rw [Nat.pow_one] at this;exact ar this
   have ci:w2.cell? ⟨b2,v,none⟩=some (.int .u64 (Y:Nat)):=by rw [← bC];exact cy
   have ad:Y<18446744073709551616:=by have:=av.out;rwa [Nat.pow_one] at this
   obtain ⟨R,hR⟩:∃ R,R=X%Y:=⟨_,rfl⟩
   have aK:R<18446744073709551616:=by rw [hR];exact Nat.lt_trans (Nat.mod_lt _ aS) ad
   have ab:=Cl (w.heap.size+1) w.heap.size L L ao aC xs (List.replicate L 0) X Y R HX.out hR ad aS w2 aj (by simp) (HU.out.grew k1) bH.out (fun h b hb=>by have:=aX.out h b hb;omega) (by omega);have cB:(0:Int)<(M:Int):=by omega
   obtain ⟨M1,be⟩:∃ M1,M=M1+1:=⟨M-1,by omega⟩
   have bY:Hid (digs R M=(List.replicate M 0).set 0 R):=by unfold Hid;rw [be,eF R M1 aK,List.replicate_succ,lsZ]
   have bR:=aa hR;clear aA cy bC be hR;go_wp2_with fail;refine ab.mono ?_;rintro e w3 ⟨rfl,r,k3⟩;have l:=k3.own ak (fun b hb e=>by simp [Value.ownBlock] at hb;omega);have cr:w3.cell? ⟨w.heap.size,0,none⟩=some (.int .u64 0):=by
    rw [World.ownsRow.cellAt l 0 (by omega),List.getElem?_map,List.getElem?_replicate,if_pos (by omega)];rfl
   have fr:=World.ownsRow.frozenAt l 0;have bx:=(World.ownsRow.stored l 0 (.int .u64 (R:Int))).1;have kb:Kept (fun b=>b=w.heap.size) w3 (w3.setCell ⟨w.heap.size,0,none⟩ (.int .u64 (R:Int))):=aw w3 w.heap.size _;have HQ:=aa (kb.own r (fun b hb e=>by simp [Value.ownBlock] at hb;omega));have bQ:Hid (OwnN .u64 24 (w3.setCell ⟨w.heap.size,0,none⟩ (.int .u64 (R:Int))) w.heap.size (.slice (some ⟨w.heap.size,0,none⟩) M M) M (digs (X%Y) M)):=by
    unfold Hid OwnN;rw [← bR.out,bY.out,List.map_set];exact bx
   have aE:=aa ((k1.next k3 (fun x hx e=>by omega)).next kb (fun x hx e=>by omega));clear ab l bx kb r k3 aj ak;go_wp2_with fail;go_ret2;exact ⟨_,_,rfl,HQ.out,bQ.out,aE.out⟩
  ·have cj:((K:Int) == 1)=false:=by simp;omega
   have cl:¬ (K:Int)=1:=by omega
   obtain ⟨n,hn⟩:∃ n,n=K-2:=⟨_,rfl⟩
   obtain ⟨nk,aY⟩:∃ nk,nk=K-1:=⟨_,rfl⟩
   obtain ⟨b2,v,rfl,cy⟩:=aA nk (by omega);obtain ⟨t,ht⟩:∃ t,t=Y/18446744073709551616^nk:=⟨_,rfl⟩
   have aT:Y<18446744073709551616^(nk+1):=by rw [show nk+1=K by omega];exact av.out
   have G:0<18446744073709551616^nk:=Nat.pow_pos (by omega);have bz:t<18446744073709551616:=by
    rw [ht,Nat.div_lt_iff_lt_mul G,← Nat.pow_succ'];exact aT
   have ca:0<t:=by rw [ht];exact Nat.div_pos (by rw [aY];exact cc.out) G
   have bD:ys.getD nk 0=t:=by rw [← bk (by omega) aB.out,← HY.out,dig,← ht,ar bz]
   rw [bD] at cy;obtain ⟨s,hs⟩:∃ s,s=64-aF t:=⟨_,rfl⟩
   obtain ⟨aq,v1,v2,v3⟩:=ox aT ht ca hs;rw [show nk+1=K by omega] at v1;have aJ:=fun W=>bLz t bz W
   rw [← hs] at aJ;obtain ⟨V,hV⟩:∃ V,V=Y*2^s:=⟨_,rfl⟩
   rw [← hV] at v1 v2 v3;have bW:=aa hV;obtain ⟨N,hN⟩:∃ N,N=max L K+1:=⟨_,rfl⟩
   have gN:max (L:Int) (K:Int)+1=(N:Int):=by omega
   have cn:(K:Int)-1=(nk:Int):=by omega
   have co:(nk:Int)<(M:Int):=by omega
   have cp:(K:Int)≤(M:Int):=by omega
   have bf:M≤ax:=by obtain ⟨_,_,_,e1,_,hh,_⟩:=HV.out.open;cases e1;exact hh
   have cq:(K:Int)≤(ax:Int):=by omega
   have hcut:∀ W,Kept ae w W→Row .u64 W (.slice (some ⟨b2,v,none⟩) K ax) (ys.take K):=fun W k=>(HV.out.grew k).cut (by rw [eM.out];omega)
   have bB:Y=val (ys.take K):=by rw [ef (by omega) aB.out,← HY.out,ar av.out]
   have aL:=fun W (k:Kept ae w W)=>mJ (some ⟨b2,v,none⟩) K ax (ys.take K) Y s K bB aq W (hcut W k) (aB.out.take K) (by omega) (leR _)
   have bg:=fun W (k:Kept ae w W)=>mJ ao L aC xs X s N HX.out aq W (HU.out.grew k) bH.out (by omega) (by omega)
   rw [← hV] at aL;have H0:Hid (n=K-2∧nk=K-1∧N=max L K+1∧2≤K):=⟨hn,aY,hN,by omega⟩
   clear aA ht hs bD hV hcut bB hn aY hN G aT;go_wp2_with fail;refine (aJ _).mono ?_;rintro e w3 ⟨rfl,rfl⟩;clear aJ;go_wp2_with fail;refine (aL _ k1).mono ?_;rintro e w4 ⟨rfl,a2,k4⟩;have a8:=k1.trans k4;go_wp2_with fail;refine (bg _ a8).mono ?_;rintro e w5 ⟨rfl,H,k5⟩;have cb:=a8.trans k5;have al:=k5.own a2 (fun _ _ f=>f);have B:=(k4.trans k5).own aj (fun _ _ f=>f);have D:=(k4.trans k5).own ak (fun _ _ f=>f);have an:w.heap.size+1<w3.heap.size:=by have h1:=cC aj;have h2:=cC ak;omega
   have ap:w3.heap.size<w4.heap.size:=cC a2;clear aL bg a2 aj ak k1 a8;go_wp2_with fail;obtain ⟨T,hT⟩:∃ T,T=L+1-K:=⟨_,rfl⟩
   have b6:=cC B;have b7:=cC D;have a3:w.heap.size+1<w3.heap.size:=an;have a4:w3.heap.size<w4.heap.size:=ap;obtain ⟨gv,aW⟩:∃ g,g=w3.heap.size:=⟨_,rfl⟩
   obtain ⟨gu,aV⟩:∃ g,g=w4.heap.size:=⟨_,rfl⟩
   have F:OwnN .u64 24 w5 w.heap.size (.slice (some ⟨gu,0,none⟩) N N) N (digs (X*2^s) N):=by
    rw [aV];exact aR H (fun b hb=>by simp [Value.ownBlock] at hb;omega)
   have bv:Row .u64 w5 (.slice (some ⟨gv,0,none⟩) K K) (digs V K):=by rw [aW];exact aU al (af _ _ _)
   rw [← aW,← aV];have dq:(w.heap.size+1)≠gu∧w.heap.size≠gu∧gv≠gu∧gv≠(w.heap.size+1)∧(w.heap.size+1)≠w.heap.size∧w.heap.size≤gu:=by omega
   clear H al aW aV a4 a3 b6 b7;obtain ⟨J,O,S,cz⟩:=H0.out;have aP:0<V:=Nat.lt_of_lt_of_le (Nat.mul_pos (by omega) (Nat.pow_pos (by omega))) v3;have aQ:X*2^s<2^s*18446744073709551616^L:=by rw [Nat.mul_comm];exact Nat.mul_lt_mul_of_pos_left cd.out (Nat.pow_pos (by omega))
   have bm:X*2^s<18446744073709551616^N:=oN aQ aq (by omega);obtain ⟨a,c⟩:∃ a,a=digs (X*2^s) N:=⟨_,rfl⟩
   rw [← c] at F;have bt:a.length=N:=by rw [c,af]
   have aZ:Digs a:=by rw [c];exact ai (by omega) _ _
   have a0:val a=X*2^s:=by rw [c,au,ar bm]
   have o:val (a.drop T)<V:=by rw [fT (by omega) aZ,a0];exact jH aQ aq v3 (by omega)
   have q:Hid (a.length=N∧Digs a∧val a=X*2^s):=⟨bt,aZ,a0⟩
   have bp:(digs V K).getD nk 0=dig V nk:=ep _ _ _ _ (by omega);rw [← bp] at v2;have bA:V=val (digs V K):=by rw [au,ar v1]
   have HT:=aa hT;have bS:=aa bv;have bN:=aa F;have bV:=aa v2;have bX:=aa bA;have bT:=aa o;have gT:(L:Int)-(K:Int)+1=(T:Int)∨(T=0∧(L:Int)-(K:Int)+1≤0):=by omega
   obtain ⟨TI,bi⟩:∃ TI,TI=(L:Int)-(K:Int)+1:=⟨_,rfl⟩
   have bb:∀ k:Nat,k≤T→((k:Int)<TI↔k<T):=fun k hk=>by omega
   rw [← bi];clear hT bv F v2 bA o bt aZ a0 c bp bm aQ gT cy bi J O S;go_loopw [63] (fun i wr=>∃ (k:Nat) (zs qs:List Nat),k≤T∧i=.int .i64 (k:Int)∧OwnN .u64 24 wr w.heap.size (.slice (some ⟨gu,0,none⟩) N N) N zs∧OwnN .u64 24 wr w.heap.size (.slice (some ⟨(w.heap.size+1),0,none⟩) L L) L ((List.replicate T 0).take (T-k) ++ (qs ++ List.replicate (L-T) 0))∧Kept (fun b=>b=gu∨b=(w.heap.size+1)) w5 wr ∧
     Hid ((zs.length=N∧Digs zs)∧(qs.length=k∧Digs qs)∧zs.take (T-k)=a.take (T-k)∧val (zs.drop (T-k))<V∧V*val qs+val (zs.drop (T-k))=val (a.drop (T-k)))) (fun i _=>T-(intOf i).toNat)
   case atStart=>
    refine ⟨0,a,[],Nat.zero_le _,rfl,bN.out,?_,ag _ _,⟨⟨q.out.1,q.out.2.1⟩,⟨rfl,Digs.nil _⟩,rfl,by rw [Nat.sub_zero];exact bT.out,by rw [val,Nat.mul_zero,Nat.zero_add]⟩⟩;rw [Nat.sub_zero,List.take_of_length_le (by simp),List.nil_append,List.replicate_append_replicate,show T+(L-T)=L by have:=HT.out;omega];exact B
   case round=>
    clear B;obtain ⟨k,zs,qs,hk,rfl,H,r,az,HI⟩:=hrel;by_cases hkT:k<T
    ·have gk:(k:Int)<TI:=(bb k hk).2 hkT;have cF:(0:Int)≤(k:Int):=Int.natCast_nonneg _;have aO:=HT.out;obtain ⟨J,O,S,_⟩:=H0.out;obtain ⟨j,hj⟩:∃ j,j=T-1-k:=⟨_,rfl⟩
     have bj:T-k=j+1:=by omega
     have ac:T-(k+1)=j:=by omega
     have gj:(L:Int)-(K:Int)-(k:Int)=(j:Int):=by omega
     have cm:(j:Int)<(L:Int):=by omega
     have bq:j+(K+1)≤N:=by omega
     obtain ⟨⟨i1,i2⟩,⟨i3,i4⟩,i5,i6,i7⟩:=HI.out;rw [bj] at i5 i6 i7 r;obtain ⟨U,hU⟩:∃ U,U=val ((zs.drop j).take (K+1)):=⟨_,rfl⟩
     obtain ⟨aH,ba⟩:=j3 (by omega) i2 i1 q.out.1 bq v1 aP i6 i5 i7 U hU;obtain ⟨l1,l2,l3,l4,l5⟩:=ba _ rfl;obtain ⟨Q,hQ⟩:∃ Q,Q=U/V:=⟨_,rfl⟩
     obtain ⟨R,hR⟩:∃ R,R=U%V:=⟨_,rfl⟩
     have cD:Q<18446744073709551616:=by rw [hQ,Nat.div_lt_iff_lt_mul aP,Nat.mul_comm];exact aH
     rw [← hR] at l1 l2 l3 l4 l5;rw [← hQ] at l5;have am:Row .u64 wr (.slice (some ⟨gv,0,none⟩) K K) (digs V K):=bS.out.kept az (fun b hb e=>by simp [Value.ownBlock] at hb;omega);have aN:=zF gu w.heap.size N N j n nk K (N-j) (by omega) (by omega) zs (digs V K) (some ⟨gv,0,none⟩) K U V Q R wr H i1 i2 bq (by omega) (by omega) am (ai (by omega) _ _) (fun b hb e=>by simp [Value.ownBlock] at hb;omega) bV.out hU bX.out aH hQ hR;have bd:∀ W,OwnN .u64 24 W w.heap.size (.slice (some ⟨(w.heap.size+1),0,none⟩) L L) L ((List.replicate T 0).take (j+1) ++ (qs ++ List.replicate (L-T) 0))→W.cell? ⟨(w.heap.size+1),j,none⟩=some (.int .u64 0):=fun W h=>by
      rw [World.ownsRow.cellAt h j (by omega),List.getElem?_map,List.getElem?_append_left (by rw [List.length_take,List.length_replicate];omega),List.getElem?_take,if_pos (by omega),List.getElem?_replicate,if_pos (by omega)];rfl
     have aM:Hid (∀ W,OwnN .u64 24 W w.heap.size (.slice (some ⟨(w.heap.size+1),0,none⟩) L L) L ((List.replicate T 0).take (j+1) ++ (qs ++ List.replicate (L-T) 0))→OwnN .u64 24 (W.setCell ⟨(w.heap.size+1),j,none⟩ (.int .u64 (Q:Int))) w.heap.size (.slice (some ⟨(w.heap.size+1),0,none⟩) L L) L ((List.replicate T 0).take j ++ ((Q :: qs) ++ List.replicate (L-T) 0))):=fun W h=>by
      have:=(World.ownsRow.stored h j (.int .u64 (Q:Int))).1;unfold OwnN;rw [List.cons_append,← ju (by rw [List.length_replicate];omega),List.map_set];exact this
     have bM:Hid (((zs.take j ++ (digs R (K+1) ++ zs.drop (j+(K+1)))).length=N∧Digs (zs.take j ++ (digs R (K+1) ++ zs.drop (j+(K+1)))))∧((Q :: qs).length=k+1∧Digs (Q :: qs))∧(zs.take j ++ (digs R (K+1) ++ zs.drop (j+(K+1)))).take j=a.take j∧val ((zs.take j ++ (digs R (K+1) ++ zs.drop (j+(K+1)))).drop j)<V∧V*val (Q :: qs)+val ((zs.take j ++ (digs R (K+1) ++ zs.drop (j+(K+1)))).drop j)=val (a.drop j)):=⟨⟨l1,l2⟩,⟨by rw [List.length_cons,i3],fun d hd=>by rcases List.mem_cons.1 hd with h | h;omega;exact i4 d h⟩,l3,l4,l5⟩
     have I:=aa ac;have bZ:(j:Int)≤(j:Int)+(K:Int)+1:=by omega
     have b0:(j:Int)+(K:Int)+1≤(N:Int):=by omega
     clear HI hj bj ac i1 i2 i3 i4 i5 i6 i7 l1 l2 l3 l4 l5 aH ba hU hQ hR am J O S aO;generalize zs.take j ++ (digs R (K+1) ++ zs.drop (j+(K+1)))=zs2 at *;rw [show K+1=j+K+1-j by omega] at aN;go_wp2_with fail;refine aN.mono ?_;rintro e w6 ⟨rfl,a1,k6⟩;have E:=k6.own r (fun b hb e=>by simp [Value.ownBlock] at hb;omega);have c6:=bd _ E;have f6:=World.ownsRow.frozenAt E j;clear aN bd;go_wp2_with fail;go_roundw
     case rel=>
      have kb:Kept (fun b=>b=(w.heap.size+1)) w6 (w6.setCell ⟨(w.heap.size+1),j,none⟩ (.int .u64 (Q:Int))):=(ag (fun b=>b=(w.heap.size+1)) w6).setCell ⟨(w.heap.size+1),j,none⟩ (fun _=>rfl) _;refine ⟨k+1,zs2,Q :: qs,by omega,by go_num,kb.own a1 (fun b hb e=>by simp [Value.ownBlock] at hb;omega),?_,(az.next k6 (fun _ _ e=>.inl e)).next kb (fun _ _ e=>.inr e),by rw [I.out];exact bM⟩;rw [I.out];exact aM.out _ E
     case measure=>simp [intOf];omega
    ·have gk:¬ (k:Int)<TI:=fun h=>hkT ((bb k hk).1 h)
     obtain rfl:k=T:=by omega
     obtain ⟨J,O,S,_⟩:=H0.out;have aO:=HT.out;obtain ⟨⟨i1,i2⟩,⟨i3,i4⟩,_,i6,i7⟩:=HI.out;rw [Nat.sub_self,List.drop_zero] at i6 i7;rw [List.drop_zero,q.out.2.2] at i7;rw [Nat.sub_self,List.take_zero,List.nil_append] at r;obtain ⟨d1,d2⟩:=jv (M:=X) (y:=Y) (p:=2^s) (Nat.pow_pos (by omega));rw [← bW.out,← i7] at d1 d2;rw [Nat.mul_add_div aP,Nat.div_eq_of_lt i6,Nat.add_zero] at d1;rw [Nat.mul_add_mod,ar i6] at d2;have bu:qs ++ List.replicate (L-k) 0=digs (X/Y) L:=by
      rw [dU i4 d1 (by omega),i3]
     rw [bu] at r;obtain ⟨Z,hZ⟩:∃ Z,Z=val zs:=⟨_,rfl⟩
     rw [← hZ] at d2;have bE:∀ i,zs.getD i 0=dig Z i:=fun i=>by rw [hZ];exact (bk (by omega) i2 i).symm
     have bn:∀ W,Kept (fun b=>b=w.heap.size) wr W→∀ i,i<N→W.cell? ⟨gu,i,none⟩=some (.int .u64 (dig Z i:Nat)):=fun W kk i hi=>by
      have h1:=kk.own H (fun b hb e=>by simp [Value.ownBlock] at hb;omega);rw [World.ownsRow.cellAt h1 i (by omega),List.getElem?_map,← bE,List.getD_eq_getElem?_getD,List.getElem?_eq_getElem (by omega)];rfl
     have l:=az.own D (fun b hb e=>by simp [Value.ownBlock] at hb;omega);have a9:=aa bn;have bO:=aa r;have bL:=aa d2;have cA:K+1≤N:=by omega
     obtain ⟨s2,bw⟩:∃ s2,s2=64-s:=⟨_,rfl⟩
     have bZ:(s:Int)≤64:=by omega
     have b0:IntKind.i64.wrap (64-(s:Int))=(s2:Int):=by rw [IntKind.wrap_i64];omega
     have cw:(s2:Int)≤64:=by omega
     have bU:=aa bw;clear HI i1 i2 i3 i4 i6 i7 d1 d2 bu hZ bE bn r H D J O S aO bw;go_wp2_with fail;go_loopw [86] (fun i wz=>∃ (m:Nat),m≤K∧i=.int .i64 (m:Int)∧OwnN .u64 24 wz w.heap.size (.slice (some ⟨w.heap.size,0,none⟩) M M) M (digs (Z/2^s) m ++ List.replicate (M-m) 0)∧Kept (fun b=>b=w.heap.size) wr wz) (fun i _=>K-(intOf i).toNat)
     case atStart=>exact ⟨0,Nat.zero_le _,rfl,by rw [Nat.sub_zero];exact l,ag _ _⟩
     case round=>
      clear l;obtain ⟨m,hm,rfl,l,ah⟩:=hrel;by_cases hmK:m<K
      ·have cG:(0:Int)≤(m:Int):=Int.natCast_nonneg _;have b8:(m:Int)<(K:Int):=by omega
       obtain ⟨m1,A⟩:∃ m1,m1=m+1:=⟨_,rfl⟩
       have cs:IntKind.i64.wrap ((m:Int)+1)=(m1:Int):=by rw [IntKind.wrap_i64];omega
       have ct:(m:Int)<(N:Int):=by omega
       have cu:(m1:Int)<(N:Int):=by omega
       have cv:(m:Int)<(M:Int):=by omega
       have c1:=a9.out _ ah m (by omega);have c2:=a9.out _ ah m1 (by omega);have ay:=j6 (Z:=Z) (i:=m) aq;rw [← bU.out,← A] at ay;have cr:=er l (af _ _ _) (by omega);have fr:=World.ownsRow.frozenAt l m;have bh:Hid (OwnN .u64 24 (wr.setCell ⟨w.heap.size,m,none⟩ (.int .u64 (dig (Z/2^s) m:Nat))) w.heap.size (.slice (some ⟨w.heap.size,0,none⟩) M M) M (digs (Z/2^s) (m+1) ++ List.replicate (M-(m+1)) 0)):=by
        have:=(World.ownsRow.stored l m (.int .u64 (dig (Z/2^s) m:Nat))).1;unfold Hid OwnN;rw [digs,← fN _ M m _ (af _ _ _) (by omega),List.map_set];exact this
       obtain ⟨z,hz⟩:∃ z,z=dig (Z/2^s) m:=⟨_,rfl⟩
       rw [← hz] at ay bh;obtain ⟨x1,a5⟩:∃ x1,x1=dig Z m:=⟨_,rfl⟩
       obtain ⟨x2,a6⟩:∃ x2,x2=dig Z m1:=⟨_,rfl⟩
       rw [← a5,← a6] at ay;rw [← a5] at c1;rw [← a6] at c2;obtain ⟨xl,a7⟩:∃ xl,xl=x1/2^s:=⟨_,rfl⟩
       rw [← a7] at ay;have cx:(x1:Int)/2^s=(xl:Int):=by rw [a7];simp
       have aG:=aa A;clear hz a5 a6 a7 A l;go_wp2_with fail;go_still_tail 17,(by kernel_rfl)
       change wpList _ _ _ _ _ wr.drew
       go_wp2_with fail;go_roundw
       case rel=>exact ⟨m1,by have:=aG.out;omega,rfl,by rw [aG.out];exact bh.out,(ah.setCell ⟨w.heap.size,m,none⟩ (fun _=>rfl) _).drew⟩
       case measure=>have:=aG.out;simp [intOf];omega
      ·have b8:¬ (m:Int)<(K:Int):=by omega
       obtain rfl:m=K:=by omega
       rw [bL.out] at l;have hf:=dU (m:=M) (ai (by omega) (X%Y) m) (V:=X%Y) (by rw [au,ar (Nat.lt_trans (Nat.mod_lt _ aS) av.out)]) (by rw [af];omega);rw [af] at hf;rw [← hf] at l;have bP:=aa (ah.own bO.out (fun b hb e=>by have e':b=w.heap.size:=e;simp [Value.ownBlock] at hb;omega));have aE:=aa ((cb.next az (fun x hx e=>by rcases e with e | e <;> omega)).next ah (fun x hx e=>by have e':x=w.heap.size:=e;omega));clear hf;go_wp2_with fail;go_ret2;exact ⟨_,_,rfl,bP.out,l,aE.out⟩

theorem CX (u:Value) (xs:List Nat) (w:World) (hu:Row .u64 w u xs) (a:Digs xs) (hL:xs.length≤100000000) :
  Calls Tryz.prog 236 #[.pointer none,u] w fun e w'=>e=.returned (.int .u64 (aX (decide (val xs=0)):Nat))∧Kept ae w w':=by
 refine (zx none u xs w (TrRoom.none w 1 (by omega)) (RowT.none hu) a hL).mono ?_;rintro e w' ⟨rfl,o',hd⟩;exact ⟨rfl,hd.none.2⟩

theorem yg (ao bo:Option Addr) (L M g h:Nat) (xs ys:List Nat) (X Y:Nat) (hX:X=val xs) (hY:Y=val ys) (bA bB bQ bR:Nat) (w:World) (hu:Row .u64 w (.slice ao L g) xs) (hv:Row .u64 w (.slice bo M h) ys) (v:Digs xs) (m:Digs ys)
  (hA:Box w bA (.slice ao L g) 23) (hB:Box w bB (.slice bo M h) 23) (hQ:Box w bQ (.slice none 0 0) 23) (hR:Box w bR (.slice none 0 0) 23) (x:bQ≠bR) :
  Calls Tryz.prog 249 #[.pointer (some ⟨bA,0,none⟩),.pointer (some ⟨bB,0,none⟩),.pointer (some ⟨bQ,0,none⟩),.pointer (some ⟨bR,0,none⟩)] w fun e w'=>
   (¬ (L≤300∧M≤300)∧e=.panicked [refusal 2]∧w'=w)∨((L≤300∧M≤300)∧Y=0∧e=.panicked [refusal 1]∧Kept ae w w') ∨
   ((L≤300∧M≤300)∧Y≠0∧e=.returned (.tuple #[])∧∃ v1 v2,OwnN .u64 24 w' w.heap.size v1 L (digs (X/Y) L)∧OwnN .u64 24 w' w.heap.size v2 M (digs (X%Y) M)∧Kept (fun b=>b=bQ∨b=bR) w w'∧Box w' bQ v1 23∧Box w' bR v2 23):=by
 obtain ⟨_,_,_,e1,J,_,_,_,_⟩:=hu.open;cases e1
 obtain ⟨_,_,_,e1,s,_,_,_,_⟩:=hv.open;cases e1
 have hP:=fun W=>qJ ao bo L M g h W
 have hZ:=fun (l:M≤300)=>CX _ ys w hv m (by have:=s.out;omega)
 rw [← hY] at hZ;have hD:=fun W (k:Kept ae w W) (l1:L≤300) (l2:M≤300) (h0:0<Y)=>AI ao bo L M g h xs ys X Y hX hY h0 W (hu.grew k) (hv.grew k) v m (by omega) (by omega)
 have cA:=hA.cell;have cB:=hB.cell;have y:=aa hA;have z:=aa hB;have A:=aa hQ;have B:=aa hR;clear hu hv v m J s hA hB hQ hR hX hY;go_enter Tryz.func249,Tryz.ntmps249;go_wp2_with fail;refine (hP _).mono ?_;rintro e w1 ⟨⟨l1,l2,rfl⟩ | ⟨l1,rfl⟩,rfl⟩
 ·obtain ⟨nz,n⟩:∃ nz,nz=aX (decide (Y=0)):=⟨_,rfl⟩
  rw [← n] at hZ;have q:=aa n;clear hP n;go_wp2_with fail;refine (hZ l2).mono ?_;rintro e w2 ⟨rfl,k2⟩;have H:=(y.out.grew k2).cell;have I:=(z.out.grew k2).cell;have o:=A.out.grew k2;have p:=B.out.grew k2;clear hZ cA cB;by_cases h0:Y=0
  ·have en:nz=1:=by rw [q.out,bw h0];rfl
   have gn:((nz:Int) == 1)=true:=by rw [en];rfl
   have j:=iC 1 w2;go_wp2_with fail;refine j.mono ?_;rintro e w4 ⟨rfl,rfl⟩;exact ⟨rfl,.inr (.inl ⟨⟨l1,l2⟩,h0,rfl,k2⟩)⟩
  ·have en:nz=0:=by rw [q.out,aW h0];rfl
   have gn:((nz:Int) == 1)=false:=by rw [en];rfl
   have t:=js 1 w2;have r:=hD w2 k2 l1 l2 (by omega);clear hD;go_wp2_with fail;refine t.mono ?_;rintro e w3 ⟨rfl,rfl⟩;clear t;go_wp2_with fail;refine r.mono ?_;rintro e w4 ⟨v1,v2,rfl,d,f,k4⟩;obtain ⟨xo,xc,rfl⟩:=aZ d;obtain ⟨yo,yc,rfl⟩:=aZ f;have a:=o.grew k4;have c:=p.grew k4;have cQ:=a.cell;have fQ:=a.free;have cR:=c.cell;have fR:=c.free;have N:=o.lt;have O:=p.lt;have P:=k2.size;have kb:Kept (fun b=>b=bQ∨b=bR) w4 (w4.setCell ⟨bQ,0,none⟩ (.slice xo L xc)):=(aw w4 bQ (.slice xo L xc)).mono (fun _ _ e=>.inl e);have i:=kb.next (aw _ bR (.slice yo M yc)) (fun _ _ e=>.inr e)
   have D:=aa (aR (base':=w1.heap.size) (i.own d (fun b hb e=>by have:=(d.lt b hb).1;omega)) (fun b hb=>by have:=(d.lt b hb).1;omega));have E:=aa (aR (base':=w1.heap.size) (i.own f (fun b hb e=>by have:=(f.lt b hb).1;omega)) (fun b hb=>by have:=(f.lt b hb).1;omega));have F:=aa ((a.set (.slice xo L xc)).other ⟨bR,0,none⟩ x (.slice yo M yc));have G:=aa ((c.other ⟨bQ,0,none⟩ (fun e=>x e.symm) (.slice xo L xc)).set (.slice yo M yc));have C:=aa ((k2.trans k4).any.trans i);clear d f a c kb i o p H I r;go_wp2_with fail;go_end0
   exact .inr (.inr ⟨⟨l1,l2⟩,h0,rfl,_,_,D.out,E.out,C.out,F.out,G.out⟩)
 ·exact ⟨rfl,.inl ⟨l1,rfl,rfl⟩⟩

theorem pM (ao bo:Option Addr) (L M d f:Nat) (xs ys:List Nat) (E:Nat) (hE:E=fg (val ys) L M) (w:World) (hu:Row .u64 w (.slice ao L d) xs) (hv:Row .u64 w (.slice bo M f) ys) (C:Digs xs) (D:Digs ys) :
  Calls Tryz.prog 220 #[.slice ao L d,.slice bo M f] w fun e w'=>∃ v1 v2,e=.returned (.tuple #[v1,v2,.int .i64 (E:Nat)]) ∧
   Row .u64 w' v1 (jK (val xs) (val ys) L M)∧Row .u64 w' v2 (fZ (val xs) (val ys) L M)∧Kept ae w w':=by
 have F:=dM;have B:=mw w (.slice ao L d) (.slice bo M f) (.slice none 0 0) (.slice none 0 0) 23 23 23 23;have he:∀ args w,(callFunc 249 args).run Tryz.prog w=.ok (.enter 249 args) w:=fun _ _=>by simp [go_sem]
 obtain ⟨X,hX⟩:∃ X,X=val xs:=⟨_,rfl⟩
 obtain ⟨Y,hY⟩:∃ Y,Y=val ys:=⟨_,rfl⟩
 rw [← hY] at hE;rw [← hX,← hY];have HE:=aa hE;have HX:=aa hX;have HY:=aa hY;clear hE hX hY;go_enter Tryz.func220,Tryz.ntmps220;go_wp2_with fail;generalize (((w.alloc (.cells #[.slice ao L d] 23)).alloc (.cells #[.slice bo M f] 23)).alloc (.cells #[.slice none 0 0] 23)).alloc (.cells #[.slice none 0 0] 23)=W at *;obtain ⟨k0,x2,x3,x4,x5,hs⟩:=B;have k1:=k0.alloc (.cells #[.int .i64 0] 32);have xe:=Box.new W (.int .i64 0) 32;have h1:=yg ao bo L M d f xs ys X Y HX.out HY.out _ _ _ _ _ (hu.grew k1) (hv.grew k1) C D (x2.alloc _) (x3.alloc _) (x4.alloc (.cells #[.int .i64 0] 32)) (x5.alloc _) (by omega)
 have r:(W.alloc (.cells #[.int .i64 0] 32)).heap.size=W.heap.size+1:=by simp
 refine (iX 249 _ W (fun n W'=>n=(E:Int)∧∃ ro rc ln so sc lm,Box W' (w.heap.size+1+1) (.slice ro ln rc) 23∧Box W' (w.heap.size+1+1+1) (.slice so lm sc) 23∧Row .u64 W' (.slice ro ln rc) (jK X Y L M)∧Row .u64 W' (.slice so lm sc) (fZ X Y L M)∧(∀ b,(Value.slice ro ln rc).ownBlock=some b→W.heap.size+1≤b)∧(∀ b,(Value.slice so lm sc).ownBlock=some b→W.heap.size+1≤b)∧Kept ae w W') he (h1.mono ?_)).mono ?_
 ·rintro e w' (⟨hl,rfl,rfl⟩ | ⟨hl,h0,rfl,kz⟩ | ⟨hl,h0,rfl,v1,v2,i,j,hk,g,h⟩)
  ·obtain ⟨e1,e2,e3⟩:=nE (X:=X) (Y:=Y) hl;exact ⟨xe,.inr ⟨2,rfl,by rw [HE.out,e1];rfl,none,0,0,none,0,0,x4.alloc _,x5.alloc _,by rw [e2];exact Row.nil _ _,by rw [e3];exact Row.nil _ _,(fun b hb=>by cases hb),(fun b hb=>by cases hb),k1⟩⟩
  ·obtain ⟨e1,e2,e3⟩:=nF (X:=X) hl h0;exact ⟨xe.grew kz,.inr ⟨1,rfl,by rw [HE.out,e1];rfl,none,0,0,none,0,0,(x4.alloc _).grew kz,(x5.alloc _).grew kz,by rw [e2];exact Row.nil _ _,by rw [e3];exact Row.nil _ _,(fun b hb=>by cases hb),(fun b hb=>by cases hb),k1.trans kz⟩⟩
  ·obtain ⟨e1,e2,e3⟩:=dI (X:=X) hl h0;rw [r] at i j;have G:=xe.kept hk (by omega);obtain ⟨xo,xc,rfl⟩:=aZ i;obtain ⟨yo,yc,rfl⟩:=aZ j;exact ⟨G,.inl ⟨rfl,by rw [HE.out,e1];rfl,xo,xc,L,yo,yc,M,g,h,by rw [e2];exact aU i (af _ _ _),by rw [e3];exact aU j (af _ _ _),(fun b hb=>(i.lt b hb).1),(fun b hb=>(j.lt b hb).1),k1.next hk (fun x hx e=>by rcases e with e | e <;> omega)⟩⟩
 ·rintro e w' ⟨n,w1,rfl,⟨⟨rfl,ro,rc,ln,so,sc,lm,g,h,p,q,l,m,hk⟩,A⟩,rfl⟩;have a:=g.other ⟨W.heap.size,0,none⟩ (by show _≠W.heap.size;omega) (.int .i64 (E:Int));have c:=h.other ⟨W.heap.size,0,none⟩ (by show _≠W.heap.size;omega) (.int .i64 (E:Int));have c1:=a.cell;have f1:=a.free;have c2:=c.cell;have f2:=c.free;have o:w.heap.size+1+1≠w.heap.size+1+1+1:=by omega
  have c3:=((a.set (.slice ro ln rc)).other ⟨w.heap.size+1+1+1,0,none⟩ o (.slice so lm sc)).cell;have c4:=((c.other ⟨w.heap.size+1+1,0,none⟩ o.symm (.slice ro ln rc)).set (.slice so lm sc)).cell;have s:Kept (fun b=>b=W.heap.size∨b=w.heap.size+1+1∨b=w.heap.size+1+1+1) w1 (w1.setCell ⟨W.heap.size,0,none⟩ (.int .i64 (E:Int))):=(aw w1 W.heap.size _).mono (fun _ _ e=>.inl e);have t:=s.next (aw _ (w.heap.size+1+1) (.slice ro ln rc)) (fun _ _ e=>.inr (.inl e))
  have k:=t.next (aw _ (w.heap.size+1+1+1) (.slice so lm sc)) (fun _ _ e=>.inr (.inr e))
  have HK:=aa (hk.next k (fun x hx e=>by rcases e with e | e | e <;> omega));have y:=aa (p.kept k (fun b hb e=>by have:=l b hb;omega));have z:=aa (q.kept k (fun b hb e=>by have:=m b hb;omega));generalize w1.setCell ⟨W.heap.size,0,none⟩ (.int .i64 (E:Int))=W2 at *;clear h1 g h a c p q l m s t k hk A hu hv x2 x3 x4 x5 xe k0 k1 r he F;go_wp2_with fail;go_region
  all_goals
   go_wp2;refine bodyPost_ret (v:=.tuple #[.slice ro ln rc,.slice so lm sc,.int .i64 (E:Nat)]) (by simp [results,Tryz.results220,go_sem,c3,c4]) rfl ?_;exact ⟨_,_,rfl,y.out.grew (ag _ _).drew,z.out.grew (ag _ _).drew,HK.out.drew⟩

theorem qI {w:World} {base n:Nat} {v:Value} {zs:List Nat} (h:OwnN .u64 24 w base v n zs) (hl:zs.length=n):Row .u64 w v zs:=
 Row.of_own (base:=base) (e:=24) (by rw [hl];exact h)

theorem tI (ao bo:Option Addr) (L M a b:Nat) (xs ys:List Nat) (w:World) (hu:Row .u64 w (.slice ao L a) xs) (hv:Row .u64 w (.slice bo M b) ys) (c:Digs xs) (d:Digs ys) :
  Calls Tryz.prog 148 #[.pointer none,.slice ao L a,.slice bo M b] w fun e w'=>∃ v',e=.returned v'∧Row .u64 w' v' (fI (val xs) (val ys) L M)∧Kept ae w w':=by
 refine (Dw none ao bo L M a b xs ys w (TrRoom.none w 300 (by omega)) (RowT.none hu) (RowT.none hv) c d).mono ?_;rintro e w' ⟨v',rfl,hr,_,o',hd⟩;exact ⟨v',rfl,hr,hd.none.2⟩

theorem DI (u v:Value) (xs ys:List Nat) (w:World) (hu:Row .u64 w u xs) (hv:Row .u64 w v ys) (a:Digs xs) (b:Digs ys) (hL:xs.length≤100000000) (hM:ys.length≤100000000) :
  Calls Tryz.prog 147 #[.pointer none,u,v] w fun e w'=>∃ v',e=.returned (.tuple #[v',.int .u64 (aX (decide (2^(64*max xs.length ys.length)≤val xs+val ys)):Nat)])∧Row .u64 w' v' (digs (val xs+val ys) (max xs.length ys.length))∧Kept ae w w':=by
 refine (BY none u v xs ys w (TrRoom.none w 1 (by omega)) (RowT.none hu) (RowT.none hv) a b hL hM).mono ?_;rintro e w' ⟨v',rfl,ho,o',hd⟩;exact ⟨v',rfl,qI ho (af _ _ _),hd.none.2⟩

theorem B2 (u v:Value) (xs ys:List Nat) (w:World) (hu:Row .u64 w u xs) (hv:Row .u64 w v ys) (a:Digs xs) (b:Digs ys) (hL:xs.length≤100000000) (hM:ys.length≤100000000) :
  Calls Tryz.prog 193 #[.pointer none,u,v] w fun e w'=>∃ v',e=.returned (.tuple #[v',.int .u64 (aX (decide (val xs<val ys)):Nat)])∧Row .u64 w' v' (digs (cY (val xs) (val ys) (max xs.length ys.length)) (max xs.length ys.length))∧Kept ae w w':=by
 refine (tv none u v xs ys w (TrRoom.none w 1 (by omega)) (RowT.none hu) (RowT.none hv) a b hL hM).mono ?_;rintro e w' ⟨v',rfl,ho,o',hd⟩;exact ⟨v',rfl,qI ho (af _ _ _),hd.none.2⟩

end Go.Proofs.YtkaojflnghfmcaaGreatDoor
