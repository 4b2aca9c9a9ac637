/- Put together of: QuG Ref5A PrK QuH Ref10A. -/
import Derived.Test.YtcemlfokmjjiaaaGreatDoorPp23

namespace Go.Proofs.YtcemlfokmjjiaaaGreatDoor
set_option maxRecDepth 100000
set_option maxHeartbeats 4000000
open Go.RowKit

theorem oI {Y M K:Nat} (h0:0<Y) (hM:Y<18446744073709551616^M) (hK:K=(au Y+63)/64):0<K∧K≤M∧Y<18446744073709551616^K∧18446744073709551616^(K-1)≤Y:=by
 have h1:¬ au Y≤0:=fun h=>by have:=(aA Y 0).1 h;simp at this;omega
 have h2:=(aA Y (au Y)).1 (leR _);have h3:¬ Y<2^(au Y-1):=fun h=>by have:=(aA Y (au Y-1)).2 h;omega
 rw [B64] at hM;have h4:=(aA Y (64*M)).2 hM;have a:0<K:=by omega
 refine ⟨a,by omega,?_,?_⟩
 ·rw [B64];exact Nat.lt_of_lt_of_le h2 (Nat.pow_le_pow_right (by omega) (by omega))
 ·rw [B64];exact Nat.le_trans (Nat.pow_le_pow_right (by omega) (by omega)) (Nat.le_of_not_lt h3)

theorem Ax (ao bo:Option Addr) (L M cap aB:Nat) (xs ys:List Nat) (X Y:Nat) (hX:X=val xs) (hY:Y=val ys) (aV:0<Y) (w:World) (hu:Row .u64 w (.slice ao L cap) xs) (hv:Row .u64 w (.slice bo M aB) ys) (b4:Digs xs) (bH:Digs ys) (hL:L≤100000) (hM:M≤100000) :
  Calls Tryz.prog 153 #[.slice ao L cap,.slice bo M aB] w fun e w'=>∃ v1 v2,e=.returned (.tuple #[v1,v2]) ∧
   OwnN .u64 23 w' w.heap.size v1 L (ag (X/Y) L)∧OwnN .u64 23 w' w.heap.size v2 M (ag (X%Y) M)∧Kept ae w w':=by
 obtain ⟨i0,cc,ch,ce,cd⟩:=info_parts Tryz.info23;obtain ⟨_,_,_,e1,ca,_,_,_,_⟩:=hu.open;cases e1
 obtain ⟨_,_,_,e1,bF,_,_,_,_⟩:=hv.open;cases e1
 have eL:=aa ca.out;have eM:=aa bF.out;have bG:Y<18446744073709551616^M:=by rw [hY,← bF.out];exact aq (by omega) bH
 have cg:Hid (X<18446744073709551616^L):=by unfold Hid;rw [hX,← ca.out];exact aq (by omega) b4
 have bx:=fun W (k:Kept ae w W)=>dy _ ys W (hv.grew k) bH (by rw [bF.out];omega)
 rw [← hY] at bx;obtain ⟨K,hK⟩:∃ K,K=(au Y+63)/64:=⟨_,rfl⟩
 obtain ⟨n1,n2,n3,n4⟩:=oI aV bG hK;have cs:au Y≤6400000:=by
  rw [B64] at bG;have:=(aA Y (64*M)).2 bG;omega
 generalize au Y=bl at *;have gK:((bl:Int)+64-1)/64=(K:Int):=by omega
 have HU:=aa hu;have HV:=aa hv;have bJ:=aa b4;have aF:=aa bH;have HX:=aa hX;have HY:=aa hY;have az:=aa n3;have cf:=aa n4;obtain ⟨CL,b5⟩:∃ C,C=madeCells #[.int .u64 0] L:=⟨_,rfl⟩
 obtain ⟨CM,bR⟩:∃ C,C=madeCells #[.int .u64 0] M:=⟨_,rfl⟩
 have bs:∀ W,(Instr.makeSlice 32 (.int .i64 (L:Int)) (.int .i64 (L:Int))).run Tryz.prog W=.ok (.slice (some ⟨W.heap.size,0,none⟩) L L) (W.alloc (.cells CL 23)):=fun W=>by rw [b5];exact run_make_row (P:=Tryz.prog) _ _ i0 _ Tryz.underlying32 cc ch ce rfl _ _ L (by rw [cd];omega) (by omega) W
 have bk:∀ W,(Instr.makeSlice 32 (.int .i64 (M:Int)) (.int .i64 (M:Int))).run Tryz.prog W=.ok (.slice (some ⟨W.heap.size,0,none⟩) M M) (W.alloc (.cells CM 23)):=fun W=>by rw [bR];exact run_make_row (P:=Tryz.prog) _ _ i0 _ Tryz.underlying32 cc ch ce rfl _ _ M (by rw [cd];omega) (by omega) W
 have bI:=aa b5;have bK:=aa bR;clear hu hv b4 bH ca bF hX hY bG hK n3 n4 b5 bR;go_enter Tryz.func153,Tryz.ntmps153;go_wp2_with fail;go_region
 ·have bQ:=mI w L M CL CM bI.out bK.out (by omega) (by omega);generalize ((w.alloc (.cells CL 23)).alloc (.cells CM 23)).drew=W1 at *;obtain ⟨av,aw,k1⟩:=bQ;clear bs bk bI bK;obtain ⟨_,_,_,e1,_,_,_,_,aE⟩:=(HV.out.grew k1).open;cases e1
  go_wp2_with fail;refine (bx _ k1).mono ?_;rintro e w2 ⟨rfl,rfl⟩;clear bx;have aW:Hid (xs≠[]→∀ b,(Value.slice ao L cap).ownBlock=some b→b<w.heap.size):=fun h b hb=>HU.out.lt h b hb
  by_cases hK1:K=1
  ·subst hK1;have cp:((bl:Int)+64-1)/64=1:=gK;clear gK;obtain ⟨b2,r,rfl,cy⟩:=aE 0 (by omega);have bg:ys.getD 0 0=Y:=by
    rw [← aN (by omega) aF.out,← HY.out,dig,Nat.pow_zero,Nat.div_one];have:=az.out;rw [Nat.pow_one] at this;exact al this
   have cz:w2.cell? ⟨b2,r,none⟩=some (.int .u64 (Y:Nat)):=by rw [← bg];exact cy
   have ap:Y<18446744073709551616:=by have:=az.out;rwa [Nat.pow_one] at this
   obtain ⟨R,hR⟩:∃ R,R=X%Y:=⟨_,rfl⟩
   have a4:R<18446744073709551616:=by rw [hR];exact Nat.lt_trans (Nat.mod_lt _ aV) ap
   have ac:=Bz w.heap.size w.heap.size L L ao cap xs (List.replicate L 0) X Y R HX.out hR ap aV w2 av (by simp) (HU.out.grew k1) bJ.out (fun h b hb=>by have:=aW.out h b hb;omega) (by omega);have cD:(0:Int)<(M:Int):=by omega
   obtain ⟨M1,bd⟩:∃ M1,M=M1+1:=⟨M-1,by omega⟩
   have bM:Hid (ag R M=(List.replicate M 0).set 0 R):=by unfold Hid;rw [bd,fu R M1 a4,List.replicate_succ,lsZ]
   have b1:=aa hR;clear aE cy bg bd hR;go_wp2_with fail;refine ac.mono ?_;rintro e w3 ⟨rfl,q,k3⟩;have l:=k3.own aw (fun b hb e=>by simp [Value.ownBlock] at hb;omega);have cr:w3.cell? ⟨(w.heap.size+1),0,none⟩=some (.int .u64 0):=by
    rw [World.ownsRow.cellAt l 0 (by omega),List.getElem?_map,List.getElem?_replicate,if_pos (by omega)];rfl
   have fr:=World.ownsRow.frozenAt l 0;have bp:=(World.ownsRow.stored l 0 (.int .u64 (R:Int))).1;have kb:Kept (fun b=>b=(w.heap.size+1)) w3 (w3.setCell ⟨(w.heap.size+1),0,none⟩ (.int .u64 (R:Int))):=ar w3 (w.heap.size+1) _;have HQ:=aa (kb.own q (fun b hb e=>by simp [Value.ownBlock] at hb;omega));have b8:Hid (OwnN .u64 23 (w3.setCell ⟨(w.heap.size+1),0,none⟩ (.int .u64 (R:Int))) w.heap.size (.slice (some ⟨(w.heap.size+1),0,none⟩) M M) M (ag (X%Y) M)):=by
    unfold Hid OwnN;rw [← b1.out,bM.out,List.map_set];exact bp
   have aK:=aa ((k1.next k3 (fun x hx e=>by omega)).next kb (fun x hx e=>by omega));clear ac l bp kb q k3 av aw;go_wp2_with fail;go_ret2;exact ⟨_,_,rfl,HQ.out,b8.out,aK.out⟩
  ·have cF:((K:Int) == 1)=false:=by simp;omega
   have cu:¬ (K:Int)=1:=by omega
   obtain ⟨n,hn⟩:∃ n,n=K-2:=⟨_,rfl⟩
   obtain ⟨nk,a2⟩:∃ nk,nk=K-1:=⟨_,rfl⟩
   obtain ⟨b2,r,rfl,cy⟩:=aE nk (by omega);obtain ⟨t,ht⟩:∃ t,t=Y/18446744073709551616^nk:=⟨_,rfl⟩
   have aI:Y<18446744073709551616^(nk+1):=by rw [show nk+1=K by omega];exact az.out
   have A:0<18446744073709551616^nk:=Nat.pow_pos (by omega);have bw:t<18446744073709551616:=by
    rw [ht,Nat.div_lt_iff_lt_mul A,← Nat.pow_succ'];exact aI
   have b3:0<t:=by rw [ht];exact Nat.div_pos (by rw [a2];exact cf.out) A
   have bi:ys.getD nk 0=t:=by rw [← aN (by omega) aF.out,← HY.out,dig,← ht,al bw]
   rw [bi] at cy;obtain ⟨s,hs⟩:∃ s,s=64-au t:=⟨_,rfl⟩
   obtain ⟨ax,v1,v2,v3⟩:=mG aI ht b3 hs;rw [show nk+1=K by omega] at v1;have aX:=fun W=>bLz t bw W
   rw [← hs] at aX;obtain ⟨V,hV⟩:∃ V,V=Y*2^s:=⟨_,rfl⟩
   rw [← hV] at v1 v2 v3;have b7:=aa hV;obtain ⟨N,hN⟩:∃ N,N=max L K+1:=⟨_,rfl⟩
   have gN:max (L:Int) (K:Int)+1=(N:Int):=by omega
   have cC:(K:Int)-1=(nk:Int):=by omega
   have cE:(nk:Int)<(M:Int):=by omega
   have cm:(K:Int)≤(M:Int):=by omega
   have bn:M≤aB:=by obtain ⟨_,_,_,e1,_,hh,_⟩:=HV.out.open;cases e1;exact hh
   have co:(K:Int)≤(aB:Int):=by omega
   have hcut:∀ W,Kept ae w W→Row .u64 W (.slice (some ⟨b2,r,none⟩) K aB) (ys.take K):=fun W k=>(HV.out.grew k).cut (by rw [eM.out];omega)
   have bA:Y=val (ys.take K):=by rw [eR (by omega) aF.out,← HY.out,al az.out]
   have aG:=fun W (k:Kept ae w W)=>lH (some ⟨b2,r,none⟩) K aB (ys.take K) Y s K bA ax W (hcut W k) (aF.out.take K) (by omega) (leR _)
   have bv:=fun W (k:Kept ae w W)=>lH ao L cap xs X s N HX.out ax W (HU.out.grew k) bJ.out (by omega) (by omega)
   rw [← hV] at aG;have H0:Hid (n=K-2∧nk=K-1∧N=max L K+1∧2≤K):=⟨hn,a2,hN,by omega⟩
   clear aE ht hs bi hV hcut bA hn a2 hN A aI;go_wp2_with fail;refine (aX _).mono ?_;rintro e w3 ⟨rfl,rfl⟩;clear aX;go_wp2_with fail;refine (aG _ k1).mono ?_;rintro e w4 ⟨rfl,a3,k4⟩;have a8:=k1.trans k4;go_wp2_with fail;refine (bv _ a8).mono ?_;rintro e w5 ⟨rfl,H,k5⟩;have bL:=a8.trans k5;have aj:=k5.own a3 (fun _ _ f=>f);have D:=(k4.trans k5).own av (fun _ _ f=>f);have G:=(k4.trans k5).own aw (fun _ _ f=>f);have I:w.heap.size+1<w3.heap.size:=by have h1:=cL av;have h2:=cL aw;omega
   have am:w3.heap.size<w4.heap.size:=cL a3;clear aG bv a3 av aw k1 a8;go_wp2_with fail;obtain ⟨T,hT⟩:∃ T,T=L+1-K:=⟨_,rfl⟩
   have b9:=cL D;have bO:=cL G;have aL:w.heap.size+1<w3.heap.size:=I;have a0:w3.heap.size<w4.heap.size:=am;obtain ⟨gv,a1⟩:∃ g,g=w3.heap.size:=⟨_,rfl⟩
   obtain ⟨gu,aQ⟩:∃ g,g=w4.heap.size:=⟨_,rfl⟩
   have E:OwnN .u64 23 w5 w.heap.size (.slice (some ⟨gu,0,none⟩) N N) N (ag (X*2^s) N):=by
    rw [aQ];exact aU H (fun b hb=>by simp [Value.ownBlock] at hb;omega)
   have bu:Row .u64 w5 (.slice (some ⟨gv,0,none⟩) K K) (ag V K):=by rw [a1];exact aS aj (af _ _ _)
   rw [← a1,← aQ];have dq:w.heap.size≠gu∧(w.heap.size+1)≠gu∧gv≠gu∧gv≠w.heap.size∧w.heap.size≠(w.heap.size+1)∧w.heap.size≤gu:=by omega
   clear H aj a1 aQ a0 aL b9 bO;obtain ⟨ab,ad,S,cw⟩:=H0.out;have a5:0<V:=Nat.lt_of_lt_of_le (Nat.mul_pos (by omega) (Nat.pow_pos (by omega))) v3;have aH:X*2^s<2^s*18446744073709551616^L:=by rw [Nat.mul_comm];exact Nat.mul_lt_mul_of_pos_left cg.out (Nat.pow_pos (by omega))
   have ba:X*2^s<18446744073709551616^N:=mT aH ax (by omega);obtain ⟨a,c⟩:∃ a,a=ag (X*2^s) N:=⟨_,rfl⟩
   rw [← c] at E;have bC:a.length=N:=by rw [c,af]
   have a9:Digs a:=by rw [c];exact ai (by omega) _ _
   have aJ:val a=X*2^s:=by rw [c,ak,al ba]
   have o:val (a.drop T)<V:=by rw [fA (by omega) a9,aJ];exact jc aH ax v3 (by omega)
   have v:Hid (a.length=N∧Digs a∧val a=X*2^s):=⟨bC,a9,aJ⟩
   have bt:(ag V K).getD nk 0=dig V nk:=cY _ _ _ _ (by omega);rw [← bt] at v2;have bb:V=val (ag V K):=by rw [ak,al v1]
   have HT:=aa hT;have b0:=aa bu;have bZ:=aa E;have bT:=aa v2;have bX:=aa bb;have bN:=aa o;have gT:(L:Int)-(K:Int)+1=(T:Int)∨(T=0∧(L:Int)-(K:Int)+1≤0):=by omega
   obtain ⟨TI,bq⟩:∃ TI,TI=(L:Int)-(K:Int)+1:=⟨_,rfl⟩
   have bz:∀ k:Nat,k≤T→((k:Int)<TI↔k<T):=fun k hk=>by omega
   rw [← bq];clear hT bu E v2 bb o bC a9 aJ c bt ba aH gT cy bq ab ad S;go_loopw [63] (fun i wr=>∃ (k:Nat) (zs qs:List Nat),k≤T∧i=.int .i64 (k:Int)∧OwnN .u64 23 wr w.heap.size (.slice (some ⟨gu,0,none⟩) N N) N zs∧OwnN .u64 23 wr w.heap.size (.slice (some ⟨w.heap.size,0,none⟩) L L) L ((List.replicate T 0).take (T-k) ++ (qs ++ List.replicate (L-T) 0))∧Kept (fun b=>b=gu∨b=w.heap.size) w5 wr ∧
     Hid ((zs.length=N∧Digs zs)∧(qs.length=k∧Digs qs)∧zs.take (T-k)=a.take (T-k)∧val (zs.drop (T-k))<V∧V*val qs+val (zs.drop (T-k))=val (a.drop (T-k)))) (fun i _=>T-(intOf i).toNat)
   case atStart=>
    refine ⟨0,a,[],Nat.zero_le _,rfl,bZ.out,?_,ah _ _,⟨⟨v.out.1,v.out.2.1⟩,⟨rfl,Digs.nil _⟩,rfl,by rw [Nat.sub_zero];exact bN.out,by rw [val,Nat.mul_zero,Nat.zero_add]⟩⟩;rw [Nat.sub_zero,List.take_of_length_le (by simp),List.nil_append,List.replicate_append_replicate,show T+(L-T)=L by have:=HT.out;omega];exact D
   case round=>
    clear D;obtain ⟨k,zs,qs,hk,rfl,H,q,aC,HI⟩:=hrel;by_cases hkT:k<T
    ·have gk:(k:Int)<TI:=(bz k hk).2 hkT;have cA:(0:Int)≤(k:Int):=Int.natCast_nonneg _;have aO:=HT.out;obtain ⟨ab,ad,S,_⟩:=H0.out;obtain ⟨j,hj⟩:∃ j,j=T-1-k:=⟨_,rfl⟩
     have be:T-k=j+1:=by omega
     have O:T-(k+1)=j:=by omega
     have gj:(L:Int)-(K:Int)-(k:Int)=(j:Int):=by omega
     have cq:(j:Int)<(L:Int):=by omega
     have br:j+(K+1)≤N:=by omega
     obtain ⟨⟨i1,i2⟩,⟨i3,i4⟩,i5,i6,i7⟩:=HI.out;rw [be] at i5 i6 i7 q;obtain ⟨U,hU⟩:∃ U,U=val ((zs.drop j).take (K+1)):=⟨_,rfl⟩
     obtain ⟨aP,bB⟩:=jN (by omega) i2 i1 v.out.1 br v1 a5 i6 i5 i7 U hU;obtain ⟨l1,l2,l3,l4,l5⟩:=bB _ rfl;obtain ⟨Q,hQ⟩:∃ Q,Q=U/V:=⟨_,rfl⟩
     obtain ⟨R,hR⟩:∃ R,R=U%V:=⟨_,rfl⟩
     have cn:Q<18446744073709551616:=by rw [hQ,Nat.div_lt_iff_lt_mul a5,Nat.mul_comm];exact aP
     rw [← hR] at l1 l2 l3 l4 l5;rw [← hQ] at l5;have an:Row .u64 wr (.slice (some ⟨gv,0,none⟩) K K) (ag V K):=b0.out.kept aC (fun b hb e=>by simp [Value.ownBlock] at hb;omega);have a6:=yv gu w.heap.size N N j n nk K (N-j) (by omega) (by omega) zs (ag V K) (some ⟨gv,0,none⟩) K U V Q R wr H i1 i2 br (by omega) (by omega) an (ai (by omega) _ _) (fun b hb e=>by simp [Value.ownBlock] at hb;omega) bT.out hU bX.out aP hQ hR;have bD:∀ W,OwnN .u64 23 W w.heap.size (.slice (some ⟨w.heap.size,0,none⟩) L L) L ((List.replicate T 0).take (j+1) ++ (qs ++ List.replicate (L-T) 0))→W.cell? ⟨w.heap.size,j,none⟩=some (.int .u64 0):=fun W h=>by
      rw [World.ownsRow.cellAt h j (by omega),List.getElem?_map,List.getElem?_append_left (by rw [List.length_take,List.length_replicate];omega),List.getElem?_take,if_pos (by omega),List.getElem?_replicate,if_pos (by omega)];rfl
     have aZ:Hid (∀ W,OwnN .u64 23 W w.heap.size (.slice (some ⟨w.heap.size,0,none⟩) L L) L ((List.replicate T 0).take (j+1) ++ (qs ++ List.replicate (L-T) 0))→OwnN .u64 23 (W.setCell ⟨w.heap.size,j,none⟩ (.int .u64 (Q:Int))) w.heap.size (.slice (some ⟨w.heap.size,0,none⟩) L L) L ((List.replicate T 0).take j ++ ((Q :: qs) ++ List.replicate (L-T) 0))):=fun W h=>by
      have:=(World.ownsRow.stored h j (.int .u64 (Q:Int))).1;unfold OwnN;rw [List.cons_append,← iY (by rw [List.length_replicate];omega),List.map_set];exact this
     have bY:Hid (((zs.take j ++ (ag R (K+1) ++ zs.drop (j+(K+1)))).length=N∧Digs (zs.take j ++ (ag R (K+1) ++ zs.drop (j+(K+1)))))∧((Q :: qs).length=k+1∧Digs (Q :: qs))∧(zs.take j ++ (ag R (K+1) ++ zs.drop (j+(K+1)))).take j=a.take j∧val ((zs.take j ++ (ag R (K+1) ++ zs.drop (j+(K+1)))).drop j)<V∧V*val (Q :: qs)+val ((zs.take j ++ (ag R (K+1) ++ zs.drop (j+(K+1)))).drop j)=val (a.drop j)):=⟨⟨l1,l2⟩,⟨by rw [List.length_cons,i3],fun d hd=>by rcases List.mem_cons.1 hd with h | h;omega;exact i4 d h⟩,l3,l4,l5⟩
     have ay:=aa O;have bW:(j:Int)≤(j:Int)+(K:Int)+1:=by omega
     have cb:(j:Int)+(K:Int)+1≤(N:Int):=by omega
     clear HI hj be O i1 i2 i3 i4 i5 i6 i7 l1 l2 l3 l4 l5 aP bB hU hQ hR an ab ad S aO;generalize zs.take j ++ (ag R (K+1) ++ zs.drop (j+(K+1)))=zs2 at *;rw [show K+1=j+K+1-j by omega] at a6;go_wp2_with fail;refine a6.mono ?_;rintro e w6 ⟨rfl,aT,k6⟩;have B:=k6.own q (fun b hb e=>by simp [Value.ownBlock] at hb;omega);have c6:=bD _ B;have f6:=World.ownsRow.frozenAt B j;clear a6 bD;go_wp2_with fail;go_roundw
     case rel=>
      have kb:Kept (fun b=>b=w.heap.size) w6 (w6.setCell ⟨w.heap.size,j,none⟩ (.int .u64 (Q:Int))):=(ah (fun b=>b=w.heap.size) w6).setCell ⟨w.heap.size,j,none⟩ (fun _=>rfl) _;refine ⟨k+1,zs2,Q :: qs,by omega,by go_num,kb.own aT (fun b hb e=>by simp [Value.ownBlock] at hb;omega),?_,(aC.next k6 (fun _ _ e=>.inl e)).next kb (fun _ _ e=>.inr e),by rw [ay.out];exact bY⟩;rw [ay.out];exact aZ.out _ B
     case measure=>simp [intOf];omega
    ·have gk:¬ (k:Int)<TI:=fun h=>hkT ((bz k hk).1 h)
     obtain rfl:k=T:=by omega
     obtain ⟨ab,ad,S,_⟩:=H0.out;have aO:=HT.out;obtain ⟨⟨i1,i2⟩,⟨i3,i4⟩,_,i6,i7⟩:=HI.out;rw [Nat.sub_self,List.drop_zero] at i6 i7;rw [List.drop_zero,v.out.2.2] at i7;rw [Nat.sub_self,List.take_zero,List.nil_append] at q;obtain ⟨d1,d2⟩:=iT (M:=X) (y:=Y) (p:=2^s) (Nat.pow_pos (by omega));rw [← b7.out,← i7] at d1 d2;rw [Nat.mul_add_div a5,Nat.div_eq_of_lt i6,Nat.add_zero] at d1;rw [Nat.mul_add_mod,al i6] at d2;have bc:qs ++ List.replicate (L-k) 0=ag (X/Y) L:=by
      rw [dZ i4 d1 (by omega),i3]
     rw [bc] at q;obtain ⟨Z,hZ⟩:∃ Z,Z=val zs:=⟨_,rfl⟩
     rw [← hZ] at d2;have bm:∀ i,zs.getD i 0=dig Z i:=fun i=>by rw [hZ];exact (aN (by omega) i2 i).symm
     have bf:∀ W,Kept (fun b=>b=(w.heap.size+1)) wr W→∀ i,i<N→W.cell? ⟨gu,i,none⟩=some (.int .u64 (dig Z i:Nat)):=fun W kk i hi=>by
      have h1:=kk.own H (fun b hb e=>by simp [Value.ownBlock] at hb;omega);rw [World.ownsRow.cellAt h1 i (by omega),List.getElem?_map,← bm,List.getD_eq_getElem?_getD,List.getElem?_eq_getElem (by omega)];rfl
     have l:=aC.own G (fun b hb e=>by simp [Value.ownBlock] at hb;omega);have bE:=aa bf;have bP:=aa q;have bU:=aa d2;have ci:K+1≤N:=by omega
     obtain ⟨s2,bj⟩:∃ s2,s2=64-s:=⟨_,rfl⟩
     have bW:(s:Int)≤64:=by omega
     have cb:IntKind.i64.wrap (64-(s:Int))=(s2:Int):=by rw [IntKind.wrap_i64];omega
     have ck:(s2:Int)≤64:=by omega
     have b6:=aa bj;clear HI i1 i2 i3 i4 i6 i7 d1 d2 bc hZ bm bf q H G ab ad S aO bj;go_wp2_with fail;go_loopw [86] (fun i wz=>∃ (m:Nat),m≤K∧i=.int .i64 (m:Int)∧OwnN .u64 23 wz w.heap.size (.slice (some ⟨(w.heap.size+1),0,none⟩) M M) M (ag (Z/2^s) m ++ List.replicate (M-m) 0)∧Kept (fun b=>b=(w.heap.size+1)) wr wz) (fun i _=>K-(intOf i).toNat)
     case atStart=>exact ⟨0,Nat.zero_le _,rfl,by rw [Nat.sub_zero];exact l,ah _ _⟩
     case round=>
      clear l;obtain ⟨m,hm,rfl,l,J⟩:=hrel;by_cases hmK:m<K
      ·have cv:(0:Int)≤(m:Int):=Int.natCast_nonneg _;have bV:(m:Int)<(K:Int):=by omega
       obtain ⟨m1,F⟩:∃ m1,m1=m+1:=⟨_,rfl⟩
       have cj:IntKind.i64.wrap ((m:Int)+1)=(m1:Int):=by rw [IntKind.wrap_i64];omega
       have cl:(m:Int)<(N:Int):=by omega
       have cx:(m1:Int)<(N:Int):=by omega
       have cB:(m:Int)<(M:Int):=by omega
       have c1:=bE.out _ J m (by omega);have c2:=bE.out _ J m1 (by omega);have aD:=ju (Z:=Z) (i:=m) ax;rw [← b6.out,← F] at aD;have cr:=el l (af _ _ _) (by omega);have fr:=World.ownsRow.frozenAt l m;have bh:Hid (OwnN .u64 23 (wr.setCell ⟨(w.heap.size+1),m,none⟩ (.int .u64 (dig (Z/2^s) m:Nat))) w.heap.size (.slice (some ⟨(w.heap.size+1),0,none⟩) M M) M (ag (Z/2^s) (m+1) ++ List.replicate (M-(m+1)) 0)):=by
        have:=(World.ownsRow.stored l m (.int .u64 (dig (Z/2^s) m:Nat))).1;unfold Hid OwnN;rw [ag,← fy _ M m _ (af _ _ _) (by omega),List.map_set];exact this
       obtain ⟨z,hz⟩:∃ z,z=dig (Z/2^s) m:=⟨_,rfl⟩
       rw [← hz] at aD bh;obtain ⟨x1,aR⟩:∃ x1,x1=dig Z m:=⟨_,rfl⟩
       obtain ⟨x2,aM⟩:∃ x2,x2=dig Z m1:=⟨_,rfl⟩
       rw [← aR,← aM] at aD;rw [← aR] at c1;rw [← aM] at c2;obtain ⟨xl,aY⟩:∃ xl,xl=x1/2^s:=⟨_,rfl⟩
       rw [← aY] at aD;have ct:(x1:Int)/2^s=(xl:Int):=by rw [aY];simp
       have a7:=aa F;clear hz aR aM aY F l;go_wp2_with fail;go_still_tail 17,(by kernel_rfl)
       change wpList _ _ _ _ _ wr.drew
       go_wp2_with fail;go_roundw
       case rel=>exact ⟨m1,by have:=a7.out;omega,rfl,by rw [a7.out];exact bh.out,(J.setCell ⟨(w.heap.size+1),m,none⟩ (fun _=>rfl) _).drew⟩
       case measure=>have:=a7.out;simp [intOf];omega
      ·have bV:¬ (m:Int)<(K:Int):=by omega
       obtain rfl:m=K:=by omega
       rw [bU.out] at l;have hf:=dZ (m:=M) (ai (by omega) (X%Y) m) (V:=X%Y) (by rw [ak,al (Nat.lt_trans (Nat.mod_lt _ aV) az.out)]) (by rw [af];omega);rw [af] at hf;rw [← hf] at l;have bS:=aa (J.own bP.out (fun b hb e=>by have e':b=(w.heap.size+1):=e;simp [Value.ownBlock] at hb;omega));have aK:=aa ((bL.next aC (fun x hx e=>by rcases e with e | e <;> omega)).next J (fun x hx e=>by have e':x=(w.heap.size+1):=e;omega));clear hf;go_wp2_with fail;go_ret2;exact ⟨_,_,rfl,bS.out,l,aK.out⟩
 ·have bQ:=mI w M L CM CL bK.out bI.out (by omega) (by omega);generalize ((w.alloc (.cells CM 23)).alloc (.cells CL 23)).drew=W1 at *;obtain ⟨aw,av,k1⟩:=bQ;clear bs bk bI bK;obtain ⟨_,_,_,e1,_,_,_,_,aE⟩:=(HV.out.grew k1).open;cases e1
  go_wp2_with fail;refine (bx _ k1).mono ?_;rintro e w2 ⟨rfl,rfl⟩;clear bx;have aW:Hid (xs≠[]→∀ b,(Value.slice ao L cap).ownBlock=some b→b<w.heap.size):=fun h b hb=>HU.out.lt h b hb
  by_cases hK1:K=1
  ·subst hK1;have cp:((bl:Int)+64-1)/64=1:=gK;clear gK;obtain ⟨b2,r,rfl,cy⟩:=aE 0 (by omega);have bg:ys.getD 0 0=Y:=by
    rw [← aN (by omega) aF.out,← HY.out,dig,Nat.pow_zero,Nat.div_one];have:=az.out;rw [Nat.pow_one] at this;exact al this
   have cz:w2.cell? ⟨b2,r,none⟩=some (.int .u64 (Y:Nat)):=by rw [← bg];exact cy
   have ap:Y<18446744073709551616:=by have:=az.out;rwa [Nat.pow_one] at this
   obtain ⟨R,hR⟩:∃ R,R=X%Y:=⟨_,rfl⟩
   have a4:R<18446744073709551616:=by rw [hR];exact Nat.lt_trans (Nat.mod_lt _ aV) ap
   have ac:=Bz (w.heap.size+1) w.heap.size L L ao cap xs (List.replicate L 0) X Y R HX.out hR ap aV w2 av (by simp) (HU.out.grew k1) bJ.out (fun h b hb=>by have:=aW.out h b hb;omega) (by omega);have cD:(0:Int)<(M:Int):=by omega
   obtain ⟨M1,bd⟩:∃ M1,M=M1+1:=⟨M-1,by omega⟩
   have bM:Hid (ag R M=(List.replicate M 0).set 0 R):=by unfold Hid;rw [bd,fu R M1 a4,List.replicate_succ,lsZ]
   have b1:=aa hR;clear aE cy bg bd hR;go_wp2_with fail;refine ac.mono ?_;rintro e w3 ⟨rfl,q,k3⟩;have l:=k3.own aw (fun b hb e=>by simp [Value.ownBlock] at hb;omega);have cr:w3.cell? ⟨w.heap.size,0,none⟩=some (.int .u64 0):=by
    rw [World.ownsRow.cellAt l 0 (by omega),List.getElem?_map,List.getElem?_replicate,if_pos (by omega)];rfl
   have fr:=World.ownsRow.frozenAt l 0;have bp:=(World.ownsRow.stored l 0 (.int .u64 (R:Int))).1;have kb:Kept (fun b=>b=w.heap.size) w3 (w3.setCell ⟨w.heap.size,0,none⟩ (.int .u64 (R:Int))):=ar w3 w.heap.size _;have HQ:=aa (kb.own q (fun b hb e=>by simp [Value.ownBlock] at hb;omega));have b8:Hid (OwnN .u64 23 (w3.setCell ⟨w.heap.size,0,none⟩ (.int .u64 (R:Int))) w.heap.size (.slice (some ⟨w.heap.size,0,none⟩) M M) M (ag (X%Y) M)):=by
    unfold Hid OwnN;rw [← b1.out,bM.out,List.map_set];exact bp
   have aK:=aa ((k1.next k3 (fun x hx e=>by omega)).next kb (fun x hx e=>by omega));clear ac l bp kb q k3 av aw;go_wp2_with fail;go_ret2;exact ⟨_,_,rfl,HQ.out,b8.out,aK.out⟩
  ·have cF:((K:Int) == 1)=false:=by simp;omega
   have cu:¬ (K:Int)=1:=by omega
   obtain ⟨n,hn⟩:∃ n,n=K-2:=⟨_,rfl⟩
   obtain ⟨nk,a2⟩:∃ nk,nk=K-1:=⟨_,rfl⟩
   obtain ⟨b2,r,rfl,cy⟩:=aE nk (by omega);obtain ⟨t,ht⟩:∃ t,t=Y/18446744073709551616^nk:=⟨_,rfl⟩
   have aI:Y<18446744073709551616^(nk+1):=by rw [show nk+1=K by omega];exact az.out
   have A:0<18446744073709551616^nk:=Nat.pow_pos (by omega);have bw:t<18446744073709551616:=by
    rw [ht,Nat.div_lt_iff_lt_mul A,← Nat.pow_succ'];exact aI
   have b3:0<t:=by rw [ht];exact Nat.div_pos (by rw [a2];exact cf.out) A
   have bi:ys.getD nk 0=t:=by rw [← aN (by omega) aF.out,← HY.out,dig,← ht,al bw]
   rw [bi] at cy;obtain ⟨s,hs⟩:∃ s,s=64-au t:=⟨_,rfl⟩
   obtain ⟨ax,v1,v2,v3⟩:=mG aI ht b3 hs;rw [show nk+1=K by omega] at v1;have aX:=fun W=>bLz t bw W
   rw [← hs] at aX;obtain ⟨V,hV⟩:∃ V,V=Y*2^s:=⟨_,rfl⟩
   rw [← hV] at v1 v2 v3;have b7:=aa hV;obtain ⟨N,hN⟩:∃ N,N=max L K+1:=⟨_,rfl⟩
   have gN:max (L:Int) (K:Int)+1=(N:Int):=by omega
   have cC:(K:Int)-1=(nk:Int):=by omega
   have cE:(nk:Int)<(M:Int):=by omega
   have cm:(K:Int)≤(M:Int):=by omega
   have bn:M≤aB:=by obtain ⟨_,_,_,e1,_,hh,_⟩:=HV.out.open;cases e1;exact hh
   have co:(K:Int)≤(aB:Int):=by omega
   have hcut:∀ W,Kept ae w W→Row .u64 W (.slice (some ⟨b2,r,none⟩) K aB) (ys.take K):=fun W k=>(HV.out.grew k).cut (by rw [eM.out];omega)
   have bA:Y=val (ys.take K):=by rw [eR (by omega) aF.out,← HY.out,al az.out]
   have aG:=fun W (k:Kept ae w W)=>lH (some ⟨b2,r,none⟩) K aB (ys.take K) Y s K bA ax W (hcut W k) (aF.out.take K) (by omega) (leR _)
   have bv:=fun W (k:Kept ae w W)=>lH ao L cap xs X s N HX.out ax W (HU.out.grew k) bJ.out (by omega) (by omega)
   rw [← hV] at aG;have H0:Hid (n=K-2∧nk=K-1∧N=max L K+1∧2≤K):=⟨hn,a2,hN,by omega⟩
   clear aE ht hs bi hV hcut bA hn a2 hN A aI;go_wp2_with fail;refine (aX _).mono ?_;rintro e w3 ⟨rfl,rfl⟩;clear aX;go_wp2_with fail;refine (aG _ k1).mono ?_;rintro e w4 ⟨rfl,a3,k4⟩;have a8:=k1.trans k4;go_wp2_with fail;refine (bv _ a8).mono ?_;rintro e w5 ⟨rfl,H,k5⟩;have bL:=a8.trans k5;have aj:=k5.own a3 (fun _ _ f=>f);have D:=(k4.trans k5).own av (fun _ _ f=>f);have G:=(k4.trans k5).own aw (fun _ _ f=>f);have I:w.heap.size+1<w3.heap.size:=by have h1:=cL av;have h2:=cL aw;omega
   have am:w3.heap.size<w4.heap.size:=cL a3;clear aG bv a3 av aw k1 a8;go_wp2_with fail;obtain ⟨T,hT⟩:∃ T,T=L+1-K:=⟨_,rfl⟩
   have b9:=cL D;have bO:=cL G;have aL:w.heap.size+1<w3.heap.size:=I;have a0:w3.heap.size<w4.heap.size:=am;obtain ⟨gv,a1⟩:∃ g,g=w3.heap.size:=⟨_,rfl⟩
   obtain ⟨gu,aQ⟩:∃ g,g=w4.heap.size:=⟨_,rfl⟩
   have E:OwnN .u64 23 w5 w.heap.size (.slice (some ⟨gu,0,none⟩) N N) N (ag (X*2^s) N):=by
    rw [aQ];exact aU H (fun b hb=>by simp [Value.ownBlock] at hb;omega)
   have bu:Row .u64 w5 (.slice (some ⟨gv,0,none⟩) K K) (ag V K):=by rw [a1];exact aS aj (af _ _ _)
   rw [← a1,← aQ];have dq:(w.heap.size+1)≠gu∧w.heap.size≠gu∧gv≠gu∧gv≠(w.heap.size+1)∧(w.heap.size+1)≠w.heap.size∧w.heap.size≤gu:=by omega
   clear H aj a1 aQ a0 aL b9 bO;obtain ⟨ab,ad,S,cw⟩:=H0.out;have a5:0<V:=Nat.lt_of_lt_of_le (Nat.mul_pos (by omega) (Nat.pow_pos (by omega))) v3;have aH:X*2^s<2^s*18446744073709551616^L:=by rw [Nat.mul_comm];exact Nat.mul_lt_mul_of_pos_left cg.out (Nat.pow_pos (by omega))
   have ba:X*2^s<18446744073709551616^N:=mT aH ax (by omega);obtain ⟨a,c⟩:∃ a,a=ag (X*2^s) N:=⟨_,rfl⟩
   rw [← c] at E;have bC:a.length=N:=by rw [c,af]
   have a9:Digs a:=by rw [c];exact ai (by omega) _ _
   have aJ:val a=X*2^s:=by rw [c,ak,al ba]
   have o:val (a.drop T)<V:=by rw [fA (by omega) a9,aJ];exact jc aH ax v3 (by omega)
   have v:Hid (a.length=N∧Digs a∧val a=X*2^s):=⟨bC,a9,aJ⟩
   have bt:(ag V K).getD nk 0=dig V nk:=cY _ _ _ _ (by omega);rw [← bt] at v2;have bb:V=val (ag V K):=by rw [ak,al v1]
   have HT:=aa hT;have b0:=aa bu;have bZ:=aa E;have bT:=aa v2;have bX:=aa bb;have bN:=aa o;have gT:(L:Int)-(K:Int)+1=(T:Int)∨(T=0∧(L:Int)-(K:Int)+1≤0):=by omega
   obtain ⟨TI,bq⟩:∃ TI,TI=(L:Int)-(K:Int)+1:=⟨_,rfl⟩
   have bz:∀ k:Nat,k≤T→((k:Int)<TI↔k<T):=fun k hk=>by omega
   rw [← bq];clear hT bu E v2 bb o bC a9 aJ c bt ba aH gT cy bq ab ad S;go_loopw [63] (fun i wr=>∃ (k:Nat) (zs qs:List Nat),k≤T∧i=.int .i64 (k:Int)∧OwnN .u64 23 wr w.heap.size (.slice (some ⟨gu,0,none⟩) N N) N zs∧OwnN .u64 23 wr w.heap.size (.slice (some ⟨(w.heap.size+1),0,none⟩) L L) L ((List.replicate T 0).take (T-k) ++ (qs ++ List.replicate (L-T) 0))∧Kept (fun b=>b=gu∨b=(w.heap.size+1)) w5 wr ∧
     Hid ((zs.length=N∧Digs zs)∧(qs.length=k∧Digs qs)∧zs.take (T-k)=a.take (T-k)∧val (zs.drop (T-k))<V∧V*val qs+val (zs.drop (T-k))=val (a.drop (T-k)))) (fun i _=>T-(intOf i).toNat)
   case atStart=>
    refine ⟨0,a,[],Nat.zero_le _,rfl,bZ.out,?_,ah _ _,⟨⟨v.out.1,v.out.2.1⟩,⟨rfl,Digs.nil _⟩,rfl,by rw [Nat.sub_zero];exact bN.out,by rw [val,Nat.mul_zero,Nat.zero_add]⟩⟩;rw [Nat.sub_zero,List.take_of_length_le (by simp),List.nil_append,List.replicate_append_replicate,show T+(L-T)=L by have:=HT.out;omega];exact D
   case round=>
    clear D;obtain ⟨k,zs,qs,hk,rfl,H,q,aC,HI⟩:=hrel;by_cases hkT:k<T
    ·have gk:(k:Int)<TI:=(bz k hk).2 hkT;have cA:(0:Int)≤(k:Int):=Int.natCast_nonneg _;have aO:=HT.out;obtain ⟨ab,ad,S,_⟩:=H0.out;obtain ⟨j,hj⟩:∃ j,j=T-1-k:=⟨_,rfl⟩
     have be:T-k=j+1:=by omega
     have O:T-(k+1)=j:=by omega
     have gj:(L:Int)-(K:Int)-(k:Int)=(j:Int):=by omega
     have cq:(j:Int)<(L:Int):=by omega
     have br:j+(K+1)≤N:=by omega
     obtain ⟨⟨i1,i2⟩,⟨i3,i4⟩,i5,i6,i7⟩:=HI.out;rw [be] at i5 i6 i7 q;obtain ⟨U,hU⟩:∃ U,U=val ((zs.drop j).take (K+1)):=⟨_,rfl⟩
     obtain ⟨aP,bB⟩:=jN (by omega) i2 i1 v.out.1 br v1 a5 i6 i5 i7 U hU;obtain ⟨l1,l2,l3,l4,l5⟩:=bB _ rfl;obtain ⟨Q,hQ⟩:∃ Q,Q=U/V:=⟨_,rfl⟩
     obtain ⟨R,hR⟩:∃ R,R=U%V:=⟨_,rfl⟩
     have cn:Q<18446744073709551616:=by rw [hQ,Nat.div_lt_iff_lt_mul a5,Nat.mul_comm];exact aP
     rw [← hR] at l1 l2 l3 l4 l5;rw [← hQ] at l5;have an:Row .u64 wr (.slice (some ⟨gv,0,none⟩) K K) (ag V K):=b0.out.kept aC (fun b hb e=>by simp [Value.ownBlock] at hb;omega);have a6:=yv gu w.heap.size N N j n nk K (N-j) (by omega) (by omega) zs (ag V K) (some ⟨gv,0,none⟩) K U V Q R wr H i1 i2 br (by omega) (by omega) an (ai (by omega) _ _) (fun b hb e=>by simp [Value.ownBlock] at hb;omega) bT.out hU bX.out aP hQ hR;have bD:∀ W,OwnN .u64 23 W w.heap.size (.slice (some ⟨(w.heap.size+1),0,none⟩) L L) L ((List.replicate T 0).take (j+1) ++ (qs ++ List.replicate (L-T) 0))→W.cell? ⟨(w.heap.size+1),j,none⟩=some (.int .u64 0):=fun W h=>by
      rw [World.ownsRow.cellAt h j (by omega),List.getElem?_map,List.getElem?_append_left (by rw [List.length_take,List.length_replicate];omega),List.getElem?_take,if_pos (by omega),List.getElem?_replicate,if_pos (by omega)];rfl
     have aZ:Hid (∀ W,OwnN .u64 23 W w.heap.size (.slice (some ⟨(w.heap.size+1),0,none⟩) L L) L ((List.replicate T 0).take (j+1) ++ (qs ++ List.replicate (L-T) 0))→OwnN .u64 23 (W.setCell ⟨(w.heap.size+1),j,none⟩ (.int .u64 (Q:Int))) w.heap.size (.slice (some ⟨(w.heap.size+1),0,none⟩) L L) L ((List.replicate T 0).take j ++ ((Q :: qs) ++ List.replicate (L-T) 0))):=fun W h=>by
      have:=(World.ownsRow.stored h j (.int .u64 (Q:Int))).1;unfold OwnN;rw [List.cons_append,← iY (by rw [List.length_replicate];omega),List.map_set];exact this
     have bY:Hid (((zs.take j ++ (ag R (K+1) ++ zs.drop (j+(K+1)))).length=N∧Digs (zs.take j ++ (ag R (K+1) ++ zs.drop (j+(K+1)))))∧((Q :: qs).length=k+1∧Digs (Q :: qs))∧(zs.take j ++ (ag R (K+1) ++ zs.drop (j+(K+1)))).take j=a.take j∧val ((zs.take j ++ (ag R (K+1) ++ zs.drop (j+(K+1)))).drop j)<V∧V*val (Q :: qs)+val ((zs.take j ++ (ag R (K+1) ++ zs.drop (j+(K+1)))).drop j)=val (a.drop j)):=⟨⟨l1,l2⟩,⟨by rw [List.length_cons,i3],fun d hd=>by rcases List.mem_cons.1 hd with h | h;omega;exact i4 d h⟩,l3,l4,l5⟩
     have ay:=aa O;have bW:(j:Int)≤(j:Int)+(K:Int)+1:=by omega
     have cb:(j:Int)+(K:Int)+1≤(N:Int):=by omega
     clear HI hj be O i1 i2 i3 i4 i5 i6 i7 l1 l2 l3 l4 l5 aP bB hU hQ hR an ab ad S aO;generalize zs.take j ++ (ag R (K+1) ++ zs.drop (j+(K+1)))=zs2 at *;rw [show K+1=j+K+1-j by omega] at a6;go_wp2_with fail;refine a6.mono ?_;rintro e w6 ⟨rfl,aT,k6⟩;have B:=k6.own q (fun b hb e=>by simp [Value.ownBlock] at hb;omega);have c6:=bD _ B;have f6:=World.ownsRow.frozenAt B j;clear a6 bD;go_wp2_with fail;go_roundw
     case rel=>
      have kb:Kept (fun b=>b=(w.heap.size+1)) w6 (w6.setCell ⟨(w.heap.size+1),j,none⟩ (.int .u64 (Q:Int))):=(ah (fun b=>b=(w.heap.size+1)) w6).setCell ⟨(w.heap.size+1),j,none⟩ (fun _=>rfl) _;refine ⟨k+1,zs2,Q :: qs,by omega,by go_num,kb.own aT (fun b hb e=>by simp [Value.ownBlock] at hb;omega),?_,(aC.next k6 (fun _ _ e=>.inl e)).next kb (fun _ _ e=>.inr e),by rw [ay.out];exact bY⟩;rw [ay.out];exact aZ.out _ B
     case measure=>simp [intOf];omega
    ·have gk:¬ (k:Int)<TI:=fun h=>hkT ((bz k hk).1 h)
     obtain rfl:k=T:=by omega
     obtain ⟨ab,ad,S,_⟩:=H0.out;have aO:=HT.out;obtain ⟨⟨i1,i2⟩,⟨i3,i4⟩,_,i6,i7⟩:=HI.out;rw [Nat.sub_self,List.drop_zero] at i6 i7;rw [List.drop_zero,v.out.2.2] at i7;rw [Nat.sub_self,List.take_zero,List.nil_append] at q;obtain ⟨d1,d2⟩:=iT (M:=X) (y:=Y) (p:=2^s) (Nat.pow_pos (by omega));rw [← b7.out,← i7] at d1 d2;rw [Nat.mul_add_div a5,Nat.div_eq_of_lt i6,Nat.add_zero] at d1;rw [Nat.mul_add_mod,al i6] at d2;have bc:qs ++ List.replicate (L-k) 0=ag (X/Y) L:=by
      rw [dZ i4 d1 (by omega),i3]
     rw [bc] at q;obtain ⟨Z,hZ⟩:∃ Z,Z=val zs:=⟨_,rfl⟩
     rw [← hZ] at d2;have bm:∀ i,zs.getD i 0=dig Z i:=fun i=>by rw [hZ];exact (aN (by omega) i2 i).symm
     have bf:∀ W,Kept (fun b=>b=w.heap.size) wr W→∀ i,i<N→W.cell? ⟨gu,i,none⟩=some (.int .u64 (dig Z i:Nat)):=fun W kk i hi=>by
      have h1:=kk.own H (fun b hb e=>by simp [Value.ownBlock] at hb;omega);rw [World.ownsRow.cellAt h1 i (by omega),List.getElem?_map,← bm,List.getD_eq_getElem?_getD,List.getElem?_eq_getElem (by omega)];rfl
     have l:=aC.own G (fun b hb e=>by simp [Value.ownBlock] at hb;omega);have bE:=aa bf;have bP:=aa q;have bU:=aa d2;have ci:K+1≤N:=by omega
     obtain ⟨s2,bj⟩:∃ s2,s2=64-s:=⟨_,rfl⟩
     have bW:(s:Int)≤64:=by omega
     have cb:IntKind.i64.wrap (64-(s:Int))=(s2:Int):=by rw [IntKind.wrap_i64];omega
     have ck:(s2:Int)≤64:=by omega
     have b6:=aa bj;clear HI i1 i2 i3 i4 i6 i7 d1 d2 bc hZ bm bf q H G ab ad S aO bj;go_wp2_with fail;go_loopw [86] (fun i wz=>∃ (m:Nat),m≤K∧i=.int .i64 (m:Int)∧OwnN .u64 23 wz w.heap.size (.slice (some ⟨w.heap.size,0,none⟩) M M) M (ag (Z/2^s) m ++ List.replicate (M-m) 0)∧Kept (fun b=>b=w.heap.size) wr wz) (fun i _=>K-(intOf i).toNat)
     case atStart=>exact ⟨0,Nat.zero_le _,rfl,by rw [Nat.sub_zero];exact l,ah _ _⟩
     case round=>
      clear l;obtain ⟨m,hm,rfl,l,J⟩:=hrel;by_cases hmK:m<K
      ·have cv:(0:Int)≤(m:Int):=Int.natCast_nonneg _;have bV:(m:Int)<(K:Int):=by omega
       obtain ⟨m1,F⟩:∃ m1,m1=m+1:=⟨_,rfl⟩
       have cj:IntKind.i64.wrap ((m:Int)+1)=(m1:Int):=by rw [IntKind.wrap_i64];omega
       have cl:(m:Int)<(N:Int):=by omega
       have cx:(m1:Int)<(N:Int):=by omega
       have cB:(m:Int)<(M:Int):=by omega
       have c1:=bE.out _ J m (by omega);have c2:=bE.out _ J m1 (by omega);have aD:=ju (Z:=Z) (i:=m) ax;rw [← b6.out,← F] at aD;have cr:=el l (af _ _ _) (by omega);have fr:=World.ownsRow.frozenAt l m;have bh:Hid (OwnN .u64 23 (wr.setCell ⟨w.heap.size,m,none⟩ (.int .u64 (dig (Z/2^s) m:Nat))) w.heap.size (.slice (some ⟨w.heap.size,0,none⟩) M M) M (ag (Z/2^s) (m+1) ++ List.replicate (M-(m+1)) 0)):=by
        have:=(World.ownsRow.stored l m (.int .u64 (dig (Z/2^s) m:Nat))).1;unfold Hid OwnN;rw [ag,← fy _ M m _ (af _ _ _) (by omega),List.map_set];exact this
       obtain ⟨z,hz⟩:∃ z,z=dig (Z/2^s) m:=⟨_,rfl⟩
       rw [← hz] at aD bh;obtain ⟨x1,aR⟩:∃ x1,x1=dig Z m:=⟨_,rfl⟩
       obtain ⟨x2,aM⟩:∃ x2,x2=dig Z m1:=⟨_,rfl⟩
       rw [← aR,← aM] at aD;rw [← aR] at c1;rw [← aM] at c2;obtain ⟨xl,aY⟩:∃ xl,xl=x1/2^s:=⟨_,rfl⟩
       rw [← aY] at aD;have ct:(x1:Int)/2^s=(xl:Int):=by rw [aY];simp
       have a7:=aa F;clear hz aR aM aY F l;go_wp2_with fail;go_still_tail 17,(by kernel_rfl)
       change wpList _ _ _ _ _ wr.drew
       go_wp2_with fail;go_roundw
       case rel=>exact ⟨m1,by have:=a7.out;omega,rfl,by rw [a7.out];exact bh.out,(J.setCell ⟨w.heap.size,m,none⟩ (fun _=>rfl) _).drew⟩
       case measure=>have:=a7.out;simp [intOf];omega
      ·have bV:¬ (m:Int)<(K:Int):=by omega
       obtain rfl:m=K:=by omega
       rw [bU.out] at l;have hf:=dZ (m:=M) (ai (by omega) (X%Y) m) (V:=X%Y) (by rw [ak,al (Nat.lt_trans (Nat.mod_lt _ aV) az.out)]) (by rw [af];omega);rw [af] at hf;rw [← hf] at l;have bS:=aa (J.own bP.out (fun b hb e=>by have e':b=w.heap.size:=e;simp [Value.ownBlock] at hb;omega));have aK:=aa ((bL.next aC (fun x hx e=>by rcases e with e | e <;> omega)).next J (fun x hx e=>by have e':x=w.heap.size:=e;omega));clear hf;go_wp2_with fail;go_ret2;exact ⟨_,_,rfl,bS.out,l,aK.out⟩

def fW (L M:Nat):Bool:=decide (L≤300∧M≤300)

def ii (Y L M:Nat):Nat:=if fW L M=true then (if Y=0 then 1 else 0) else 2

def j7 (X Y L M:Nat):List Nat:=if ii Y L M=0 then ag (X/Y) L else []

def ki (X Y L M:Nat):List Nat:=if ii Y L M=0 then ag (X%Y) M else []

theorem sK {X Y L M:Nat} (h:¬ (L≤300∧M≤300)):ii Y L M=2∧j7 X Y L M=[]∧ki X Y L M=[]:=by
 have e:ii Y L M=2:=by unfold ii fW;rw [if_neg (by simpa using h)]
 refine ⟨e,?_,?_⟩
 ·unfold j7;rw [e,if_neg (by omega)]
 ·unfold ki;rw [e,if_neg (by omega)]

theorem tC {X Y L M:Nat} (h:L≤300∧M≤300) (h0:Y=0):ii Y L M=1∧j7 X Y L M=[]∧ki X Y L M=[]:=by
 have e:ii Y L M=1:=by unfold ii fW;rw [if_pos (by simpa using h),if_pos h0]
 refine ⟨e,?_,?_⟩
 ·unfold j7;rw [e,if_neg (by omega)]
 ·unfold ki;rw [e,if_neg (by omega)]

theorem eC {X Y L M:Nat} (h:L≤300∧M≤300) (h0:Y≠0):ii Y L M=0∧j7 X Y L M=ag (X/Y) L∧ki X Y L M=ag (X%Y) M:=by
 have e:ii Y L M=0:=by unfold ii fW;rw [if_pos (by simpa using h),if_neg h0]
 refine ⟨e,?_,?_⟩
 ·unfold j7;rw [if_pos e]
 ·unfold ki;rw [if_pos e]

theorem AT (u:Value) (xs:List Nat) (w:World) (hu:Row .u64 w u xs) (a:Digs xs) (hL:xs.length≤100000000) :
  Calls Tryz.prog 152 #[.pointer none,u] w fun e w'=>e=.returned (.int .u64 (be (decide (val xs=0)):Nat))∧Kept ae w w':=by
 refine (A6 none u xs w (TrRoom.none w 1 (by omega)) (RowT.none hu) a hL).mono ?_;rintro e w' ⟨rfl,o',hd⟩;exact ⟨rfl,hd.none.2⟩

theorem vO (ao bo:Option Addr) (L M cap g:Nat) (xs ys:List Nat) (X Y:Nat) (hX:X=val xs) (hY:Y=val ys) (bA bB bQ bR:Nat) (w:World) (hu:Row .u64 w (.slice ao L cap) xs) (hv:Row .u64 w (.slice bo M g) ys) (r:Digs xs) (j:Digs ys)
  (hA:Box w bA (.slice ao L cap) 32) (hB:Box w bB (.slice bo M g) 32) (hQ:Box w bQ (.slice none 0 0) 32) (hR:Box w bR (.slice none 0 0) 32) (t:bQ≠bR) :
  Calls Tryz.prog 151 #[.pointer (some ⟨bA,0,none⟩),.pointer (some ⟨bB,0,none⟩),.pointer (some ⟨bQ,0,none⟩),.pointer (some ⟨bR,0,none⟩)] w fun e w'=>
   (¬ (L≤300∧M≤300)∧e=.panicked [refusal 2]∧w'=w)∨((L≤300∧M≤300)∧Y=0∧e=.panicked [refusal 1]∧Kept ae w w') ∨
   ((L≤300∧M≤300)∧Y≠0∧e=.returned (.tuple #[])∧∃ v1 v2,OwnN .u64 23 w' w.heap.size v1 L (ag (X/Y) L)∧OwnN .u64 23 w' w.heap.size v2 M (ag (X%Y) M)∧Kept (fun b=>b=bQ∨b=bR) w w'∧Box w' bQ v1 32∧Box w' bR v2 32):=by
 obtain ⟨_,_,_,e1,N,_,_,_,_⟩:=hu.open;cases e1
 obtain ⟨_,_,_,e1,p,_,_,_,_⟩:=hv.open;cases e1
 have hP:=fun W=>rZ ao bo L M cap g W
 have hZ:=fun (l:M≤300)=>AT _ ys w hv j (by have:=p.out;omega)
 rw [← hY] at hZ;have hD:=fun W (k:Kept ae w W) (l1:L≤300) (l2:M≤300) (h0:0<Y)=>Ax ao bo L M cap g xs ys X Y hX hY h0 W (hu.grew k) (hv.grew k) r j (by omega) (by omega)
 have cA:=hA.cell;have cB:=hB.cell;have H:=aa hA;have E:=aa hB;have F:=aa hQ;have B:=aa hR;clear hu hv r j N p hA hB hQ hR hX hY;go_enter Tryz.func151,Tryz.ntmps151;go_wp2_with fail;refine (hP _).mono ?_;rintro e w1 ⟨⟨l1,l2,rfl⟩ | ⟨l1,rfl⟩,rfl⟩
 ·obtain ⟨nz,o⟩:∃ nz,nz=be (decide (Y=0)):=⟨_,rfl⟩
  rw [← o] at hZ;have s:=aa o;clear hP o;go_wp2_with fail;refine (hZ l2).mono ?_;rintro e w2 ⟨rfl,k2⟩;have x:=(H.out.grew k2).cell;have A:=(E.out.grew k2).cell;have n:=F.out.grew k2;have m:=B.out.grew k2;clear hZ cA cB;by_cases h0:Y=0
  ·have en:nz=1:=by rw [s.out,bd h0];rfl
   have gn:((nz:Int) == 1)=true:=by rw [en];rfl
   have i:=il 1 w2;go_wp2_with fail;refine i.mono ?_;rintro e w4 ⟨rfl,rfl⟩;exact ⟨rfl,.inr (.inl ⟨⟨l1,l2⟩,h0,rfl,k2⟩)⟩
  ·have en:nz=0:=by rw [s.out,aF h0];rfl
   have gn:((nz:Int) == 1)=false:=by rw [en];rfl
   have v:=iN 1 w2;have q:=hD w2 k2 l1 l2 (by omega);clear hD;go_wp2_with fail;refine v.mono ?_;rintro e w3 ⟨rfl,rfl⟩;clear v;go_wp2_with fail;refine q.mono ?_;rintro e w4 ⟨v1,v2,rfl,d,f,k4⟩;obtain ⟨xo,xc,rfl⟩:=aV d;obtain ⟨yo,yc,rfl⟩:=aV f;have a:=n.grew k4;have c:=m.grew k4;have cQ:=a.cell;have fQ:=a.free;have cR:=c.cell;have fR:=c.free;have D:=n.lt;have C:=m.lt;have O:=k2.size;have kb:Kept (fun b=>b=bQ∨b=bR) w4 (w4.setCell ⟨bQ,0,none⟩ (.slice xo L xc)):=(ar w4 bQ (.slice xo L xc)).mono (fun _ _ e=>.inl e);have h:=kb.next (ar _ bR (.slice yo M yc)) (fun _ _ e=>.inr e)
   have y:=aa (aU (base':=w1.heap.size) (h.own d (fun b hb e=>by have:=(d.lt b hb).1;omega)) (fun b hb=>by have:=(d.lt b hb).1;omega));have z:=aa (aU (base':=w1.heap.size) (h.own f (fun b hb e=>by have:=(f.lt b hb).1;omega)) (fun b hb=>by have:=(f.lt b hb).1;omega));have I:=aa ((a.set (.slice xo L xc)).other ⟨bR,0,none⟩ t (.slice yo M yc));have J:=aa ((c.other ⟨bQ,0,none⟩ (fun e=>t e.symm) (.slice xo L xc)).set (.slice yo M yc));have G:=aa ((k2.trans k4).any.trans h);clear d f a c kb h n m x A q;go_wp2_with fail;go_end0
   exact .inr (.inr ⟨⟨l1,l2⟩,h0,rfl,_,_,y.out,z.out,G.out,I.out,J.out⟩)
 ·exact ⟨rfl,.inl ⟨l1,rfl,rfl⟩⟩

theorem oP (ao bo:Option Addr) (L M cap d:Nat) (xs ys:List Nat) (E:Nat) (hE:E=ii (val ys) L M) (w:World) (hu:Row .u64 w (.slice ao L cap) xs) (hv:Row .u64 w (.slice bo M d) ys) (B:Digs xs) (A:Digs ys) :
  Calls Tryz.prog 108 #[.slice ao L cap,.slice bo M d] w fun e w'=>∃ v1 v2,e=.returned (.tuple #[v1,v2,.int .i64 (E:Nat)]) ∧
   Row .u64 w' v1 (j7 (val xs) (val ys) L M)∧Row .u64 w' v2 (ki (val xs) (val ys) L M)∧Kept ae w w':=by
 have F:=eI;have C:=jC w (.slice ao L cap) (.slice bo M d) (.slice none 0 0) (.slice none 0 0) 32 32 32 32;have he:∀ args w,(callFunc 151 args).run Tryz.prog w=.ok (.enter 151 args) w:=fun _ _=>by simp [go_sem]
 obtain ⟨X,hX⟩:∃ X,X=val xs:=⟨_,rfl⟩
 obtain ⟨Y,hY⟩:∃ Y,Y=val ys:=⟨_,rfl⟩
 rw [← hY] at hE;rw [← hX,← hY];have HE:=aa hE;have HX:=aa hX;have HY:=aa hY;clear hE hX hY;go_enter Tryz.func108,Tryz.ntmps108;go_wp2_with fail;generalize (((w.alloc (.cells #[.slice ao L cap] 32)).alloc (.cells #[.slice bo M d] 32)).alloc (.cells #[.slice none 0 0] 32)).alloc (.cells #[.slice none 0 0] 32)=W at *;obtain ⟨k0,x2,x3,x4,x5,hs⟩:=C;have k1:=k0.alloc (.cells #[.int .i64 0] 33);have xe:=Box.new W (.int .i64 0) 33;have h1:=vO ao bo L M cap d xs ys X Y HX.out HY.out _ _ _ _ _ (hu.grew k1) (hv.grew k1) B A (x2.alloc _) (x3.alloc _) (x4.alloc (.cells #[.int .i64 0] 33)) (x5.alloc _) (by omega)
 have l:(W.alloc (.cells #[.int .i64 0] 33)).heap.size=W.heap.size+1:=by simp
 refine (iK 151 _ W (fun n W'=>n=(E:Int)∧∃ ro rc ln so sc lm,Box W' (w.heap.size+1+1) (.slice ro ln rc) 32∧Box W' (w.heap.size+1+1+1) (.slice so lm sc) 32∧Row .u64 W' (.slice ro ln rc) (j7 X Y L M)∧Row .u64 W' (.slice so lm sc) (ki X Y L M)∧(∀ b,(Value.slice ro ln rc).ownBlock=some b→W.heap.size+1≤b)∧(∀ b,(Value.slice so lm sc).ownBlock=some b→W.heap.size+1≤b)∧Kept ae w W') he (h1.mono ?_)).mono ?_
 ·rintro e w' (⟨hl,rfl,rfl⟩ | ⟨hl,h0,rfl,kz⟩ | ⟨hl,h0,rfl,v1,v2,h,j,hk,g,f⟩)
  ·obtain ⟨e1,e2,e3⟩:=sK (X:=X) (Y:=Y) hl;exact ⟨xe,.inr ⟨2,rfl,by rw [HE.out,e1];rfl,none,0,0,none,0,0,x4.alloc _,x5.alloc _,by rw [e2];exact Row.nil _ _,by rw [e3];exact Row.nil _ _,(fun b hb=>by cases hb),(fun b hb=>by cases hb),k1⟩⟩
  ·obtain ⟨e1,e2,e3⟩:=tC (X:=X) hl h0;exact ⟨xe.grew kz,.inr ⟨1,rfl,by rw [HE.out,e1];rfl,none,0,0,none,0,0,(x4.alloc _).grew kz,(x5.alloc _).grew kz,by rw [e2];exact Row.nil _ _,by rw [e3];exact Row.nil _ _,(fun b hb=>by cases hb),(fun b hb=>by cases hb),k1.trans kz⟩⟩
  ·obtain ⟨e1,e2,e3⟩:=eC (X:=X) hl h0;rw [l] at h j;have t:=xe.kept hk (by omega);obtain ⟨xo,xc,rfl⟩:=aV h;obtain ⟨yo,yc,rfl⟩:=aV j;exact ⟨t,.inl ⟨rfl,by rw [HE.out,e1];rfl,xo,xc,L,yo,yc,M,g,f,by rw [e2];exact aS h (af _ _ _),by rw [e3];exact aS j (af _ _ _),(fun b hb=>(h.lt b hb).1),(fun b hb=>(j.lt b hb).1),k1.next hk (fun x hx e=>by rcases e with e | e <;> omega)⟩⟩
 ·rintro e w' ⟨n,w1,rfl,⟨⟨rfl,ro,rc,ln,so,sc,lm,g,f,p,m,k,q,hk⟩,y⟩,rfl⟩;have a:=g.other ⟨W.heap.size,0,none⟩ (by show _≠W.heap.size;omega) (.int .i64 (E:Int));have c:=f.other ⟨W.heap.size,0,none⟩ (by show _≠W.heap.size;omega) (.int .i64 (E:Int));have c1:=a.cell;have f1:=a.free;have c2:=c.cell;have f2:=c.free;have s:w.heap.size+1+1≠w.heap.size+1+1+1:=by omega
  have c3:=((a.set (.slice ro ln rc)).other ⟨w.heap.size+1+1+1,0,none⟩ s (.slice so lm sc)).cell;have c4:=((c.other ⟨w.heap.size+1+1,0,none⟩ s.symm (.slice ro ln rc)).set (.slice so lm sc)).cell;have o:Kept (fun b=>b=W.heap.size∨b=w.heap.size+1+1∨b=w.heap.size+1+1+1) w1 (w1.setCell ⟨W.heap.size,0,none⟩ (.int .i64 (E:Int))):=(ar w1 W.heap.size _).mono (fun _ _ e=>.inl e);have r:=o.next (ar _ (w.heap.size+1+1) (.slice ro ln rc)) (fun _ _ e=>.inr (.inl e))
  have i:=r.next (ar _ (w.heap.size+1+1+1) (.slice so lm sc)) (fun _ _ e=>.inr (.inr e))
  have HK:=aa (hk.next i (fun x hx e=>by rcases e with e | e | e <;> omega));have z:=aa (p.kept i (fun b hb e=>by have:=k b hb;omega));have D:=aa (m.kept i (fun b hb e=>by have:=q b hb;omega));generalize w1.setCell ⟨W.heap.size,0,none⟩ (.int .i64 (E:Int))=W2 at *;clear h1 g f a c p m k q o r i hk y hu hv x2 x3 x4 x5 xe k0 k1 l he F;go_wp2_with fail;go_region
  all_goals
   go_wp2;refine bodyPost_ret (v:=.tuple #[.slice ro ln rc,.slice so lm sc,.int .i64 (E:Nat)]) (by simp [results,Tryz.results108,go_sem,c3,c4]) rfl ?_;exact ⟨_,_,rfl,z.out.grew (ah _ _).drew,D.out.grew (ah _ _).drew,HK.out.drew⟩

def dz (b:Int):Int:=min (max b 1) 8320

def kZ (b:Int):Int:=if dz b<46 then (49*dz b+80)/17 else (49*dz b+57)/17

end Go.Proofs.YtcemlfokmjjiaaaGreatDoor
