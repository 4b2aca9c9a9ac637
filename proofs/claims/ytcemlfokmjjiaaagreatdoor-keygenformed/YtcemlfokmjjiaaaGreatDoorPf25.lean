/- Put together of: QuG Ref5A PrK QuH Ref10A. -/
import Derived.Test.YtcemlfokmjjiaaaGreatDoorPf24

namespace Go.Proofs.YtcemlfokmjjiaaaGreatDoor
set_option maxRecDepth 100000
set_option maxHeartbeats 4000000
open Go.RowKit

theorem pm {Y M K:Nat} (h0:0<Y) (hM:Y<18446744073709551616^M) (hK:K=(au Y+63)/64):0<K∧K≤M∧Y<18446744073709551616^K∧18446744073709551616^(K-1)≤Y:=by
 have h1:¬ au Y≤0:=fun h=>by have:=(aA Y 0).1 h;simp at this;omega
 have h2:=(aA Y (au Y)).1 (leR _);have h3:¬ Y<2^(au Y-1):=fun h=>by have:=(aA Y (au Y-1)).2 h;omega
 rw [B64] at hM;have h4:=(aA Y (64*M)).2 hM;have a:0<K:=by omega
 refine ⟨a,by omega,?_,?_⟩
 ·rw [B64];exact Nat.lt_of_lt_of_le h2 (Nat.pow_le_pow_right (by omega) (by omega))
 ·rw [B64];exact Nat.le_trans (Nat.pow_le_pow_right (by omega) (by omega)) (Nat.le_of_not_lt h3)

theorem AO (ao bo:Option Addr) (L M cap az:Nat) (xs ys:List Nat) (X Y:Nat) (hX:X=val xs) (hY:Y=val ys) (a8:0<Y) (w:World) (hu:Row .u64 w (.slice ao L cap) xs) (hv:Row .u64 w (.slice bo M az) ys) (bW:Digs xs) (bH:Digs ys) (hL:L≤100000) (hM:M≤100000) :
  Calls Tryz.prog 153 #[.slice ao L cap,.slice bo M az] w fun e w'=>∃ v1 v2,e=.returned (.tuple #[v1,v2]) ∧
   OwnN .u64 23 w' w.heap.size v1 L (digs (X/Y) L)∧OwnN .u64 23 w' w.heap.size v2 M (digs (X%Y) M)∧Kept af w w':=by
 obtain ⟨i0,ce,cd,cg,cf⟩:=info_parts Tryz.info23;obtain ⟨_,_,_,e1,bU,_,_,_,_⟩:=hu.open;cases e1
 obtain ⟨_,_,_,e1,bI,_,_,_,_⟩:=hv.open;cases e1
 have eL:=aa bU.out;have eM:=aa bI.out;have bF:Y<18446744073709551616^M:=by rw [hY,← bI.out];exact aq (by omega) bH
 have cc:Hid (X<18446744073709551616^L):=by unfold Hid;rw [hX,← bU.out];exact aq (by omega) bW
 have bC:=fun W (k:Kept af w W)=>dG _ ys W (hv.grew k) bH (by rw [bI.out];omega)
 rw [← hY] at bC;obtain ⟨K,hK⟩:∃ K,K=(au Y+63)/64:=⟨_,rfl⟩
 obtain ⟨n1,n2,n3,n4⟩:=pm a8 bF hK;have cn:au Y≤6400000:=by
  rw [B64] at bF;have:=(aA Y (64*M)).2 bF;omega
 generalize au Y=bl at *;have gK:((bl:Int)+64-1)/64=(K:Int):=by omega
 have HU:=aa hu;have HV:=aa hv;have bJ:=aa bW;have aE:=aa bH;have HX:=aa hX;have HY:=aa hY;have ay:=aa n3;have cb:=aa n4;obtain ⟨CL,b3⟩:∃ C,C=madeCells #[.int .u64 0] L:=⟨_,rfl⟩
 obtain ⟨CM,bS⟩:∃ C,C=madeCells #[.int .u64 0] M:=⟨_,rfl⟩
 have br:∀ W,(Instr.makeSlice 32 (.int .i64 (L:Int)) (.int .i64 (L:Int))).run Tryz.prog W=.ok (.slice (some ⟨W.heap.size,0,none⟩) L L) (W.alloc (.cells CL 23)):=fun W=>by rw [b3];exact run_make_row (P:=Tryz.prog) _ _ i0 _ Tryz.underlying32 ce cd cg rfl _ _ L (by rw [cf];omega) (by omega) W
 have bb:∀ W,(Instr.makeSlice 32 (.int .i64 (M:Int)) (.int .i64 (M:Int))).run Tryz.prog W=.ok (.slice (some ⟨W.heap.size,0,none⟩) M M) (W.alloc (.cells CM 23)):=fun W=>by rw [bS];exact run_make_row (P:=Tryz.prog) _ _ i0 _ Tryz.underlying32 ce cd cg rfl _ _ M (by rw [cf];omega) (by omega) W
 have bG:=aa b3;have bE:=aa bS;clear hu hv bW bH bU bI hX hY bF hK n3 n4 b3 bS;go_enter Tryz.func153,Tryz.ntmps153;go_wp2_with fail;go_region
 ·have b5:=mX w L M CL CM bG.out bE.out (by omega) (by omega);generalize ((w.alloc (.cells CL 23)).alloc (.cells CM 23)).drew=W1 at *;obtain ⟨I,ap,k1⟩:=b5;clear br bb bG bE;obtain ⟨_,_,_,e1,_,_,_,_,aB⟩:=(HV.out.grew k1).open;cases e1
  go_wp2_with fail;refine (bC _ k1).mono ?_;rintro e w2 ⟨rfl,rfl⟩;clear bC;have aT:Hid (xs≠[]→∀ b,(Value.slice ao L cap).ownBlock=some b→b<w.heap.size):=fun h b hb=>HU.out.lt h b hb
  by_cases hK1:K=1
  ·subst hK1;have ch:((bl:Int)+64-1)/64=1:=gK;clear gK;obtain ⟨b2,q,rfl,cy⟩:=aB 0 (by omega);have bu:ys.getD 0 0=Y:=by
    rw [← aR (by omega) aE.out,← HY.out,dig,Nat.pow_zero,Nat.div_one];have:=ay.out;rw [Nat.pow_one] at this;exact al this
   have cz:w2.cell? ⟨b2,q,none⟩=some (.int .u64 (Y:Nat)):=by rw [← bu];exact cy
   have ad:Y<18446744073709551616:=by have:=ay.out;rwa [Nat.pow_one] at this
   obtain ⟨R,hR⟩:∃ R,R=X%Y:=⟨_,rfl⟩
   have aU:R<18446744073709551616:=by rw [hR];exact Nat.lt_trans (Nat.mod_lt _ a8) ad
   have O:=BU w.heap.size w.heap.size L L ao cap xs (List.replicate L 0) X Y R HX.out hR ad a8 w2 I (by simp) (HU.out.grew k1) bJ.out (fun h b hb=>by have:=aT.out h b hb;omega) (by omega);have cj:(0:Int)<(M:Int):=by omega
   obtain ⟨M1,bn⟩:∃ M1,M=M1+1:=⟨M-1,by omega⟩
   have bY:Hid (digs R M=(List.replicate M 0).set 0 R):=by unfold Hid;rw [bn,fL R M1 aU,List.replicate_succ,lsZ]
   have b7:=aa hR;clear aB cy bu bn hR;go_wp2_with fail;refine O.mono ?_;rintro e w3 ⟨rfl,r,k3⟩;have l:=k3.own ap (fun b hb e=>by simp [Value.ownBlock] at hb;omega);have cr:w3.cell? ⟨(w.heap.size+1),0,none⟩=some (.int .u64 0):=by
    rw [World.ownsRow.cellAt l 0 (by omega),List.getElem?_map,List.getElem?_replicate,if_pos (by omega)];rfl
   have fr:=World.ownsRow.frozenAt l 0;have bs:=(World.ownsRow.stored l 0 (.int .u64 (R:Int))).1;have kb:Kept (fun b=>b=(w.heap.size+1)) w3 (w3.setCell ⟨(w.heap.size+1),0,none⟩ (.int .u64 (R:Int))):=ar w3 (w.heap.size+1) _;have HQ:=aa (kb.own r (fun b hb e=>by simp [Value.ownBlock] at hb;omega));have bV:Hid (OwnN .u64 23 (w3.setCell ⟨(w.heap.size+1),0,none⟩ (.int .u64 (R:Int))) w.heap.size (.slice (some ⟨(w.heap.size+1),0,none⟩) M M) M (digs (X%Y) M)):=by
    unfold Hid OwnN;rw [← b7.out,bY.out,List.map_set];exact bs
   have aJ:=aa ((k1.next k3 (fun x hx e=>by omega)).next kb (fun x hx e=>by omega));clear O l bs kb r k3 I ap;go_wp2_with fail;go_ret2;exact ⟨_,_,rfl,HQ.out,bV.out,aJ.out⟩
  ·have cB:((K:Int) == 1)=false:=by simp;omega
   have cx:¬ (K:Int)=1:=by omega
   obtain ⟨n,hn⟩:∃ n,n=K-2:=⟨_,rfl⟩
   obtain ⟨nk,aL⟩:∃ nk,nk=K-1:=⟨_,rfl⟩
   obtain ⟨b2,q,rfl,cy⟩:=aB nk (by omega);obtain ⟨t,ht⟩:∃ t,t=Y/18446744073709551616^nk:=⟨_,rfl⟩
   have a3:Y<18446744073709551616^(nk+1):=by rw [show nk+1=K by omega];exact ay.out
   have E:0<18446744073709551616^nk:=Nat.pow_pos (by omega);have bi:t<18446744073709551616:=by
    rw [ht,Nat.div_lt_iff_lt_mul E,← Nat.pow_succ'];exact a3
   have bM:0<t:=by rw [ht];exact Nat.div_pos (by rw [aL];exact cb.out) E
   have bA:ys.getD nk 0=t:=by rw [← aR (by omega) aE.out,← HY.out,dig,← ht,al bi]
   rw [bA] at cy;obtain ⟨s,hs⟩:∃ s,s=64-au t:=⟨_,rfl⟩
   obtain ⟨am,v1,v2,v3⟩:=nt a3 ht bM hs;rw [show nk+1=K by omega] at v1;have a5:=fun W=>bLz t bi W
   rw [← hs] at a5;obtain ⟨V,hV⟩:∃ V,V=Y*2^s:=⟨_,rfl⟩
   rw [← hV] at v1 v2 v3;have bQ:=aa hV;obtain ⟨N,hN⟩:∃ N,N=max L K+1:=⟨_,rfl⟩
   have gN:max (L:Int) (K:Int)+1=(N:Int):=by omega
   have cw:(K:Int)-1=(nk:Int):=by omega
   have cD:(nk:Int)<(M:Int):=by omega
   have ck:(K:Int)≤(M:Int):=by omega
   have bz:M≤az:=by obtain ⟨_,_,_,e1,_,hh,_⟩:=HV.out.open;cases e1;exact hh
   have cE:(K:Int)≤(az:Int):=by omega
   have hcut:∀ W,Kept af w W→Row .u64 W (.slice (some ⟨b2,q,none⟩) K az) (ys.take K):=fun W k=>(HV.out.grew k).cut (by rw [eM.out];omega)
   have bh:Y=val (ys.take K):=by rw [eW (by omega) aE.out,← HY.out,al ay.out]
   have a4:=fun W (k:Kept af w W)=>mx (some ⟨b2,q,none⟩) K az (ys.take K) Y s K bh am W (hcut W k) (aE.out.take K) (by omega) (leR _)
   have bw:=fun W (k:Kept af w W)=>mx ao L cap xs X s N HX.out am W (HU.out.grew k) bJ.out (by omega) (by omega)
   rw [← hV] at a4;have H0:Hid (n=K-2∧nk=K-1∧N=max L K+1∧2≤K):=⟨hn,aL,hN,by omega⟩
   clear aB ht hs bA hV hcut bh hn aL hN E a3;go_wp2_with fail;refine (a5 _).mono ?_;rintro e w3 ⟨rfl,rfl⟩;clear a5;go_wp2_with fail;refine (a4 _ k1).mono ?_;rintro e w4 ⟨rfl,aG,k4⟩;have a6:=k1.trans k4;go_wp2_with fail;refine (bw _ a6).mono ?_;rintro e w5 ⟨rfl,H,k5⟩;have bZ:=a6.trans k5;have an:=k5.own aG (fun _ _ f=>f);have F:=(k4.trans k5).own I (fun _ _ f=>f);have G:=(k4.trans k5).own ap (fun _ _ f=>f);have ae:w.heap.size+1<w3.heap.size:=by have h1:=cW I;have h2:=cW ap;omega
   have ab:w3.heap.size<w4.heap.size:=cW aG;clear a4 bw aG I ap k1 a6;go_wp2_with fail;obtain ⟨T,hT⟩:∃ T,T=L+1-K:=⟨_,rfl⟩
   have bL:=cW F;have bK:=cW G;have aM:w.heap.size+1<w3.heap.size:=ae;have aO:w3.heap.size<w4.heap.size:=ab;obtain ⟨gv,a1⟩:∃ g,g=w3.heap.size:=⟨_,rfl⟩
   obtain ⟨gu,aX⟩:∃ g,g=w4.heap.size:=⟨_,rfl⟩
   have A:OwnN .u64 23 w5 w.heap.size (.slice (some ⟨gu,0,none⟩) N N) N (digs (X*2^s) N):=by
    rw [aX];exact aZ H (fun b hb=>by simp [Value.ownBlock] at hb;omega)
   have bD:Row .u64 w5 (.slice (some ⟨gv,0,none⟩) K K) (digs V K):=by rw [a1];exact aY an (ag _ _ _)
   rw [← a1,← aX];have dq:w.heap.size≠gu∧(w.heap.size+1)≠gu∧gv≠gu∧gv≠w.heap.size∧w.heap.size≠(w.heap.size+1)∧w.heap.size≤gu:=by omega
   clear H an a1 aX aO aM bL bK;obtain ⟨S,aj,aw,cq⟩:=H0.out;have a0:0<V:=Nat.lt_of_lt_of_le (Nat.mul_pos (by omega) (Nat.pow_pos (by omega))) v3;have aN:X*2^s<2^s*18446744073709551616^L:=by rw [Nat.mul_comm];exact Nat.mul_lt_mul_of_pos_left cc.out (Nat.pow_pos (by omega))
   have bp:X*2^s<18446744073709551616^N:=nS aN am (by omega);obtain ⟨a,c⟩:∃ a,a=digs (X*2^s) N:=⟨_,rfl⟩
   rw [← c] at A;have bt:a.length=N:=by rw [c,ag]
   have aI:Digs a:=by rw [c];exact ah (by omega) _ _
   have aK:val a=X*2^s:=by rw [c,ak,al bp]
   have o:val (a.drop T)<V:=by rw [fJ (by omega) aI,aK];exact jr aN am v3 (by omega)
   have v:Hid (a.length=N∧Digs a∧val a=X*2^s):=⟨bt,aI,aK⟩
   have ba:(digs V K).getD nk 0=dig V nk:=de _ _ _ _ (by omega);rw [← ba] at v2;have bk:V=val (digs V K):=by rw [ak,al v1]
   have HT:=aa hT;have bX:=aa bD;have bT:=aa A;have bO:=aa v2;have b4:=aa bk;have bN:=aa o;have gT:(L:Int)-(K:Int)+1=(T:Int)∨(T=0∧(L:Int)-(K:Int)+1≤0):=by omega
   obtain ⟨TI,bg⟩:∃ TI,TI=(L:Int)-(K:Int)+1:=⟨_,rfl⟩
   have bx:∀ k:Nat,k≤T→((k:Int)<TI↔k<T):=fun k hk=>by omega
   rw [← bg];clear hT bD A v2 bk o bt aI aK c ba bp aN gT cy bg S aj aw;go_loopw [63] (fun i wr=>∃ (k:Nat) (zs qs:List Nat),k≤T∧i=.int .i64 (k:Int)∧OwnN .u64 23 wr w.heap.size (.slice (some ⟨gu,0,none⟩) N N) N zs∧OwnN .u64 23 wr w.heap.size (.slice (some ⟨w.heap.size,0,none⟩) L L) L ((List.replicate T 0).take (T-k) ++ (qs ++ List.replicate (L-T) 0))∧Kept (fun b=>b=gu∨b=w.heap.size) w5 wr ∧
     Hid ((zs.length=N∧Digs zs)∧(qs.length=k∧Digs qs)∧zs.take (T-k)=a.take (T-k)∧val (zs.drop (T-k))<V∧V*val qs+val (zs.drop (T-k))=val (a.drop (T-k)))) (fun i _=>T-(intOf i).toNat)
   case atStart=>
    refine ⟨0,a,[],Nat.zero_le _,rfl,bT.out,?_,ai _ _,⟨⟨v.out.1,v.out.2.1⟩,⟨rfl,Digs.nil _⟩,rfl,by rw [Nat.sub_zero];exact bN.out,by rw [val,Nat.mul_zero,Nat.zero_add]⟩⟩;rw [Nat.sub_zero,List.take_of_length_le (by simp),List.nil_append,List.replicate_append_replicate,show T+(L-T)=L by have:=HT.out;omega];exact F
   case round=>
    clear F;obtain ⟨k,zs,qs,hk,rfl,H,r,aD,HI⟩:=hrel;by_cases hkT:k<T
    ·have gk:(k:Int)<TI:=(bx k hk).2 hkT;have co:(0:Int)≤(k:Int):=Int.natCast_nonneg _;have a7:=HT.out;obtain ⟨S,aj,aw,_⟩:=H0.out;obtain ⟨j,hj⟩:∃ j,j=T-1-k:=⟨_,rfl⟩
     have bd:T-k=j+1:=by omega
     have av:T-(k+1)=j:=by omega
     have gj:(L:Int)-(K:Int)-(k:Int)=(j:Int):=by omega
     have cA:(j:Int)<(L:Int):=by omega
     have bq:j+(K+1)≤N:=by omega
     obtain ⟨⟨i1,i2⟩,⟨i3,i4⟩,i5,i6,i7⟩:=HI.out;rw [bd] at i5 i6 i7 r;obtain ⟨U,hU⟩:∃ U,U=val ((zs.drop j).take (K+1)):=⟨_,rfl⟩
     obtain ⟨aF,be⟩:=jN (by omega) i2 i1 v.out.1 bq v1 a0 i6 i5 i7 U hU;obtain ⟨l1,l2,l3,l4,l5⟩:=be _ rfl;obtain ⟨Q,hQ⟩:∃ Q,Q=U/V:=⟨_,rfl⟩
     obtain ⟨R,hR⟩:∃ R,R=U%V:=⟨_,rfl⟩
     have ci:Q<18446744073709551616:=by rw [hQ,Nat.div_lt_iff_lt_mul a0,Nat.mul_comm];exact aF
     rw [← hR] at l1 l2 l3 l4 l5;rw [← hQ] at l5;have J:Row .u64 wr (.slice (some ⟨gv,0,none⟩) K K) (digs V K):=bX.out.kept aD (fun b hb e=>by simp [Value.ownBlock] at hb;omega);have aH:=yO gu w.heap.size N N j n nk K (N-j) (by omega) (by omega) zs (digs V K) (some ⟨gv,0,none⟩) K U V Q R wr H i1 i2 bq (by omega) (by omega) J (ah (by omega) _ _) (fun b hb e=>by simp [Value.ownBlock] at hb;omega) bO.out hU b4.out aF hQ hR;have bj:∀ W,OwnN .u64 23 W w.heap.size (.slice (some ⟨w.heap.size,0,none⟩) L L) L ((List.replicate T 0).take (j+1) ++ (qs ++ List.replicate (L-T) 0))→W.cell? ⟨w.heap.size,j,none⟩=some (.int .u64 0):=fun W h=>by
      rw [World.ownsRow.cellAt h j (by omega),List.getElem?_map,List.getElem?_append_left (by rw [List.length_take,List.length_replicate];omega),List.getElem?_take,if_pos (by omega),List.getElem?_replicate,if_pos (by omega)];rfl
     have aW:Hid (∀ W,OwnN .u64 23 W w.heap.size (.slice (some ⟨w.heap.size,0,none⟩) L L) L ((List.replicate T 0).take (j+1) ++ (qs ++ List.replicate (L-T) 0))→OwnN .u64 23 (W.setCell ⟨w.heap.size,j,none⟩ (.int .u64 (Q:Int))) w.heap.size (.slice (some ⟨w.heap.size,0,none⟩) L L) L ((List.replicate T 0).take j ++ ((Q :: qs) ++ List.replicate (L-T) 0))):=fun W h=>by
      have:=(World.ownsRow.stored h j (.int .u64 (Q:Int))).1;unfold OwnN;rw [List.cons_append,← jc (by rw [List.length_replicate];omega),List.map_set];exact this
     have b6:Hid (((zs.take j ++ (digs R (K+1) ++ zs.drop (j+(K+1)))).length=N∧Digs (zs.take j ++ (digs R (K+1) ++ zs.drop (j+(K+1)))))∧((Q :: qs).length=k+1∧Digs (Q :: qs))∧(zs.take j ++ (digs R (K+1) ++ zs.drop (j+(K+1)))).take j=a.take j∧val ((zs.take j ++ (digs R (K+1) ++ zs.drop (j+(K+1)))).drop j)<V∧V*val (Q :: qs)+val ((zs.take j ++ (digs R (K+1) ++ zs.drop (j+(K+1)))).drop j)=val (a.drop j)):=⟨⟨l1,l2⟩,⟨by rw [List.length_cons,i3],fun d hd=>by rcases List.mem_cons.1 hd with h | h;omega;exact i4 d h⟩,l3,l4,l5⟩
     have ac:=aa av;have b1:(j:Int)≤(j:Int)+(K:Int)+1:=by omega
     have b0:(j:Int)+(K:Int)+1≤(N:Int):=by omega
     clear HI hj bd av i1 i2 i3 i4 i5 i6 i7 l1 l2 l3 l4 l5 aF be hU hQ hR J S aj aw a7;generalize zs.take j ++ (digs R (K+1) ++ zs.drop (j+(K+1)))=zs2 at *;rw [show K+1=j+K+1-j by omega] at aH;go_wp2_with fail;refine aH.mono ?_;rintro e w6 ⟨rfl,aP,k6⟩;have D:=k6.own r (fun b hb e=>by simp [Value.ownBlock] at hb;omega);have c6:=bj _ D;have f6:=World.ownsRow.frozenAt D j;clear aH bj;go_wp2_with fail;go_roundw
     case rel=>
      have kb:Kept (fun b=>b=w.heap.size) w6 (w6.setCell ⟨w.heap.size,j,none⟩ (.int .u64 (Q:Int))):=(ai (fun b=>b=w.heap.size) w6).setCell ⟨w.heap.size,j,none⟩ (fun _=>rfl) _;refine ⟨k+1,zs2,Q :: qs,by omega,by go_num,kb.own aP (fun b hb e=>by simp [Value.ownBlock] at hb;omega),?_,(aD.next k6 (fun _ _ e=>.inl e)).next kb (fun _ _ e=>.inr e),by rw [ac.out];exact b6⟩;rw [ac.out];exact aW.out _ D
     case measure=>simp [intOf];omega
    ·have gk:¬ (k:Int)<TI:=fun h=>hkT ((bx k hk).1 h)
     obtain rfl:k=T:=by omega
     obtain ⟨S,aj,aw,_⟩:=H0.out;have a7:=HT.out;obtain ⟨⟨i1,i2⟩,⟨i3,i4⟩,_,i6,i7⟩:=HI.out;rw [Nat.sub_self,List.drop_zero] at i6 i7;rw [List.drop_zero,v.out.2.2] at i7;rw [Nat.sub_self,List.take_zero,List.nil_append] at r;obtain ⟨d1,d2⟩:=jf (M:=X) (y:=Y) (p:=2^s) (Nat.pow_pos (by omega));rw [← bQ.out,← i7] at d1 d2;rw [Nat.mul_add_div a0,Nat.div_eq_of_lt i6,Nat.add_zero] at d1;rw [Nat.mul_add_mod,al i6] at d2;have bm:qs ++ List.replicate (L-k) 0=digs (X/Y) L:=by
      rw [ef i4 d1 (by omega),i3]
     rw [bm] at r;obtain ⟨Z,hZ⟩:∃ Z,Z=val zs:=⟨_,rfl⟩
     rw [← hZ] at d2;have bc:∀ i,zs.getD i 0=dig Z i:=fun i=>by rw [hZ];exact (aR (by omega) i2 i).symm
     have bB:∀ W,Kept (fun b=>b=(w.heap.size+1)) wr W→∀ i,i<N→W.cell? ⟨gu,i,none⟩=some (.int .u64 (dig Z i:Nat)):=fun W kk i hi=>by
      have h1:=kk.own H (fun b hb e=>by simp [Value.ownBlock] at hb;omega);rw [World.ownsRow.cellAt h1 i (by omega),List.getElem?_map,← bc,List.getD_eq_getElem?_getD,List.getElem?_eq_getElem (by omega)];rfl
     have l:=aD.own G (fun b hb e=>by simp [Value.ownBlock] at hb;omega);have bv:=aa bB;have b8:=aa r;have ca:=aa d2;have cv:K+1≤N:=by omega
     obtain ⟨s2,bf⟩:∃ s2,s2=64-s:=⟨_,rfl⟩
     have b1:(s:Int)≤64:=by omega
     have b0:IntKind.i64.wrap (64-(s:Int))=(s2:Int):=by rw [IntKind.wrap_i64];omega
     have cC:(s2:Int)≤64:=by omega
     have bR:=aa bf;clear HI i1 i2 i3 i4 i6 i7 d1 d2 bm hZ bc bB r H G S aj aw a7 bf;go_wp2_with fail;go_loopw [86] (fun i wz=>∃ (m:Nat),m≤K∧i=.int .i64 (m:Int)∧OwnN .u64 23 wz w.heap.size (.slice (some ⟨(w.heap.size+1),0,none⟩) M M) M (digs (Z/2^s) m ++ List.replicate (M-m) 0)∧Kept (fun b=>b=(w.heap.size+1)) wr wz) (fun i _=>K-(intOf i).toNat)
     case atStart=>exact ⟨0,Nat.zero_le _,rfl,by rw [Nat.sub_zero];exact l,ai _ _⟩
     case round=>
      clear l;obtain ⟨m,hm,rfl,l,ax⟩:=hrel;by_cases hmK:m<K
      ·have cl:(0:Int)≤(m:Int):=Int.natCast_nonneg _;have b9:(m:Int)<(K:Int):=by omega
       obtain ⟨m1,B⟩:∃ m1,m1=m+1:=⟨_,rfl⟩
       have cm:IntKind.i64.wrap ((m:Int)+1)=(m1:Int):=by rw [IntKind.wrap_i64];omega
       have cu:(m:Int)<(N:Int):=by omega
       have ct:(m1:Int)<(N:Int):=by omega
       have cp:(m:Int)<(M:Int):=by omega
       have c1:=bv.out _ ax m (by omega);have c2:=bv.out _ ax m1 (by omega);have aC:=ki (Z:=Z) (i:=m) am;rw [← bR.out,← B] at aC;have cr:=ep l (ag _ _ _) (by omega);have fr:=World.ownsRow.frozenAt l m;have a9:Hid (OwnN .u64 23 (wr.setCell ⟨(w.heap.size+1),m,none⟩ (.int .u64 (dig (Z/2^s) m:Nat))) w.heap.size (.slice (some ⟨(w.heap.size+1),0,none⟩) M M) M (digs (Z/2^s) (m+1) ++ List.replicate (M-(m+1)) 0)):=by
        have:=(World.ownsRow.stored l m (.int .u64 (dig (Z/2^s) m:Nat))).1;unfold Hid OwnN;rw [digs,← fK _ M m _ (ag _ _ _) (by omega),List.map_set];exact this
       obtain ⟨z,hz⟩:∃ z,z=dig (Z/2^s) m:=⟨_,rfl⟩
       rw [← hz] at aC a9;obtain ⟨x1,aQ⟩:∃ x1,x1=dig Z m:=⟨_,rfl⟩
       obtain ⟨x2,aS⟩:∃ x2,x2=dig Z m1:=⟨_,rfl⟩
       rw [← aQ,← aS] at aC;rw [← aQ] at c1;rw [← aS] at c2;obtain ⟨xl,a2⟩:∃ xl,xl=x1/2^s:=⟨_,rfl⟩
       rw [← a2] at aC;have cs:(x1:Int)/2^s=(xl:Int):=by rw [a2];simp
       have aV:=aa B;clear hz aQ aS a2 B l;go_wp2_with fail;go_still_tail 17,(by kernel_rfl)
       change wpList _ _ _ _ _ wr.drew
       go_wp2_with fail;go_roundw
       case rel=>exact ⟨m1,by have:=aV.out;omega,rfl,by rw [aV.out];exact a9.out,(ax.setCell ⟨(w.heap.size+1),m,none⟩ (fun _=>rfl) _).drew⟩
       case measure=>have:=aV.out;simp [intOf];omega
      ·have b9:¬ (m:Int)<(K:Int):=by omega
       obtain rfl:m=K:=by omega
       rw [ca.out] at l;have hf:=ef (m:=M) (ah (by omega) (X%Y) m) (V:=X%Y) (by rw [ak,al (Nat.lt_trans (Nat.mod_lt _ a8) ay.out)]) (by rw [ag];omega);rw [ag] at hf;rw [← hf] at l;have bP:=aa (ax.own b8.out (fun b hb e=>by have e':b=(w.heap.size+1):=e;simp [Value.ownBlock] at hb;omega));have aJ:=aa ((bZ.next aD (fun x hx e=>by rcases e with e | e <;> omega)).next ax (fun x hx e=>by have e':x=(w.heap.size+1):=e;omega));clear hf;go_wp2_with fail;go_ret2;exact ⟨_,_,rfl,bP.out,l,aJ.out⟩
 ·have b5:=mX w M L CM CL bE.out bG.out (by omega) (by omega);generalize ((w.alloc (.cells CM 23)).alloc (.cells CL 23)).drew=W1 at *;obtain ⟨ap,I,k1⟩:=b5;clear br bb bG bE;obtain ⟨_,_,_,e1,_,_,_,_,aB⟩:=(HV.out.grew k1).open;cases e1
  go_wp2_with fail;refine (bC _ k1).mono ?_;rintro e w2 ⟨rfl,rfl⟩;clear bC;have aT:Hid (xs≠[]→∀ b,(Value.slice ao L cap).ownBlock=some b→b<w.heap.size):=fun h b hb=>HU.out.lt h b hb
  by_cases hK1:K=1
  ·subst hK1;have ch:((bl:Int)+64-1)/64=1:=gK;clear gK;obtain ⟨b2,q,rfl,cy⟩:=aB 0 (by omega);have bu:ys.getD 0 0=Y:=by
    rw [← aR (by omega) aE.out,← HY.out,dig,Nat.pow_zero,Nat.div_one];have:=ay.out;rw [Nat.pow_one] at this;exact al this
   have cz:w2.cell? ⟨b2,q,none⟩=some (.int .u64 (Y:Nat)):=by rw [← bu];exact cy
   have ad:Y<18446744073709551616:=by have:=ay.out;rwa [Nat.pow_one] at this
   obtain ⟨R,hR⟩:∃ R,R=X%Y:=⟨_,rfl⟩
   have aU:R<18446744073709551616:=by rw [hR];exact Nat.lt_trans (Nat.mod_lt _ a8) ad
   have O:=BU (w.heap.size+1) w.heap.size L L ao cap xs (List.replicate L 0) X Y R HX.out hR ad a8 w2 I (by simp) (HU.out.grew k1) bJ.out (fun h b hb=>by have:=aT.out h b hb;omega) (by omega);have cj:(0:Int)<(M:Int):=by omega
   obtain ⟨M1,bn⟩:∃ M1,M=M1+1:=⟨M-1,by omega⟩
   have bY:Hid (digs R M=(List.replicate M 0).set 0 R):=by unfold Hid;rw [bn,fL R M1 aU,List.replicate_succ,lsZ]
   have b7:=aa hR;clear aB cy bu bn hR;go_wp2_with fail;refine O.mono ?_;rintro e w3 ⟨rfl,r,k3⟩;have l:=k3.own ap (fun b hb e=>by simp [Value.ownBlock] at hb;omega);have cr:w3.cell? ⟨w.heap.size,0,none⟩=some (.int .u64 0):=by
    rw [World.ownsRow.cellAt l 0 (by omega),List.getElem?_map,List.getElem?_replicate,if_pos (by omega)];rfl
   have fr:=World.ownsRow.frozenAt l 0;have bs:=(World.ownsRow.stored l 0 (.int .u64 (R:Int))).1;have kb:Kept (fun b=>b=w.heap.size) w3 (w3.setCell ⟨w.heap.size,0,none⟩ (.int .u64 (R:Int))):=ar w3 w.heap.size _;have HQ:=aa (kb.own r (fun b hb e=>by simp [Value.ownBlock] at hb;omega));have bV:Hid (OwnN .u64 23 (w3.setCell ⟨w.heap.size,0,none⟩ (.int .u64 (R:Int))) w.heap.size (.slice (some ⟨w.heap.size,0,none⟩) M M) M (digs (X%Y) M)):=by
    unfold Hid OwnN;rw [← b7.out,bY.out,List.map_set];exact bs
   have aJ:=aa ((k1.next k3 (fun x hx e=>by omega)).next kb (fun x hx e=>by omega));clear O l bs kb r k3 I ap;go_wp2_with fail;go_ret2;exact ⟨_,_,rfl,HQ.out,bV.out,aJ.out⟩
  ·have cB:((K:Int) == 1)=false:=by simp;omega
   have cx:¬ (K:Int)=1:=by omega
   obtain ⟨n,hn⟩:∃ n,n=K-2:=⟨_,rfl⟩
   obtain ⟨nk,aL⟩:∃ nk,nk=K-1:=⟨_,rfl⟩
   obtain ⟨b2,q,rfl,cy⟩:=aB nk (by omega);obtain ⟨t,ht⟩:∃ t,t=Y/18446744073709551616^nk:=⟨_,rfl⟩
   have a3:Y<18446744073709551616^(nk+1):=by rw [show nk+1=K by omega];exact ay.out
   have E:0<18446744073709551616^nk:=Nat.pow_pos (by omega);have bi:t<18446744073709551616:=by
    rw [ht,Nat.div_lt_iff_lt_mul E,← Nat.pow_succ'];exact a3
   have bM:0<t:=by rw [ht];exact Nat.div_pos (by rw [aL];exact cb.out) E
   have bA:ys.getD nk 0=t:=by rw [← aR (by omega) aE.out,← HY.out,dig,← ht,al bi]
   rw [bA] at cy;obtain ⟨s,hs⟩:∃ s,s=64-au t:=⟨_,rfl⟩
   obtain ⟨am,v1,v2,v3⟩:=nt a3 ht bM hs;rw [show nk+1=K by omega] at v1;have a5:=fun W=>bLz t bi W
   rw [← hs] at a5;obtain ⟨V,hV⟩:∃ V,V=Y*2^s:=⟨_,rfl⟩
   rw [← hV] at v1 v2 v3;have bQ:=aa hV;obtain ⟨N,hN⟩:∃ N,N=max L K+1:=⟨_,rfl⟩
   have gN:max (L:Int) (K:Int)+1=(N:Int):=by omega
   have cw:(K:Int)-1=(nk:Int):=by omega
   have cD:(nk:Int)<(M:Int):=by omega
   have ck:(K:Int)≤(M:Int):=by omega
   have bz:M≤az:=by obtain ⟨_,_,_,e1,_,hh,_⟩:=HV.out.open;cases e1;exact hh
   have cE:(K:Int)≤(az:Int):=by omega
   have hcut:∀ W,Kept af w W→Row .u64 W (.slice (some ⟨b2,q,none⟩) K az) (ys.take K):=fun W k=>(HV.out.grew k).cut (by rw [eM.out];omega)
   have bh:Y=val (ys.take K):=by rw [eW (by omega) aE.out,← HY.out,al ay.out]
   have a4:=fun W (k:Kept af w W)=>mx (some ⟨b2,q,none⟩) K az (ys.take K) Y s K bh am W (hcut W k) (aE.out.take K) (by omega) (leR _)
   have bw:=fun W (k:Kept af w W)=>mx ao L cap xs X s N HX.out am W (HU.out.grew k) bJ.out (by omega) (by omega)
   rw [← hV] at a4;have H0:Hid (n=K-2∧nk=K-1∧N=max L K+1∧2≤K):=⟨hn,aL,hN,by omega⟩
   clear aB ht hs bA hV hcut bh hn aL hN E a3;go_wp2_with fail;refine (a5 _).mono ?_;rintro e w3 ⟨rfl,rfl⟩;clear a5;go_wp2_with fail;refine (a4 _ k1).mono ?_;rintro e w4 ⟨rfl,aG,k4⟩;have a6:=k1.trans k4;go_wp2_with fail;refine (bw _ a6).mono ?_;rintro e w5 ⟨rfl,H,k5⟩;have bZ:=a6.trans k5;have an:=k5.own aG (fun _ _ f=>f);have F:=(k4.trans k5).own I (fun _ _ f=>f);have G:=(k4.trans k5).own ap (fun _ _ f=>f);have ae:w.heap.size+1<w3.heap.size:=by have h1:=cW I;have h2:=cW ap;omega
   have ab:w3.heap.size<w4.heap.size:=cW aG;clear a4 bw aG I ap k1 a6;go_wp2_with fail;obtain ⟨T,hT⟩:∃ T,T=L+1-K:=⟨_,rfl⟩
   have bL:=cW F;have bK:=cW G;have aM:w.heap.size+1<w3.heap.size:=ae;have aO:w3.heap.size<w4.heap.size:=ab;obtain ⟨gv,a1⟩:∃ g,g=w3.heap.size:=⟨_,rfl⟩
   obtain ⟨gu,aX⟩:∃ g,g=w4.heap.size:=⟨_,rfl⟩
   have A:OwnN .u64 23 w5 w.heap.size (.slice (some ⟨gu,0,none⟩) N N) N (digs (X*2^s) N):=by
    rw [aX];exact aZ H (fun b hb=>by simp [Value.ownBlock] at hb;omega)
   have bD:Row .u64 w5 (.slice (some ⟨gv,0,none⟩) K K) (digs V K):=by rw [a1];exact aY an (ag _ _ _)
   rw [← a1,← aX];have dq:(w.heap.size+1)≠gu∧w.heap.size≠gu∧gv≠gu∧gv≠(w.heap.size+1)∧(w.heap.size+1)≠w.heap.size∧w.heap.size≤gu:=by omega
   clear H an a1 aX aO aM bL bK;obtain ⟨S,aj,aw,cq⟩:=H0.out;have a0:0<V:=Nat.lt_of_lt_of_le (Nat.mul_pos (by omega) (Nat.pow_pos (by omega))) v3;have aN:X*2^s<2^s*18446744073709551616^L:=by rw [Nat.mul_comm];exact Nat.mul_lt_mul_of_pos_left cc.out (Nat.pow_pos (by omega))
   have bp:X*2^s<18446744073709551616^N:=nS aN am (by omega);obtain ⟨a,c⟩:∃ a,a=digs (X*2^s) N:=⟨_,rfl⟩
   rw [← c] at A;have bt:a.length=N:=by rw [c,ag]
   have aI:Digs a:=by rw [c];exact ah (by omega) _ _
   have aK:val a=X*2^s:=by rw [c,ak,al bp]
   have o:val (a.drop T)<V:=by rw [fJ (by omega) aI,aK];exact jr aN am v3 (by omega)
   have v:Hid (a.length=N∧Digs a∧val a=X*2^s):=⟨bt,aI,aK⟩
   have ba:(digs V K).getD nk 0=dig V nk:=de _ _ _ _ (by omega);rw [← ba] at v2;have bk:V=val (digs V K):=by rw [ak,al v1]
   have HT:=aa hT;have bX:=aa bD;have bT:=aa A;have bO:=aa v2;have b4:=aa bk;have bN:=aa o;have gT:(L:Int)-(K:Int)+1=(T:Int)∨(T=0∧(L:Int)-(K:Int)+1≤0):=by omega
   obtain ⟨TI,bg⟩:∃ TI,TI=(L:Int)-(K:Int)+1:=⟨_,rfl⟩
   have bx:∀ k:Nat,k≤T→((k:Int)<TI↔k<T):=fun k hk=>by omega
   rw [← bg];clear hT bD A v2 bk o bt aI aK c ba bp aN gT cy bg S aj aw;go_loopw [63] (fun i wr=>∃ (k:Nat) (zs qs:List Nat),k≤T∧i=.int .i64 (k:Int)∧OwnN .u64 23 wr w.heap.size (.slice (some ⟨gu,0,none⟩) N N) N zs∧OwnN .u64 23 wr w.heap.size (.slice (some ⟨(w.heap.size+1),0,none⟩) L L) L ((List.replicate T 0).take (T-k) ++ (qs ++ List.replicate (L-T) 0))∧Kept (fun b=>b=gu∨b=(w.heap.size+1)) w5 wr ∧
     Hid ((zs.length=N∧Digs zs)∧(qs.length=k∧Digs qs)∧zs.take (T-k)=a.take (T-k)∧val (zs.drop (T-k))<V∧V*val qs+val (zs.drop (T-k))=val (a.drop (T-k)))) (fun i _=>T-(intOf i).toNat)
   case atStart=>
    refine ⟨0,a,[],Nat.zero_le _,rfl,bT.out,?_,ai _ _,⟨⟨v.out.1,v.out.2.1⟩,⟨rfl,Digs.nil _⟩,rfl,by rw [Nat.sub_zero];exact bN.out,by rw [val,Nat.mul_zero,Nat.zero_add]⟩⟩;rw [Nat.sub_zero,List.take_of_length_le (by simp),List.nil_append,List.replicate_append_replicate,show T+(L-T)=L by have:=HT.out;omega];exact F
   case round=>
    clear F;obtain ⟨k,zs,qs,hk,rfl,H,r,aD,HI⟩:=hrel;by_cases hkT:k<T
    ·have gk:(k:Int)<TI:=(bx k hk).2 hkT;have co:(0:Int)≤(k:Int):=Int.natCast_nonneg _;have a7:=HT.out;obtain ⟨S,aj,aw,_⟩:=H0.out;obtain ⟨j,hj⟩:∃ j,j=T-1-k:=⟨_,rfl⟩
     have bd:T-k=j+1:=by omega
     have av:T-(k+1)=j:=by omega
     have gj:(L:Int)-(K:Int)-(k:Int)=(j:Int):=by omega
     have cA:(j:Int)<(L:Int):=by omega
     have bq:j+(K+1)≤N:=by omega
     obtain ⟨⟨i1,i2⟩,⟨i3,i4⟩,i5,i6,i7⟩:=HI.out;rw [bd] at i5 i6 i7 r;obtain ⟨U,hU⟩:∃ U,U=val ((zs.drop j).take (K+1)):=⟨_,rfl⟩
     obtain ⟨aF,be⟩:=jN (by omega) i2 i1 v.out.1 bq v1 a0 i6 i5 i7 U hU;obtain ⟨l1,l2,l3,l4,l5⟩:=be _ rfl;obtain ⟨Q,hQ⟩:∃ Q,Q=U/V:=⟨_,rfl⟩
     obtain ⟨R,hR⟩:∃ R,R=U%V:=⟨_,rfl⟩
     have ci:Q<18446744073709551616:=by rw [hQ,Nat.div_lt_iff_lt_mul a0,Nat.mul_comm];exact aF
     rw [← hR] at l1 l2 l3 l4 l5;rw [← hQ] at l5;have J:Row .u64 wr (.slice (some ⟨gv,0,none⟩) K K) (digs V K):=bX.out.kept aD (fun b hb e=>by simp [Value.ownBlock] at hb;omega);have aH:=yO gu w.heap.size N N j n nk K (N-j) (by omega) (by omega) zs (digs V K) (some ⟨gv,0,none⟩) K U V Q R wr H i1 i2 bq (by omega) (by omega) J (ah (by omega) _ _) (fun b hb e=>by simp [Value.ownBlock] at hb;omega) bO.out hU b4.out aF hQ hR;have bj:∀ W,OwnN .u64 23 W w.heap.size (.slice (some ⟨(w.heap.size+1),0,none⟩) L L) L ((List.replicate T 0).take (j+1) ++ (qs ++ List.replicate (L-T) 0))→W.cell? ⟨(w.heap.size+1),j,none⟩=some (.int .u64 0):=fun W h=>by
      rw [World.ownsRow.cellAt h j (by omega),List.getElem?_map,List.getElem?_append_left (by rw [List.length_take,List.length_replicate];omega),List.getElem?_take,if_pos (by omega),List.getElem?_replicate,if_pos (by omega)];rfl
     have aW:Hid (∀ W,OwnN .u64 23 W w.heap.size (.slice (some ⟨(w.heap.size+1),0,none⟩) L L) L ((List.replicate T 0).take (j+1) ++ (qs ++ List.replicate (L-T) 0))→OwnN .u64 23 (W.setCell ⟨(w.heap.size+1),j,none⟩ (.int .u64 (Q:Int))) w.heap.size (.slice (some ⟨(w.heap.size+1),0,none⟩) L L) L ((List.replicate T 0).take j ++ ((Q :: qs) ++ List.replicate (L-T) 0))):=fun W h=>by
      have:=(World.ownsRow.stored h j (.int .u64 (Q:Int))).1;unfold OwnN;rw [List.cons_append,← jc (by rw [List.length_replicate];omega),List.map_set];exact this
     have b6:Hid (((zs.take j ++ (digs R (K+1) ++ zs.drop (j+(K+1)))).length=N∧Digs (zs.take j ++ (digs R (K+1) ++ zs.drop (j+(K+1)))))∧((Q :: qs).length=k+1∧Digs (Q :: qs))∧(zs.take j ++ (digs R (K+1) ++ zs.drop (j+(K+1)))).take j=a.take j∧val ((zs.take j ++ (digs R (K+1) ++ zs.drop (j+(K+1)))).drop j)<V∧V*val (Q :: qs)+val ((zs.take j ++ (digs R (K+1) ++ zs.drop (j+(K+1)))).drop j)=val (a.drop j)):=⟨⟨l1,l2⟩,⟨by rw [List.length_cons,i3],fun d hd=>by rcases List.mem_cons.1 hd with h | h;omega;exact i4 d h⟩,l3,l4,l5⟩
     have ac:=aa av;have b1:(j:Int)≤(j:Int)+(K:Int)+1:=by omega
     have b0:(j:Int)+(K:Int)+1≤(N:Int):=by omega
     clear HI hj bd av i1 i2 i3 i4 i5 i6 i7 l1 l2 l3 l4 l5 aF be hU hQ hR J S aj aw a7;generalize zs.take j ++ (digs R (K+1) ++ zs.drop (j+(K+1)))=zs2 at *;rw [show K+1=j+K+1-j by omega] at aH;go_wp2_with fail;refine aH.mono ?_;rintro e w6 ⟨rfl,aP,k6⟩;have D:=k6.own r (fun b hb e=>by simp [Value.ownBlock] at hb;omega);have c6:=bj _ D;have f6:=World.ownsRow.frozenAt D j;clear aH bj;go_wp2_with fail;go_roundw
     case rel=>
      have kb:Kept (fun b=>b=(w.heap.size+1)) w6 (w6.setCell ⟨(w.heap.size+1),j,none⟩ (.int .u64 (Q:Int))):=(ai (fun b=>b=(w.heap.size+1)) w6).setCell ⟨(w.heap.size+1),j,none⟩ (fun _=>rfl) _;refine ⟨k+1,zs2,Q :: qs,by omega,by go_num,kb.own aP (fun b hb e=>by simp [Value.ownBlock] at hb;omega),?_,(aD.next k6 (fun _ _ e=>.inl e)).next kb (fun _ _ e=>.inr e),by rw [ac.out];exact b6⟩;rw [ac.out];exact aW.out _ D
     case measure=>simp [intOf];omega
    ·have gk:¬ (k:Int)<TI:=fun h=>hkT ((bx k hk).1 h)
     obtain rfl:k=T:=by omega
     obtain ⟨S,aj,aw,_⟩:=H0.out;have a7:=HT.out;obtain ⟨⟨i1,i2⟩,⟨i3,i4⟩,_,i6,i7⟩:=HI.out;rw [Nat.sub_self,List.drop_zero] at i6 i7;rw [List.drop_zero,v.out.2.2] at i7;rw [Nat.sub_self,List.take_zero,List.nil_append] at r;obtain ⟨d1,d2⟩:=jf (M:=X) (y:=Y) (p:=2^s) (Nat.pow_pos (by omega));rw [← bQ.out,← i7] at d1 d2;rw [Nat.mul_add_div a0,Nat.div_eq_of_lt i6,Nat.add_zero] at d1;rw [Nat.mul_add_mod,al i6] at d2;have bm:qs ++ List.replicate (L-k) 0=digs (X/Y) L:=by
      rw [ef i4 d1 (by omega),i3]
     rw [bm] at r;obtain ⟨Z,hZ⟩:∃ Z,Z=val zs:=⟨_,rfl⟩
     rw [← hZ] at d2;have bc:∀ i,zs.getD i 0=dig Z i:=fun i=>by rw [hZ];exact (aR (by omega) i2 i).symm
     have bB:∀ W,Kept (fun b=>b=w.heap.size) wr W→∀ i,i<N→W.cell? ⟨gu,i,none⟩=some (.int .u64 (dig Z i:Nat)):=fun W kk i hi=>by
      have h1:=kk.own H (fun b hb e=>by simp [Value.ownBlock] at hb;omega);rw [World.ownsRow.cellAt h1 i (by omega),List.getElem?_map,← bc,List.getD_eq_getElem?_getD,List.getElem?_eq_getElem (by omega)];rfl
     have l:=aD.own G (fun b hb e=>by simp [Value.ownBlock] at hb;omega);have bv:=aa bB;have b8:=aa r;have ca:=aa d2;have cv:K+1≤N:=by omega
     obtain ⟨s2,bf⟩:∃ s2,s2=64-s:=⟨_,rfl⟩
     have b1:(s:Int)≤64:=by omega
     have b0:IntKind.i64.wrap (64-(s:Int))=(s2:Int):=by rw [IntKind.wrap_i64];omega
     have cC:(s2:Int)≤64:=by omega
     have bR:=aa bf;clear HI i1 i2 i3 i4 i6 i7 d1 d2 bm hZ bc bB r H G S aj aw a7 bf;go_wp2_with fail;go_loopw [86] (fun i wz=>∃ (m:Nat),m≤K∧i=.int .i64 (m:Int)∧OwnN .u64 23 wz w.heap.size (.slice (some ⟨w.heap.size,0,none⟩) M M) M (digs (Z/2^s) m ++ List.replicate (M-m) 0)∧Kept (fun b=>b=w.heap.size) wr wz) (fun i _=>K-(intOf i).toNat)
     case atStart=>exact ⟨0,Nat.zero_le _,rfl,by rw [Nat.sub_zero];exact l,ai _ _⟩
     case round=>
      clear l;obtain ⟨m,hm,rfl,l,ax⟩:=hrel;by_cases hmK:m<K
      ·have cl:(0:Int)≤(m:Int):=Int.natCast_nonneg _;have b9:(m:Int)<(K:Int):=by omega
       obtain ⟨m1,B⟩:∃ m1,m1=m+1:=⟨_,rfl⟩
       have cm:IntKind.i64.wrap ((m:Int)+1)=(m1:Int):=by rw [IntKind.wrap_i64];omega
       have cu:(m:Int)<(N:Int):=by omega
       have ct:(m1:Int)<(N:Int):=by omega
       have cp:(m:Int)<(M:Int):=by omega
       have c1:=bv.out _ ax m (by omega);have c2:=bv.out _ ax m1 (by omega);have aC:=ki (Z:=Z) (i:=m) am;rw [← bR.out,← B] at aC;have cr:=ep l (ag _ _ _) (by omega);have fr:=World.ownsRow.frozenAt l m;have a9:Hid (OwnN .u64 23 (wr.setCell ⟨w.heap.size,m,none⟩ (.int .u64 (dig (Z/2^s) m:Nat))) w.heap.size (.slice (some ⟨w.heap.size,0,none⟩) M M) M (digs (Z/2^s) (m+1) ++ List.replicate (M-(m+1)) 0)):=by
        have:=(World.ownsRow.stored l m (.int .u64 (dig (Z/2^s) m:Nat))).1;unfold Hid OwnN;rw [digs,← fK _ M m _ (ag _ _ _) (by omega),List.map_set];exact this
       obtain ⟨z,hz⟩:∃ z,z=dig (Z/2^s) m:=⟨_,rfl⟩
       rw [← hz] at aC a9;obtain ⟨x1,aQ⟩:∃ x1,x1=dig Z m:=⟨_,rfl⟩
       obtain ⟨x2,aS⟩:∃ x2,x2=dig Z m1:=⟨_,rfl⟩
       rw [← aQ,← aS] at aC;rw [← aQ] at c1;rw [← aS] at c2;obtain ⟨xl,a2⟩:∃ xl,xl=x1/2^s:=⟨_,rfl⟩
       rw [← a2] at aC;have cs:(x1:Int)/2^s=(xl:Int):=by rw [a2];simp
       have aV:=aa B;clear hz aQ aS a2 B l;go_wp2_with fail;go_still_tail 17,(by kernel_rfl)
       change wpList _ _ _ _ _ wr.drew
       go_wp2_with fail;go_roundw
       case rel=>exact ⟨m1,by have:=aV.out;omega,rfl,by rw [aV.out];exact a9.out,(ax.setCell ⟨w.heap.size,m,none⟩ (fun _=>rfl) _).drew⟩
       case measure=>have:=aV.out;simp [intOf];omega
      ·have b9:¬ (m:Int)<(K:Int):=by omega
       obtain rfl:m=K:=by omega
       rw [ca.out] at l;have hf:=ef (m:=M) (ah (by omega) (X%Y) m) (V:=X%Y) (by rw [ak,al (Nat.lt_trans (Nat.mod_lt _ a8) ay.out)]) (by rw [ag];omega);rw [ag] at hf;rw [← hf] at l;have bP:=aa (ax.own b8.out (fun b hb e=>by have e':b=w.heap.size:=e;simp [Value.ownBlock] at hb;omega));have aJ:=aa ((bZ.next aD (fun x hx e=>by rcases e with e | e <;> omega)).next ax (fun x hx e=>by have e':x=w.heap.size:=e;omega));clear hf;go_wp2_with fail;go_ret2;exact ⟨_,_,rfl,bP.out,l,aJ.out⟩

def gC (L M:Nat):Bool:=decide (L≤300∧M≤300)

def iz (Y L M:Nat):Nat:=if gC L M=true then (if Y=0 then 1 else 0) else 2

def kF (X Y L M:Nat):List Nat:=if iz Y L M=0 then digs (X/Y) L else []

def kD (X Y L M:Nat):List Nat:=if iz Y L M=0 then digs (X%Y) M else []

theorem tK {X Y L M:Nat} (h:¬ (L≤300∧M≤300)):iz Y L M=2∧kF X Y L M=[]∧kD X Y L M=[]:=by
 have e:iz Y L M=2:=by unfold iz gC;rw [if_neg (by simpa using h)]
 refine ⟨e,?_,?_⟩
 ·unfold kF;rw [e,if_neg (by omega)]
 ·unfold kD;rw [e,if_neg (by omega)]

theorem uX {X Y L M:Nat} (h:L≤300∧M≤300) (h0:Y=0):iz Y L M=1∧kF X Y L M=[]∧kD X Y L M=[]:=by
 have e:iz Y L M=1:=by unfold iz gC;rw [if_pos (by simpa using h),if_pos h0]
 refine ⟨e,?_,?_⟩
 ·unfold kF;rw [e,if_neg (by omega)]
 ·unfold kD;rw [e,if_neg (by omega)]

theorem eE {X Y L M:Nat} (h:L≤300∧M≤300) (h0:Y≠0):iz Y L M=0∧kF X Y L M=digs (X/Y) L∧kD X Y L M=digs (X%Y) M:=by
 have e:iz Y L M=0:=by unfold iz gC;rw [if_pos (by simpa using h),if_neg h0]
 refine ⟨e,?_,?_⟩
 ·unfold kF;rw [if_pos e]
 ·unfold kD;rw [if_pos e]

theorem By (u:Value) (xs:List Nat) (w:World) (hu:Row .u64 w u xs) (a:Digs xs) (hL:xs.length≤100000000) :
  Calls Tryz.prog 152 #[.pointer none,u] w fun e w'=>e=.returned (.int .u64 (bi (decide (val xs=0)):Nat))∧Kept af w w':=by
 refine (Bl none u xs w (TrRoom.none w 1 (by omega)) (RowT.none hu) a hL).mono ?_;rintro e w' ⟨rfl,o',hd⟩;exact ⟨rfl,hd.none.2⟩

theorem xr (ao bo:Option Addr) (L M cap h:Nat) (xs ys:List Nat) (X Y:Nat) (hX:X=val xs) (hY:Y=val ys) (bA bB bQ bR:Nat) (w:World) (hu:Row .u64 w (.slice ao L cap) xs) (hv:Row .u64 w (.slice bo M h) ys) (t:Digs xs) (j:Digs ys)
  (hA:Box w bA (.slice ao L cap) 32) (hB:Box w bB (.slice bo M h) 32) (hQ:Box w bQ (.slice none 0 0) 32) (hR:Box w bR (.slice none 0 0) 32) (s:bQ≠bR) :
  Calls Tryz.prog 151 #[.pointer (some ⟨bA,0,none⟩),.pointer (some ⟨bB,0,none⟩),.pointer (some ⟨bQ,0,none⟩),.pointer (some ⟨bR,0,none⟩)] w fun e w'=>
   (¬ (L≤300∧M≤300)∧e=.panicked [refusal 2]∧w'=w)∨((L≤300∧M≤300)∧Y=0∧e=.panicked [refusal 1]∧Kept af w w') ∨
   ((L≤300∧M≤300)∧Y≠0∧e=.returned (.tuple #[])∧∃ v1 v2,OwnN .u64 23 w' w.heap.size v1 L (digs (X/Y) L)∧OwnN .u64 23 w' w.heap.size v2 M (digs (X%Y) M)∧Kept (fun b=>b=bQ∨b=bR) w w'∧Box w' bQ v1 32∧Box w' bR v2 32):=by
 obtain ⟨_,_,_,e1,H,_,_,_,_⟩:=hu.open;cases e1
 obtain ⟨_,_,_,e1,p,_,_,_,_⟩:=hv.open;cases e1
 have hP:=fun W=>sP ao bo L M cap h W
 have hZ:=fun (l:M≤300)=>By _ ys w hv j (by have:=p.out;omega)
 rw [← hY] at hZ;have hD:=fun W (k:Kept af w W) (l1:L≤300) (l2:M≤300) (h0:0<Y)=>AO ao bo L M cap h xs ys X Y hX hY h0 W (hu.grew k) (hv.grew k) t j (by omega) (by omega)
 have cA:=hA.cell;have cB:=hB.cell;have J:=aa hA;have B:=aa hB;have E:=aa hQ;have F:=aa hR;clear hu hv t j H p hA hB hQ hR hX hY;go_enter Tryz.func151,Tryz.ntmps151;go_wp2_with fail;refine (hP _).mono ?_;rintro e w1 ⟨⟨l1,l2,rfl⟩ | ⟨l1,rfl⟩,rfl⟩
 ·obtain ⟨nz,o⟩:∃ nz,nz=bi (decide (Y=0)):=⟨_,rfl⟩
  rw [← o] at hZ;have r:=aa o;clear hP o;go_wp2_with fail;refine (hZ l2).mono ?_;rintro e w2 ⟨rfl,k2⟩;have x:=(J.out.grew k2).cell;have y:=(B.out.grew k2).cell;have i:=E.out.grew k2;have m:=F.out.grew k2;clear hZ cA cB;by_cases h0:Y=0
  ·have en:nz=1:=by rw [r.out,aT h0];rfl
   have gn:((nz:Int) == 1)=true:=by rw [en];rfl
   have n:=iu 1 w2;go_wp2_with fail;refine n.mono ?_;rintro e w4 ⟨rfl,rfl⟩;exact ⟨rfl,.inr (.inl ⟨⟨l1,l2⟩,h0,rfl,k2⟩)⟩
  ·have en:nz=0:=by rw [r.out,aC h0];rfl
   have gn:((nz:Int) == 1)=false:=by rw [en];rfl
   have q:=ji 1 w2;have v:=hD w2 k2 l1 l2 (by omega);clear hD;go_wp2_with fail;refine q.mono ?_;rintro e w3 ⟨rfl,rfl⟩;clear q;go_wp2_with fail;refine v.mono ?_;rintro e w4 ⟨v1,v2,rfl,f,d,k4⟩;obtain ⟨xo,xc,rfl⟩:=bh f;obtain ⟨yo,yc,rfl⟩:=bh d;have a:=i.grew k4;have c:=m.grew k4;have cQ:=a.cell;have fQ:=a.free;have cR:=c.cell;have fR:=c.free;have z:=i.lt;have C:=m.lt;have O:=k2.size;have kb:Kept (fun b=>b=bQ∨b=bR) w4 (w4.setCell ⟨bQ,0,none⟩ (.slice xo L xc)):=(ar w4 bQ (.slice xo L xc)).mono (fun _ _ e=>.inl e);have g:=kb.next (ar _ bR (.slice yo M yc)) (fun _ _ e=>.inr e)
   have G:=aa (aZ (base':=w1.heap.size) (g.own f (fun b hb e=>by have:=(f.lt b hb).1;omega)) (fun b hb=>by have:=(f.lt b hb).1;omega));have D:=aa (aZ (base':=w1.heap.size) (g.own d (fun b hb e=>by have:=(d.lt b hb).1;omega)) (fun b hb=>by have:=(d.lt b hb).1;omega));have N:=aa ((a.set (.slice xo L xc)).other ⟨bR,0,none⟩ s (.slice yo M yc));have I:=aa ((c.other ⟨bQ,0,none⟩ (fun e=>s e.symm) (.slice xo L xc)).set (.slice yo M yc));have A:=aa ((k2.trans k4).any.trans g);clear f d a c kb g i m x y v;go_wp2_with fail;go_end0
   exact .inr (.inr ⟨⟨l1,l2⟩,h0,rfl,_,_,G.out,D.out,A.out,N.out,I.out⟩)
 ·exact ⟨rfl,.inl ⟨l1,rfl,rfl⟩⟩

theorem ph (ao bo:Option Addr) (L M cap d:Nat) (xs ys:List Nat) (E:Nat) (hE:E=iz (val ys) L M) (w:World) (hu:Row .u64 w (.slice ao L cap) xs) (hv:Row .u64 w (.slice bo M d) ys) (D:Digs xs) (y:Digs ys) :
  Calls Tryz.prog 108 #[.slice ao L cap,.slice bo M d] w fun e w'=>∃ v1 v2,e=.returned (.tuple #[v1,v2,.int .i64 (E:Nat)]) ∧
   Row .u64 w' v1 (kF (val xs) (val ys) L M)∧Row .u64 w' v2 (kD (val xs) (val ys) L M)∧Kept af w w':=by
 have B:=eR;have A:=jI w (.slice ao L cap) (.slice bo M d) (.slice none 0 0) (.slice none 0 0) 32 32 32 32;have he:∀ args w,(callFunc 151 args).run Tryz.prog w=.ok (.enter 151 args) w:=fun _ _=>by simp [go_sem]
 obtain ⟨X,hX⟩:∃ X,X=val xs:=⟨_,rfl⟩
 obtain ⟨Y,hY⟩:∃ Y,Y=val ys:=⟨_,rfl⟩
 rw [← hY] at hE;rw [← hX,← hY];have HE:=aa hE;have HX:=aa hX;have HY:=aa hY;clear hE hX hY;go_enter Tryz.func108,Tryz.ntmps108;go_wp2_with fail;generalize (((w.alloc (.cells #[.slice ao L cap] 32)).alloc (.cells #[.slice bo M d] 32)).alloc (.cells #[.slice none 0 0] 32)).alloc (.cells #[.slice none 0 0] 32)=W at *;obtain ⟨k0,x2,x3,x4,x5,hs⟩:=A;have k1:=k0.alloc (.cells #[.int .i64 0] 33);have xe:=Box.new W (.int .i64 0) 33;have h1:=xr ao bo L M cap d xs ys X Y HX.out HY.out _ _ _ _ _ (hu.grew k1) (hv.grew k1) D y (x2.alloc _) (x3.alloc _) (x4.alloc (.cells #[.int .i64 0] 33)) (x5.alloc _) (by omega)
 have l:(W.alloc (.cells #[.int .i64 0] 33)).heap.size=W.heap.size+1:=by simp
 refine (iP 151 _ W (fun n W'=>n=(E:Int)∧∃ ro rc ln so sc lm,Box W' (w.heap.size+1+1) (.slice ro ln rc) 32∧Box W' (w.heap.size+1+1+1) (.slice so lm sc) 32∧Row .u64 W' (.slice ro ln rc) (kF X Y L M)∧Row .u64 W' (.slice so lm sc) (kD X Y L M)∧(∀ b,(Value.slice ro ln rc).ownBlock=some b→W.heap.size+1≤b)∧(∀ b,(Value.slice so lm sc).ownBlock=some b→W.heap.size+1≤b)∧Kept af w W') he (h1.mono ?_)).mono ?_
 ·rintro e w' (⟨hl,rfl,rfl⟩ | ⟨hl,h0,rfl,kz⟩ | ⟨hl,h0,rfl,v1,v2,h,f,hk,j,g⟩)
  ·obtain ⟨e1,e2,e3⟩:=tK (X:=X) (Y:=Y) hl;exact ⟨xe,.inr ⟨2,rfl,by rw [HE.out,e1];rfl,none,0,0,none,0,0,x4.alloc _,x5.alloc _,by rw [e2];exact Row.nil _ _,by rw [e3];exact Row.nil _ _,(fun b hb=>by cases hb),(fun b hb=>by cases hb),k1⟩⟩
  ·obtain ⟨e1,e2,e3⟩:=uX (X:=X) hl h0;exact ⟨xe.grew kz,.inr ⟨1,rfl,by rw [HE.out,e1];rfl,none,0,0,none,0,0,(x4.alloc _).grew kz,(x5.alloc _).grew kz,by rw [e2];exact Row.nil _ _,by rw [e3];exact Row.nil _ _,(fun b hb=>by cases hb),(fun b hb=>by cases hb),k1.trans kz⟩⟩
  ·obtain ⟨e1,e2,e3⟩:=eE (X:=X) hl h0;rw [l] at h f;have F:=xe.kept hk (by omega);obtain ⟨xo,xc,rfl⟩:=bh h;obtain ⟨yo,yc,rfl⟩:=bh f;exact ⟨F,.inl ⟨rfl,by rw [HE.out,e1];rfl,xo,xc,L,yo,yc,M,j,g,by rw [e2];exact aY h (ag _ _ _),by rw [e3];exact aY f (ag _ _ _),(fun b hb=>(h.lt b hb).1),(fun b hb=>(f.lt b hb).1),k1.next hk (fun x hx e=>by rcases e with e | e <;> omega)⟩⟩
 ·rintro e w' ⟨n,w1,rfl,⟨⟨rfl,ro,rc,ln,so,sc,lm,j,g,m,s,o,q,hk⟩,t⟩,rfl⟩;have c:=j.other ⟨W.heap.size,0,none⟩ (by show _≠W.heap.size;omega) (.int .i64 (E:Int));have a:=g.other ⟨W.heap.size,0,none⟩ (by show _≠W.heap.size;omega) (.int .i64 (E:Int));have c1:=c.cell;have f1:=c.free;have c2:=a.cell;have f2:=a.free;have p:w.heap.size+1+1≠w.heap.size+1+1+1:=by omega
  have c3:=((c.set (.slice ro ln rc)).other ⟨w.heap.size+1+1+1,0,none⟩ p (.slice so lm sc)).cell;have c4:=((a.other ⟨w.heap.size+1+1,0,none⟩ p.symm (.slice ro ln rc)).set (.slice so lm sc)).cell;have k:Kept (fun b=>b=W.heap.size∨b=w.heap.size+1+1∨b=w.heap.size+1+1+1) w1 (w1.setCell ⟨W.heap.size,0,none⟩ (.int .i64 (E:Int))):=(ar w1 W.heap.size _).mono (fun _ _ e=>.inl e);have r:=k.next (ar _ (w.heap.size+1+1) (.slice ro ln rc)) (fun _ _ e=>.inr (.inl e))
  have i:=r.next (ar _ (w.heap.size+1+1+1) (.slice so lm sc)) (fun _ _ e=>.inr (.inr e))
  have HK:=aa (hk.next i (fun x hx e=>by rcases e with e | e | e <;> omega));have z:=aa (m.kept i (fun b hb e=>by have:=o b hb;omega));have C:=aa (s.kept i (fun b hb e=>by have:=q b hb;omega));generalize w1.setCell ⟨W.heap.size,0,none⟩ (.int .i64 (E:Int))=W2 at *;clear h1 j g c a m s o q k r i hk t hu hv x2 x3 x4 x5 xe k0 k1 l he B;go_wp2_with fail;go_region
  all_goals
   go_wp2;refine bodyPost_ret (v:=.tuple #[.slice ro ln rc,.slice so lm sc,.int .i64 (E:Nat)]) (by simp [results,Tryz.results108,go_sem,c3,c4]) rfl ?_;exact ⟨_,_,rfl,z.out.grew (ai _ _).drew,C.out.grew (ai _ _).drew,HK.out.drew⟩

def dy (b:Int):Int:=min (max b 1) 8320

def l6 (b:Int):Int:=if dy b<46 then (49*dy b+80)/17 else (49*dy b+57)/17

end Go.Proofs.YtcemlfokmjjiaaaGreatDoor
