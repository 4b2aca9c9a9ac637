/- Put together of: QuG Ref5A PrK QuH Ref10A. -/
import Derived.Test.YtcemlfokmjjiaaaGreatDoorPm27

namespace Go.Proofs.YtcemlfokmjjiaaaGreatDoor
set_option maxRecDepth 100000
set_option maxHeartbeats 4000000
open Go.RowKit

theorem pu {Y M K:Nat} (h0:0<Y) (hM:Y<18446744073709551616^M) (hK:K=(aw Y+63)/64):0<K∧K≤M∧Y<18446744073709551616^K∧18446744073709551616^(K-1)≤Y:=by
 have h1:¬ aw Y≤0:=fun h=>by have:=(aB Y 0).1 h;simp at this;omega
 have h2:=(aB Y (aw Y)).1 (leR _);have h3:¬ Y<2^(aw Y-1):=fun h=>by have:=(aB Y (aw Y-1)).2 h;omega
 rw [B64] at hM;have h4:=(aB Y (64*M)).2 hM;have a:0<K:=by omega
 refine ⟨a,by omega,?_,?_⟩
 ·rw [B64];exact Nat.lt_of_lt_of_le h2 (Nat.pow_le_pow_right (by omega) (by omega))
 ·rw [B64];exact Nat.le_trans (Nat.pow_le_pow_right (by omega) (by omega)) (Nat.le_of_not_lt h3)

theorem zO (ao bo:Option Addr) (L M cap az:Nat) (xs ys:List Nat) (X Y:Nat) (hX:X=val xs) (hY:Y=val ys) (aV:0<Y) (w:World) (hu:Row .u64 w (.slice ao L cap) xs) (hv:Row .u64 w (.slice bo M az) ys) (bN:Digs xs) (bF:Digs ys) (hL:L≤100000) (hM:M≤100000) :
  Calls Tryz.prog 153 #[.slice ao L cap,.slice bo M az] w fun e w'=>∃ v1 v2,e=.returned (.tuple #[v1,v2]) ∧
   OwnN .u64 23 w' w.heap.size v1 L (ai (X/Y) L)∧OwnN .u64 23 w' w.heap.size v2 M (ai (X%Y) M)∧Kept af w w':=by
 obtain ⟨i0,cg,cc,ce,ch⟩:=info_parts Tryz.info23;obtain ⟨_,_,_,e1,b5,_,_,_,_⟩:=hu.open;cases e1
 obtain ⟨_,_,_,e1,bJ,_,_,_,_⟩:=hv.open;cases e1
 have eL:=aa b5.out;have eM:=aa bJ.out;have bI:Y<18446744073709551616^M:=by rw [hY,← bJ.out];exact ar (by omega) bF
 have cd:Hid (X<18446744073709551616^L):=by unfold Hid;rw [hX,← b5.out];exact ar (by omega) bN
 have bw:=fun W (k:Kept af w W)=>dY _ ys W (hv.grew k) bF (by rw [bJ.out];omega)
 rw [← hY] at bw;obtain ⟨K,hK⟩:∃ K,K=(aw Y+63)/64:=⟨_,rfl⟩
 obtain ⟨n1,n2,n3,n4⟩:=pu aV bI hK;have cz:aw Y≤6400000:=by
  rw [B64] at bI;have:=(aB Y (64*M)).2 bI;omega
 generalize aw Y=bl at *;have gK:((bl:Int)+64-1)/64=(K:Int):=by omega
 have HU:=aa hu;have HV:=aa hv;have bG:=aa bN;have aF:=aa bF;have HX:=aa hX;have HY:=aa hY;have aA:=aa n3;have cf:=aa n4;obtain ⟨CL,bR⟩:∃ C,C=madeCells #[.int .u64 0] L:=⟨_,rfl⟩
 obtain ⟨CM,bW⟩:∃ C,C=madeCells #[.int .u64 0] M:=⟨_,rfl⟩
 have bD:∀ W,(Instr.makeSlice 32 (.int .i64 (L:Int)) (.int .i64 (L:Int))).run Tryz.prog W=.ok (.slice (some ⟨W.heap.size,0,none⟩) L L) (W.alloc (.cells CL 23)):=fun W=>by rw [bR];exact run_make_row (P:=Tryz.prog) _ _ i0 _ Tryz.underlying32 cg cc ce rfl _ _ L (by rw [ch];omega) (by omega) W
 have bc:∀ W,(Instr.makeSlice 32 (.int .i64 (M:Int)) (.int .i64 (M:Int))).run Tryz.prog W=.ok (.slice (some ⟨W.heap.size,0,none⟩) M M) (W.alloc (.cells CM 23)):=fun W=>by rw [bW];exact run_make_row (P:=Tryz.prog) _ _ i0 _ Tryz.underlying32 cg cc ce rfl _ _ M (by rw [ch];omega) (by omega) W
 have bK:=aa bR;have bH:=aa bW;clear hu hv bN bF b5 bJ hX hY bI hK n3 n4 bR bW;go_enter Tryz.func153,Tryz.ntmps153;go_wp2_with fail;go_region
 ·have bY:=ow w L M CL CM bK.out bH.out (by omega) (by omega);generalize ((w.alloc (.cells CL 23)).alloc (.cells CM 23)).drew=W1 at *;obtain ⟨ae,av,k1⟩:=bY;clear bD bc bK bH;obtain ⟨_,_,_,e1,_,_,_,_,aE⟩:=(HV.out.grew k1).open;cases e1
  go_wp2_with fail;refine (bw _ k1).mono ?_;rintro e w2 ⟨rfl,rfl⟩;clear bw;have aO:Hid (xs≠[]→∀ b,(Value.slice ao L cap).ownBlock=some b→b<w.heap.size):=fun h b hb=>HU.out.lt h b hb
  by_cases hK1:K=1
  ·subst hK1;have cj:((bl:Int)+64-1)/64=1:=gK;clear gK;obtain ⟨b2,v,rfl,cy⟩:=aE 0 (by omega);have bC:ys.getD 0 0=Y:=by
    rw [← aR (by omega) aF.out,← HY.out,dig,Nat.pow_zero,Nat.div_one];have:=aA.out;rw [Nat.pow_one] at this;exact am this
   have cF:w2.cell? ⟨b2,v,none⟩=some (.int .u64 (Y:Nat)):=by rw [← bC];exact cy
   have ad:Y<18446744073709551616:=by have:=aA.out;rwa [Nat.pow_one] at this
   obtain ⟨R,hR⟩:∃ R,R=X%Y:=⟨_,rfl⟩
   have a5:R<18446744073709551616:=by rw [hR];exact Nat.lt_trans (Nat.mod_lt _ aV) ad
   have ax:=Cc w.heap.size w.heap.size L L ao cap xs (List.replicate L 0) X Y R HX.out hR ad aV w2 ae (by simp) (HU.out.grew k1) bG.out (fun h b hb=>by have:=aO.out h b hb;omega) (by omega);have cB:(0:Int)<(M:Int):=by omega
   obtain ⟨M1,bd⟩:∃ M1,M=M1+1:=⟨M-1,by omega⟩
   have bO:Hid (ai R M=(List.replicate M 0).set 0 R):=by unfold Hid;rw [bd,fU R M1 a5,List.replicate_succ,lsZ]
   have bM:=aa hR;clear aE cy bC bd hR;go_wp2_with fail;refine ax.mono ?_;rintro e w3 ⟨rfl,r,k3⟩;have l:=k3.own av (fun b hb e=>by simp [Value.ownBlock] at hb;omega);have cr:w3.cell? ⟨(w.heap.size+1),0,none⟩=some (.int .u64 0):=by
    rw [World.ownsRow.cellAt l 0 (by omega),List.getElem?_map,List.getElem?_replicate,if_pos (by omega)];rfl
   have fr:=World.ownsRow.frozenAt l 0;have bx:=(World.ownsRow.stored l 0 (.int .u64 (R:Int))).1;have kb:Kept (fun b=>b=(w.heap.size+1)) w3 (w3.setCell ⟨(w.heap.size+1),0,none⟩ (.int .u64 (R:Int))):=au w3 (w.heap.size+1) _;have HQ:=aa (kb.own r (fun b hb e=>by simp [Value.ownBlock] at hb;omega));have b1:Hid (OwnN .u64 23 (w3.setCell ⟨(w.heap.size+1),0,none⟩ (.int .u64 (R:Int))) w.heap.size (.slice (some ⟨(w.heap.size+1),0,none⟩) M M) M (ai (X%Y) M)):=by
    unfold Hid OwnN;rw [← bM.out,bO.out,List.map_set];exact bx
   have aU:=aa ((k1.next k3 (fun x hx e=>by omega)).next kb (fun x hx e=>by omega));clear ax l bx kb r k3 ae av;go_wp2_with fail;go_ret2;exact ⟨_,_,rfl,HQ.out,b1.out,aU.out⟩
  ·have co:((K:Int) == 1)=false:=by simp;omega
   have cw:¬ (K:Int)=1:=by omega
   obtain ⟨n,hn⟩:∃ n,n=K-2:=⟨_,rfl⟩
   obtain ⟨nk,a2⟩:∃ nk,nk=K-1:=⟨_,rfl⟩
   obtain ⟨b2,v,rfl,cy⟩:=aE nk (by omega);obtain ⟨t,ht⟩:∃ t,t=Y/18446744073709551616^nk:=⟨_,rfl⟩
   have a0:Y<18446744073709551616^(nk+1):=by rw [show nk+1=K by omega];exact aA.out
   have A:0<18446744073709551616^nk:=Nat.pow_pos (by omega);have bq:t<18446744073709551616:=by
    rw [ht,Nat.div_lt_iff_lt_mul A,← Nat.pow_succ'];exact a0
   have b9:0<t:=by rw [ht];exact Nat.div_pos (by rw [a2];exact cf.out) A
   have a9:ys.getD nk 0=t:=by rw [← aR (by omega) aF.out,← HY.out,dig,← ht,am bq]
   rw [a9] at cy;obtain ⟨s,hs⟩:∃ s,s=64-aw t:=⟨_,rfl⟩
   obtain ⟨an,v1,v2,v3⟩:=mZ a0 ht b9 hs;rw [show nk+1=K by omega] at v1;have aH:=fun W=>bLz t bq W
   rw [← hs] at aH;obtain ⟨V,hV⟩:∃ V,V=Y*2^s:=⟨_,rfl⟩
   rw [← hV] at v1 v2 v3;have bU:=aa hV;obtain ⟨N,hN⟩:∃ N,N=max L K+1:=⟨_,rfl⟩
   have gN:max (L:Int) (K:Int)+1=(N:Int):=by omega
   have cm:(K:Int)-1=(nk:Int):=by omega
   have cq:(nk:Int)<(M:Int):=by omega
   have cC:(K:Int)≤(M:Int):=by omega
   have ba:M≤az:=by obtain ⟨_,_,_,e1,_,hh,_⟩:=HV.out.open;cases e1;exact hh
   have cn:(K:Int)≤(az:Int):=by omega
   have hcut:∀ W,Kept af w W→Row .u64 W (.slice (some ⟨b2,v,none⟩) K az) (ys.take K):=fun W k=>(HV.out.grew k).cut (by rw [eM.out];omega)
   have bb:Y=val (ys.take K):=by rw [fi (by omega) aF.out,← HY.out,am aA.out]
   have aY:=fun W (k:Kept af w W)=>mJ (some ⟨b2,v,none⟩) K az (ys.take K) Y s K bb an W (hcut W k) (aF.out.take K) (by omega) (leR _)
   have be:=fun W (k:Kept af w W)=>mJ ao L cap xs X s N HX.out an W (HU.out.grew k) bG.out (by omega) (by omega)
   rw [← hV] at aY;have H0:Hid (n=K-2∧nk=K-1∧N=max L K+1∧2≤K):=⟨hn,a2,hN,by omega⟩
   clear aE ht hs a9 hV hcut bb hn a2 hN A a0;go_wp2_with fail;refine (aH _).mono ?_;rintro e w3 ⟨rfl,rfl⟩;clear aH;go_wp2_with fail;refine (aY _ k1).mono ?_;rintro e w4 ⟨rfl,aJ,k4⟩;have aQ:=k1.trans k4;go_wp2_with fail;refine (be _ aQ).mono ?_;rintro e w5 ⟨rfl,H,k5⟩;have cb:=aQ.trans k5;have J:=k5.own aJ (fun _ _ f=>f);have E:=(k4.trans k5).own ae (fun _ _ f=>f);have F:=(k4.trans k5).own av (fun _ _ f=>f);have ak:w.heap.size+1<w3.heap.size:=by have h1:=de ae;have h2:=de av;omega
   have ap:w3.heap.size<w4.heap.size:=de aJ;clear aY be aJ ae av k1 aQ;go_wp2_with fail;obtain ⟨T,hT⟩:∃ T,T=L+1-K:=⟨_,rfl⟩
   have bQ:=de E;have bX:=de F;have a3:w.heap.size+1<w3.heap.size:=ak;have aL:w3.heap.size<w4.heap.size:=ap;obtain ⟨gv,aM⟩:∃ g,g=w3.heap.size:=⟨_,rfl⟩
   obtain ⟨gu,aT⟩:∃ g,g=w4.heap.size:=⟨_,rfl⟩
   have B:OwnN .u64 23 w5 w.heap.size (.slice (some ⟨gu,0,none⟩) N N) N (ai (X*2^s) N):=by
    rw [aT];exact bg H (fun b hb=>by simp [Value.ownBlock] at hb;omega)
   have bh:Row .u64 w5 (.slice (some ⟨gv,0,none⟩) K K) (ai V K):=by rw [aM];exact bf J (ag _ _ _)
   rw [← aM,← aT];have dq:w.heap.size≠gu∧(w.heap.size+1)≠gu∧gv≠gu∧gv≠w.heap.size∧w.heap.size≠(w.heap.size+1)∧w.heap.size≤gu:=by omega
   clear H J aM aT aL a3 bQ bX;obtain ⟨ay,aq,O,cp⟩:=H0.out;have a1:0<V:=Nat.lt_of_lt_of_le (Nat.mul_pos (by omega) (Nat.pow_pos (by omega))) v3;have a6:X*2^s<2^s*18446744073709551616^L:=by rw [Nat.mul_comm];exact Nat.mul_lt_mul_of_pos_left cd.out (Nat.pow_pos (by omega))
   have bB:X*2^s<18446744073709551616^N:=ny a6 an (by omega);obtain ⟨a,c⟩:∃ a,a=ai (X*2^s) N:=⟨_,rfl⟩
   rw [← c] at B;have br:a.length=N:=by rw [c,ag]
   have aK:Digs a:=by rw [c];exact aj (by omega) _ _
   have aI:val a=X*2^s:=by rw [c,al,am bB]
   have o:val (a.drop T)<V:=by rw [fW (by omega) aK,aI];exact jF a6 an v3 (by omega)
   have q:Hid (a.length=N∧Digs a∧val a=X*2^s):=⟨br,aK,aI⟩
   have bp:(ai V K).getD nk 0=dig V nk:=dn _ _ _ _ (by omega);rw [← bp] at v2;have bu:V=val (ai V K):=by rw [al,am v1]
   have HT:=aa hT;have b6:=aa bh;have ca:=aa B;have bV:=aa v2;have b0:=aa bu;have b3:=aa o;have gT:(L:Int)-(K:Int)+1=(T:Int)∨(T=0∧(L:Int)-(K:Int)+1≤0):=by omega
   obtain ⟨TI,bz⟩:∃ TI,TI=(L:Int)-(K:Int)+1:=⟨_,rfl⟩
   have bs:∀ k:Nat,k≤T→((k:Int)<TI↔k<T):=fun k hk=>by omega
   rw [← bz];clear hT bh B v2 bu o br aK aI c bp bB a6 gT cy bz ay aq O;go_loopw [63] (fun i wr=>∃ (k:Nat) (zs qs:List Nat),k≤T∧i=.int .i64 (k:Int)∧OwnN .u64 23 wr w.heap.size (.slice (some ⟨gu,0,none⟩) N N) N zs∧OwnN .u64 23 wr w.heap.size (.slice (some ⟨w.heap.size,0,none⟩) L L) L ((List.replicate T 0).take (T-k) ++ (qs ++ List.replicate (L-T) 0))∧Kept (fun b=>b=gu∨b=w.heap.size) w5 wr ∧
     Hid ((zs.length=N∧Digs zs)∧(qs.length=k∧Digs qs)∧zs.take (T-k)=a.take (T-k)∧val (zs.drop (T-k))<V∧V*val qs+val (zs.drop (T-k))=val (a.drop (T-k)))) (fun i _=>T-(intOf i).toNat)
   case atStart=>
    refine ⟨0,a,[],Nat.zero_le _,rfl,ca.out,?_,ah _ _,⟨⟨q.out.1,q.out.2.1⟩,⟨rfl,Digs.nil _⟩,rfl,by rw [Nat.sub_zero];exact b3.out,by rw [val,Nat.mul_zero,Nat.zero_add]⟩⟩;rw [Nat.sub_zero,List.take_of_length_le (by simp),List.nil_append,List.replicate_append_replicate,show T+(L-T)=L by have:=HT.out;omega];exact E
   case round=>
    clear E;obtain ⟨k,zs,qs,hk,rfl,H,r,aC,HI⟩:=hrel;by_cases hkT:k<T
    ·have gk:(k:Int)<TI:=(bs k hk).2 hkT;have cs:(0:Int)≤(k:Int):=Int.natCast_nonneg _;have aS:=HT.out;obtain ⟨ay,aq,O,_⟩:=H0.out;obtain ⟨j,hj⟩:∃ j,j=T-1-k:=⟨_,rfl⟩
     have bm:T-k=j+1:=by omega
     have ab:T-(k+1)=j:=by omega
     have gj:(L:Int)-(K:Int)-(k:Int)=(j:Int):=by omega
     have ck:(j:Int)<(L:Int):=by omega
     have bn:j+(K+1)≤N:=by omega
     obtain ⟨⟨i1,i2⟩,⟨i3,i4⟩,i5,i6,i7⟩:=HI.out;rw [bm] at i5 i6 i7 r;obtain ⟨U,hU⟩:∃ U,U=val ((zs.drop j).take (K+1)):=⟨_,rfl⟩
     obtain ⟨aP,bk⟩:=ka (by omega) i2 i1 q.out.1 bn v1 a1 i6 i5 i7 U hU;obtain ⟨l1,l2,l3,l4,l5⟩:=bk _ rfl;obtain ⟨Q,hQ⟩:∃ Q,Q=U/V:=⟨_,rfl⟩
     obtain ⟨R,hR⟩:∃ R,R=U%V:=⟨_,rfl⟩
     have ct:Q<18446744073709551616:=by rw [hQ,Nat.div_lt_iff_lt_mul a1,Nat.mul_comm];exact aP
     rw [← hR] at l1 l2 l3 l4 l5;rw [← hQ] at l5;have ac:Row .u64 wr (.slice (some ⟨gv,0,none⟩) K K) (ai V K):=b6.out.kept aC (fun b hb e=>by simp [Value.ownBlock] at hb;omega);have aZ:=zx gu w.heap.size N N j n nk K (N-j) (by omega) (by omega) zs (ai V K) (some ⟨gv,0,none⟩) K U V Q R wr H i1 i2 bn (by omega) (by omega) ac (aj (by omega) _ _) (fun b hb e=>by simp [Value.ownBlock] at hb;omega) bV.out hU b0.out aP hQ hR;have bj:∀ W,OwnN .u64 23 W w.heap.size (.slice (some ⟨w.heap.size,0,none⟩) L L) L ((List.replicate T 0).take (j+1) ++ (qs ++ List.replicate (L-T) 0))→W.cell? ⟨w.heap.size,j,none⟩=some (.int .u64 0):=fun W h=>by
      rw [World.ownsRow.cellAt h j (by omega),List.getElem?_map,List.getElem?_append_left (by rw [List.length_take,List.length_replicate];omega),List.getElem?_take,if_pos (by omega),List.getElem?_replicate,if_pos (by omega)];rfl
     have a4:Hid (∀ W,OwnN .u64 23 W w.heap.size (.slice (some ⟨w.heap.size,0,none⟩) L L) L ((List.replicate T 0).take (j+1) ++ (qs ++ List.replicate (L-T) 0))→OwnN .u64 23 (W.setCell ⟨w.heap.size,j,none⟩ (.int .u64 (Q:Int))) w.heap.size (.slice (some ⟨w.heap.size,0,none⟩) L L) L ((List.replicate T 0).take j ++ ((Q :: qs) ++ List.replicate (L-T) 0))):=fun W h=>by
      have:=(World.ownsRow.stored h j (.int .u64 (Q:Int))).1;unfold OwnN;rw [List.cons_append,← jd (by rw [List.length_replicate];omega),List.map_set];exact this
     have bP:Hid (((zs.take j ++ (ai R (K+1) ++ zs.drop (j+(K+1)))).length=N∧Digs (zs.take j ++ (ai R (K+1) ++ zs.drop (j+(K+1)))))∧((Q :: qs).length=k+1∧Digs (Q :: qs))∧(zs.take j ++ (ai R (K+1) ++ zs.drop (j+(K+1)))).take j=a.take j∧val ((zs.take j ++ (ai R (K+1) ++ zs.drop (j+(K+1)))).drop j)<V∧V*val (Q :: qs)+val ((zs.take j ++ (ai R (K+1) ++ zs.drop (j+(K+1)))).drop j)=val (a.drop j)):=⟨⟨l1,l2⟩,⟨by rw [List.length_cons,i3],fun d hd=>by rcases List.mem_cons.1 hd with h | h;omega;exact i4 d h⟩,l3,l4,l5⟩
     have S:=aa ab;have b4:(j:Int)≤(j:Int)+(K:Int)+1:=by omega
     have b8:(j:Int)+(K:Int)+1≤(N:Int):=by omega
     clear HI hj bm ab i1 i2 i3 i4 i5 i6 i7 l1 l2 l3 l4 l5 aP bk hU hQ hR ac ay aq O aS;generalize zs.take j ++ (ai R (K+1) ++ zs.drop (j+(K+1)))=zs2 at *;rw [show K+1=j+K+1-j by omega] at aZ;go_wp2_with fail;refine aZ.mono ?_;rintro e w6 ⟨rfl,aW,k6⟩;have D:=k6.own r (fun b hb e=>by simp [Value.ownBlock] at hb;omega);have c6:=bj _ D;have f6:=World.ownsRow.frozenAt D j;clear aZ bj;go_wp2_with fail;go_roundw
     case rel=>
      have kb:Kept (fun b=>b=w.heap.size) w6 (w6.setCell ⟨w.heap.size,j,none⟩ (.int .u64 (Q:Int))):=(ah (fun b=>b=w.heap.size) w6).setCell ⟨w.heap.size,j,none⟩ (fun _=>rfl) _;refine ⟨k+1,zs2,Q :: qs,by omega,by go_num,kb.own aW (fun b hb e=>by simp [Value.ownBlock] at hb;omega),?_,(aC.next k6 (fun _ _ e=>.inl e)).next kb (fun _ _ e=>.inr e),by rw [S.out];exact bP⟩;rw [S.out];exact a4.out _ D
     case measure=>simp [intOf];omega
    ·have gk:¬ (k:Int)<TI:=fun h=>hkT ((bs k hk).1 h)
     obtain rfl:k=T:=by omega
     obtain ⟨ay,aq,O,_⟩:=H0.out;have aS:=HT.out;obtain ⟨⟨i1,i2⟩,⟨i3,i4⟩,_,i6,i7⟩:=HI.out;rw [Nat.sub_self,List.drop_zero] at i6 i7;rw [List.drop_zero,q.out.2.2] at i7;rw [Nat.sub_self,List.take_zero,List.nil_append] at r;obtain ⟨d1,d2⟩:=jm (M:=X) (y:=Y) (p:=2^s) (Nat.pow_pos (by omega));rw [← bU.out,← i7] at d1 d2;rw [Nat.mul_add_div a1,Nat.div_eq_of_lt i6,Nat.add_zero] at d1;rw [Nat.mul_add_mod,am i6] at d2;have bv:qs ++ List.replicate (L-k) 0=ai (X/Y) L:=by
      rw [eI i4 d1 (by omega),i3]
     rw [bv] at r;obtain ⟨Z,hZ⟩:∃ Z,Z=val zs:=⟨_,rfl⟩
     rw [← hZ] at d2;have a8:∀ i,zs.getD i 0=dig Z i:=fun i=>by rw [hZ];exact (aR (by omega) i2 i).symm
     have bi:∀ W,Kept (fun b=>b=(w.heap.size+1)) wr W→∀ i,i<N→W.cell? ⟨gu,i,none⟩=some (.int .u64 (dig Z i:Nat)):=fun W kk i hi=>by
      have h1:=kk.own H (fun b hb e=>by simp [Value.ownBlock] at hb;omega);rw [World.ownsRow.cellAt h1 i (by omega),List.getElem?_map,← a8,List.getD_eq_getElem?_getD,List.getElem?_eq_getElem (by omega)];rfl
     have l:=aC.own F (fun b hb e=>by simp [Value.ownBlock] at hb;omega);have bA:=aa bi;have bS:=aa r;have bL:=aa d2;have cA:K+1≤N:=by omega
     obtain ⟨s2,bt⟩:∃ s2,s2=64-s:=⟨_,rfl⟩
     have b4:(s:Int)≤64:=by omega
     have b8:IntKind.i64.wrap (64-(s:Int))=(s2:Int):=by rw [IntKind.wrap_i64];omega
     have ci:(s2:Int)≤64:=by omega
     have bT:=aa bt;clear HI i1 i2 i3 i4 i6 i7 d1 d2 bv hZ a8 bi r H F ay aq O aS bt;go_wp2_with fail;go_loopw [86] (fun i wz=>∃ (m:Nat),m≤K∧i=.int .i64 (m:Int)∧OwnN .u64 23 wz w.heap.size (.slice (some ⟨(w.heap.size+1),0,none⟩) M M) M (ai (Z/2^s) m ++ List.replicate (M-m) 0)∧Kept (fun b=>b=(w.heap.size+1)) wr wz) (fun i _=>K-(intOf i).toNat)
     case atStart=>exact ⟨0,Nat.zero_le _,rfl,by rw [Nat.sub_zero];exact l,ah _ _⟩
     case round=>
      clear l;obtain ⟨m,hm,rfl,l,I⟩:=hrel;by_cases hmK:m<K
      ·have cE:(0:Int)≤(m:Int):=Int.natCast_nonneg _;have bZ:(m:Int)<(K:Int):=by omega
       obtain ⟨m1,G⟩:∃ m1,m1=m+1:=⟨_,rfl⟩
       have cl:IntKind.i64.wrap ((m:Int)+1)=(m1:Int):=by rw [IntKind.wrap_i64];omega
       have cD:(m:Int)<(N:Int):=by omega
       have cx:(m1:Int)<(N:Int):=by omega
       have cv:(m:Int)<(M:Int):=by omega
       have c1:=bA.out _ I m (by omega);have c2:=bA.out _ I m1 (by omega);have aD:=kB (Z:=Z) (i:=m) an;rw [← bT.out,← G] at aD;have cr:=eG l (ag _ _ _) (by omega);have fr:=World.ownsRow.frozenAt l m;have bE:Hid (OwnN .u64 23 (wr.setCell ⟨(w.heap.size+1),m,none⟩ (.int .u64 (dig (Z/2^s) m:Nat))) w.heap.size (.slice (some ⟨(w.heap.size+1),0,none⟩) M M) M (ai (Z/2^s) (m+1) ++ List.replicate (M-(m+1)) 0)):=by
        have:=(World.ownsRow.stored l m (.int .u64 (dig (Z/2^s) m:Nat))).1;unfold Hid OwnN;rw [ai,← fT _ M m _ (ag _ _ _) (by omega),List.map_set];exact this
       obtain ⟨z,hz⟩:∃ z,z=dig (Z/2^s) m:=⟨_,rfl⟩
       rw [← hz] at aD bE;obtain ⟨x1,aG⟩:∃ x1,x1=dig Z m:=⟨_,rfl⟩
       obtain ⟨x2,a7⟩:∃ x2,x2=dig Z m1:=⟨_,rfl⟩
       rw [← aG,← a7] at aD;rw [← aG] at c1;rw [← a7] at c2;obtain ⟨xl,aX⟩:∃ xl,xl=x1/2^s:=⟨_,rfl⟩
       rw [← aX] at aD;have cu:(x1:Int)/2^s=(xl:Int):=by rw [aX];simp
       have aN:=aa G;clear hz aG a7 aX G l;go_wp2_with fail;go_still_tail 17,(by kernel_rfl)
       change wpList _ _ _ _ _ wr.drew
       go_wp2_with fail;go_roundw
       case rel=>exact ⟨m1,by have:=aN.out;omega,rfl,by rw [aN.out];exact bE.out,(I.setCell ⟨(w.heap.size+1),m,none⟩ (fun _=>rfl) _).drew⟩
       case measure=>have:=aN.out;simp [intOf];omega
      ·have bZ:¬ (m:Int)<(K:Int):=by omega
       obtain rfl:m=K:=by omega
       rw [bL.out] at l;have hf:=eI (m:=M) (aj (by omega) (X%Y) m) (V:=X%Y) (by rw [al,am (Nat.lt_trans (Nat.mod_lt _ aV) aA.out)]) (by rw [ag];omega);rw [ag] at hf;rw [← hf] at l;have b7:=aa (I.own bS.out (fun b hb e=>by have e':b=(w.heap.size+1):=e;simp [Value.ownBlock] at hb;omega));have aU:=aa ((cb.next aC (fun x hx e=>by rcases e with e | e <;> omega)).next I (fun x hx e=>by have e':x=(w.heap.size+1):=e;omega));clear hf;go_wp2_with fail;go_ret2;exact ⟨_,_,rfl,b7.out,l,aU.out⟩
 ·have bY:=ow w M L CM CL bH.out bK.out (by omega) (by omega);generalize ((w.alloc (.cells CM 23)).alloc (.cells CL 23)).drew=W1 at *;obtain ⟨av,ae,k1⟩:=bY;clear bD bc bK bH;obtain ⟨_,_,_,e1,_,_,_,_,aE⟩:=(HV.out.grew k1).open;cases e1
  go_wp2_with fail;refine (bw _ k1).mono ?_;rintro e w2 ⟨rfl,rfl⟩;clear bw;have aO:Hid (xs≠[]→∀ b,(Value.slice ao L cap).ownBlock=some b→b<w.heap.size):=fun h b hb=>HU.out.lt h b hb
  by_cases hK1:K=1
  ·subst hK1;have cj:((bl:Int)+64-1)/64=1:=gK;clear gK;obtain ⟨b2,v,rfl,cy⟩:=aE 0 (by omega);have bC:ys.getD 0 0=Y:=by
    rw [← aR (by omega) aF.out,← HY.out,dig,Nat.pow_zero,Nat.div_one];have:=aA.out;rw [Nat.pow_one] at this;exact am this
   have cF:w2.cell? ⟨b2,v,none⟩=some (.int .u64 (Y:Nat)):=by rw [← bC];exact cy
   have ad:Y<18446744073709551616:=by have:=aA.out;rwa [Nat.pow_one] at this
   obtain ⟨R,hR⟩:∃ R,R=X%Y:=⟨_,rfl⟩
   have a5:R<18446744073709551616:=by rw [hR];exact Nat.lt_trans (Nat.mod_lt _ aV) ad
   have ax:=Cc (w.heap.size+1) w.heap.size L L ao cap xs (List.replicate L 0) X Y R HX.out hR ad aV w2 ae (by simp) (HU.out.grew k1) bG.out (fun h b hb=>by have:=aO.out h b hb;omega) (by omega);have cB:(0:Int)<(M:Int):=by omega
   obtain ⟨M1,bd⟩:∃ M1,M=M1+1:=⟨M-1,by omega⟩
   have bO:Hid (ai R M=(List.replicate M 0).set 0 R):=by unfold Hid;rw [bd,fU R M1 a5,List.replicate_succ,lsZ]
   have bM:=aa hR;clear aE cy bC bd hR;go_wp2_with fail;refine ax.mono ?_;rintro e w3 ⟨rfl,r,k3⟩;have l:=k3.own av (fun b hb e=>by simp [Value.ownBlock] at hb;omega);have cr:w3.cell? ⟨w.heap.size,0,none⟩=some (.int .u64 0):=by
    rw [World.ownsRow.cellAt l 0 (by omega),List.getElem?_map,List.getElem?_replicate,if_pos (by omega)];rfl
   have fr:=World.ownsRow.frozenAt l 0;have bx:=(World.ownsRow.stored l 0 (.int .u64 (R:Int))).1;have kb:Kept (fun b=>b=w.heap.size) w3 (w3.setCell ⟨w.heap.size,0,none⟩ (.int .u64 (R:Int))):=au w3 w.heap.size _;have HQ:=aa (kb.own r (fun b hb e=>by simp [Value.ownBlock] at hb;omega));have b1:Hid (OwnN .u64 23 (w3.setCell ⟨w.heap.size,0,none⟩ (.int .u64 (R:Int))) w.heap.size (.slice (some ⟨w.heap.size,0,none⟩) M M) M (ai (X%Y) M)):=by
    unfold Hid OwnN;rw [← bM.out,bO.out,List.map_set];exact bx
   have aU:=aa ((k1.next k3 (fun x hx e=>by omega)).next kb (fun x hx e=>by omega));clear ax l bx kb r k3 ae av;go_wp2_with fail;go_ret2;exact ⟨_,_,rfl,HQ.out,b1.out,aU.out⟩
  ·have co:((K:Int) == 1)=false:=by simp;omega
   have cw:¬ (K:Int)=1:=by omega
   obtain ⟨n,hn⟩:∃ n,n=K-2:=⟨_,rfl⟩
   obtain ⟨nk,a2⟩:∃ nk,nk=K-1:=⟨_,rfl⟩
   obtain ⟨b2,v,rfl,cy⟩:=aE nk (by omega);obtain ⟨t,ht⟩:∃ t,t=Y/18446744073709551616^nk:=⟨_,rfl⟩
   have a0:Y<18446744073709551616^(nk+1):=by rw [show nk+1=K by omega];exact aA.out
   have A:0<18446744073709551616^nk:=Nat.pow_pos (by omega);have bq:t<18446744073709551616:=by
    rw [ht,Nat.div_lt_iff_lt_mul A,← Nat.pow_succ'];exact a0
   have b9:0<t:=by rw [ht];exact Nat.div_pos (by rw [a2];exact cf.out) A
   have a9:ys.getD nk 0=t:=by rw [← aR (by omega) aF.out,← HY.out,dig,← ht,am bq]
   rw [a9] at cy;obtain ⟨s,hs⟩:∃ s,s=64-aw t:=⟨_,rfl⟩
   obtain ⟨an,v1,v2,v3⟩:=mZ a0 ht b9 hs;rw [show nk+1=K by omega] at v1;have aH:=fun W=>bLz t bq W
   rw [← hs] at aH;obtain ⟨V,hV⟩:∃ V,V=Y*2^s:=⟨_,rfl⟩
   rw [← hV] at v1 v2 v3;have bU:=aa hV;obtain ⟨N,hN⟩:∃ N,N=max L K+1:=⟨_,rfl⟩
   have gN:max (L:Int) (K:Int)+1=(N:Int):=by omega
   have cm:(K:Int)-1=(nk:Int):=by omega
   have cq:(nk:Int)<(M:Int):=by omega
   have cC:(K:Int)≤(M:Int):=by omega
   have ba:M≤az:=by obtain ⟨_,_,_,e1,_,hh,_⟩:=HV.out.open;cases e1;exact hh
   have cn:(K:Int)≤(az:Int):=by omega
   have hcut:∀ W,Kept af w W→Row .u64 W (.slice (some ⟨b2,v,none⟩) K az) (ys.take K):=fun W k=>(HV.out.grew k).cut (by rw [eM.out];omega)
   have bb:Y=val (ys.take K):=by rw [fi (by omega) aF.out,← HY.out,am aA.out]
   have aY:=fun W (k:Kept af w W)=>mJ (some ⟨b2,v,none⟩) K az (ys.take K) Y s K bb an W (hcut W k) (aF.out.take K) (by omega) (leR _)
   have be:=fun W (k:Kept af w W)=>mJ ao L cap xs X s N HX.out an W (HU.out.grew k) bG.out (by omega) (by omega)
   rw [← hV] at aY;have H0:Hid (n=K-2∧nk=K-1∧N=max L K+1∧2≤K):=⟨hn,a2,hN,by omega⟩
   clear aE ht hs a9 hV hcut bb hn a2 hN A a0;go_wp2_with fail;refine (aH _).mono ?_;rintro e w3 ⟨rfl,rfl⟩;clear aH;go_wp2_with fail;refine (aY _ k1).mono ?_;rintro e w4 ⟨rfl,aJ,k4⟩;have aQ:=k1.trans k4;go_wp2_with fail;refine (be _ aQ).mono ?_;rintro e w5 ⟨rfl,H,k5⟩;have cb:=aQ.trans k5;have J:=k5.own aJ (fun _ _ f=>f);have E:=(k4.trans k5).own ae (fun _ _ f=>f);have F:=(k4.trans k5).own av (fun _ _ f=>f);have ak:w.heap.size+1<w3.heap.size:=by have h1:=de ae;have h2:=de av;omega
   have ap:w3.heap.size<w4.heap.size:=de aJ;clear aY be aJ ae av k1 aQ;go_wp2_with fail;obtain ⟨T,hT⟩:∃ T,T=L+1-K:=⟨_,rfl⟩
   have bQ:=de E;have bX:=de F;have a3:w.heap.size+1<w3.heap.size:=ak;have aL:w3.heap.size<w4.heap.size:=ap;obtain ⟨gv,aM⟩:∃ g,g=w3.heap.size:=⟨_,rfl⟩
   obtain ⟨gu,aT⟩:∃ g,g=w4.heap.size:=⟨_,rfl⟩
   have B:OwnN .u64 23 w5 w.heap.size (.slice (some ⟨gu,0,none⟩) N N) N (ai (X*2^s) N):=by
    rw [aT];exact bg H (fun b hb=>by simp [Value.ownBlock] at hb;omega)
   have bh:Row .u64 w5 (.slice (some ⟨gv,0,none⟩) K K) (ai V K):=by rw [aM];exact bf J (ag _ _ _)
   rw [← aM,← aT];have dq:(w.heap.size+1)≠gu∧w.heap.size≠gu∧gv≠gu∧gv≠(w.heap.size+1)∧(w.heap.size+1)≠w.heap.size∧w.heap.size≤gu:=by omega
   clear H J aM aT aL a3 bQ bX;obtain ⟨ay,aq,O,cp⟩:=H0.out;have a1:0<V:=Nat.lt_of_lt_of_le (Nat.mul_pos (by omega) (Nat.pow_pos (by omega))) v3;have a6:X*2^s<2^s*18446744073709551616^L:=by rw [Nat.mul_comm];exact Nat.mul_lt_mul_of_pos_left cd.out (Nat.pow_pos (by omega))
   have bB:X*2^s<18446744073709551616^N:=ny a6 an (by omega);obtain ⟨a,c⟩:∃ a,a=ai (X*2^s) N:=⟨_,rfl⟩
   rw [← c] at B;have br:a.length=N:=by rw [c,ag]
   have aK:Digs a:=by rw [c];exact aj (by omega) _ _
   have aI:val a=X*2^s:=by rw [c,al,am bB]
   have o:val (a.drop T)<V:=by rw [fW (by omega) aK,aI];exact jF a6 an v3 (by omega)
   have q:Hid (a.length=N∧Digs a∧val a=X*2^s):=⟨br,aK,aI⟩
   have bp:(ai V K).getD nk 0=dig V nk:=dn _ _ _ _ (by omega);rw [← bp] at v2;have bu:V=val (ai V K):=by rw [al,am v1]
   have HT:=aa hT;have b6:=aa bh;have ca:=aa B;have bV:=aa v2;have b0:=aa bu;have b3:=aa o;have gT:(L:Int)-(K:Int)+1=(T:Int)∨(T=0∧(L:Int)-(K:Int)+1≤0):=by omega
   obtain ⟨TI,bz⟩:∃ TI,TI=(L:Int)-(K:Int)+1:=⟨_,rfl⟩
   have bs:∀ k:Nat,k≤T→((k:Int)<TI↔k<T):=fun k hk=>by omega
   rw [← bz];clear hT bh B v2 bu o br aK aI c bp bB a6 gT cy bz ay aq O;go_loopw [63] (fun i wr=>∃ (k:Nat) (zs qs:List Nat),k≤T∧i=.int .i64 (k:Int)∧OwnN .u64 23 wr w.heap.size (.slice (some ⟨gu,0,none⟩) N N) N zs∧OwnN .u64 23 wr w.heap.size (.slice (some ⟨(w.heap.size+1),0,none⟩) L L) L ((List.replicate T 0).take (T-k) ++ (qs ++ List.replicate (L-T) 0))∧Kept (fun b=>b=gu∨b=(w.heap.size+1)) w5 wr ∧
     Hid ((zs.length=N∧Digs zs)∧(qs.length=k∧Digs qs)∧zs.take (T-k)=a.take (T-k)∧val (zs.drop (T-k))<V∧V*val qs+val (zs.drop (T-k))=val (a.drop (T-k)))) (fun i _=>T-(intOf i).toNat)
   case atStart=>
    refine ⟨0,a,[],Nat.zero_le _,rfl,ca.out,?_,ah _ _,⟨⟨q.out.1,q.out.2.1⟩,⟨rfl,Digs.nil _⟩,rfl,by rw [Nat.sub_zero];exact b3.out,by rw [val,Nat.mul_zero,Nat.zero_add]⟩⟩;rw [Nat.sub_zero,List.take_of_length_le (by simp),List.nil_append,List.replicate_append_replicate,show T+(L-T)=L by have:=HT.out;omega];exact E
   case round=>
    clear E;obtain ⟨k,zs,qs,hk,rfl,H,r,aC,HI⟩:=hrel;by_cases hkT:k<T
    ·have gk:(k:Int)<TI:=(bs k hk).2 hkT;have cs:(0:Int)≤(k:Int):=Int.natCast_nonneg _;have aS:=HT.out;obtain ⟨ay,aq,O,_⟩:=H0.out;obtain ⟨j,hj⟩:∃ j,j=T-1-k:=⟨_,rfl⟩
     have bm:T-k=j+1:=by omega
     have ab:T-(k+1)=j:=by omega
     have gj:(L:Int)-(K:Int)-(k:Int)=(j:Int):=by omega
     have ck:(j:Int)<(L:Int):=by omega
     have bn:j+(K+1)≤N:=by omega
     obtain ⟨⟨i1,i2⟩,⟨i3,i4⟩,i5,i6,i7⟩:=HI.out;rw [bm] at i5 i6 i7 r;obtain ⟨U,hU⟩:∃ U,U=val ((zs.drop j).take (K+1)):=⟨_,rfl⟩
     obtain ⟨aP,bk⟩:=ka (by omega) i2 i1 q.out.1 bn v1 a1 i6 i5 i7 U hU;obtain ⟨l1,l2,l3,l4,l5⟩:=bk _ rfl;obtain ⟨Q,hQ⟩:∃ Q,Q=U/V:=⟨_,rfl⟩
     obtain ⟨R,hR⟩:∃ R,R=U%V:=⟨_,rfl⟩
     have ct:Q<18446744073709551616:=by rw [hQ,Nat.div_lt_iff_lt_mul a1,Nat.mul_comm];exact aP
     rw [← hR] at l1 l2 l3 l4 l5;rw [← hQ] at l5;have ac:Row .u64 wr (.slice (some ⟨gv,0,none⟩) K K) (ai V K):=b6.out.kept aC (fun b hb e=>by simp [Value.ownBlock] at hb;omega);have aZ:=zx gu w.heap.size N N j n nk K (N-j) (by omega) (by omega) zs (ai V K) (some ⟨gv,0,none⟩) K U V Q R wr H i1 i2 bn (by omega) (by omega) ac (aj (by omega) _ _) (fun b hb e=>by simp [Value.ownBlock] at hb;omega) bV.out hU b0.out aP hQ hR;have bj:∀ W,OwnN .u64 23 W w.heap.size (.slice (some ⟨(w.heap.size+1),0,none⟩) L L) L ((List.replicate T 0).take (j+1) ++ (qs ++ List.replicate (L-T) 0))→W.cell? ⟨(w.heap.size+1),j,none⟩=some (.int .u64 0):=fun W h=>by
      rw [World.ownsRow.cellAt h j (by omega),List.getElem?_map,List.getElem?_append_left (by rw [List.length_take,List.length_replicate];omega),List.getElem?_take,if_pos (by omega),List.getElem?_replicate,if_pos (by omega)];rfl
     have a4:Hid (∀ W,OwnN .u64 23 W w.heap.size (.slice (some ⟨(w.heap.size+1),0,none⟩) L L) L ((List.replicate T 0).take (j+1) ++ (qs ++ List.replicate (L-T) 0))→OwnN .u64 23 (W.setCell ⟨(w.heap.size+1),j,none⟩ (.int .u64 (Q:Int))) w.heap.size (.slice (some ⟨(w.heap.size+1),0,none⟩) L L) L ((List.replicate T 0).take j ++ ((Q :: qs) ++ List.replicate (L-T) 0))):=fun W h=>by
      have:=(World.ownsRow.stored h j (.int .u64 (Q:Int))).1;unfold OwnN;rw [List.cons_append,← jd (by rw [List.length_replicate];omega),List.map_set];exact this
     have bP:Hid (((zs.take j ++ (ai R (K+1) ++ zs.drop (j+(K+1)))).length=N∧Digs (zs.take j ++ (ai R (K+1) ++ zs.drop (j+(K+1)))))∧((Q :: qs).length=k+1∧Digs (Q :: qs))∧(zs.take j ++ (ai R (K+1) ++ zs.drop (j+(K+1)))).take j=a.take j∧val ((zs.take j ++ (ai R (K+1) ++ zs.drop (j+(K+1)))).drop j)<V∧V*val (Q :: qs)+val ((zs.take j ++ (ai R (K+1) ++ zs.drop (j+(K+1)))).drop j)=val (a.drop j)):=⟨⟨l1,l2⟩,⟨by rw [List.length_cons,i3],fun d hd=>by rcases List.mem_cons.1 hd with h | h;omega;exact i4 d h⟩,l3,l4,l5⟩
     have S:=aa ab;have b4:(j:Int)≤(j:Int)+(K:Int)+1:=by omega
     have b8:(j:Int)+(K:Int)+1≤(N:Int):=by omega
     clear HI hj bm ab i1 i2 i3 i4 i5 i6 i7 l1 l2 l3 l4 l5 aP bk hU hQ hR ac ay aq O aS;generalize zs.take j ++ (ai R (K+1) ++ zs.drop (j+(K+1)))=zs2 at *;rw [show K+1=j+K+1-j by omega] at aZ;go_wp2_with fail;refine aZ.mono ?_;rintro e w6 ⟨rfl,aW,k6⟩;have D:=k6.own r (fun b hb e=>by simp [Value.ownBlock] at hb;omega);have c6:=bj _ D;have f6:=World.ownsRow.frozenAt D j;clear aZ bj;go_wp2_with fail;go_roundw
     case rel=>
      have kb:Kept (fun b=>b=(w.heap.size+1)) w6 (w6.setCell ⟨(w.heap.size+1),j,none⟩ (.int .u64 (Q:Int))):=(ah (fun b=>b=(w.heap.size+1)) w6).setCell ⟨(w.heap.size+1),j,none⟩ (fun _=>rfl) _;refine ⟨k+1,zs2,Q :: qs,by omega,by go_num,kb.own aW (fun b hb e=>by simp [Value.ownBlock] at hb;omega),?_,(aC.next k6 (fun _ _ e=>.inl e)).next kb (fun _ _ e=>.inr e),by rw [S.out];exact bP⟩;rw [S.out];exact a4.out _ D
     case measure=>simp [intOf];omega
    ·have gk:¬ (k:Int)<TI:=fun h=>hkT ((bs k hk).1 h)
     obtain rfl:k=T:=by omega
     obtain ⟨ay,aq,O,_⟩:=H0.out;have aS:=HT.out;obtain ⟨⟨i1,i2⟩,⟨i3,i4⟩,_,i6,i7⟩:=HI.out;rw [Nat.sub_self,List.drop_zero] at i6 i7;rw [List.drop_zero,q.out.2.2] at i7;rw [Nat.sub_self,List.take_zero,List.nil_append] at r;obtain ⟨d1,d2⟩:=jm (M:=X) (y:=Y) (p:=2^s) (Nat.pow_pos (by omega));rw [← bU.out,← i7] at d1 d2;rw [Nat.mul_add_div a1,Nat.div_eq_of_lt i6,Nat.add_zero] at d1;rw [Nat.mul_add_mod,am i6] at d2;have bv:qs ++ List.replicate (L-k) 0=ai (X/Y) L:=by
      rw [eI i4 d1 (by omega),i3]
     rw [bv] at r;obtain ⟨Z,hZ⟩:∃ Z,Z=val zs:=⟨_,rfl⟩
     rw [← hZ] at d2;have a8:∀ i,zs.getD i 0=dig Z i:=fun i=>by rw [hZ];exact (aR (by omega) i2 i).symm
     have bi:∀ W,Kept (fun b=>b=w.heap.size) wr W→∀ i,i<N→W.cell? ⟨gu,i,none⟩=some (.int .u64 (dig Z i:Nat)):=fun W kk i hi=>by
      have h1:=kk.own H (fun b hb e=>by simp [Value.ownBlock] at hb;omega);rw [World.ownsRow.cellAt h1 i (by omega),List.getElem?_map,← a8,List.getD_eq_getElem?_getD,List.getElem?_eq_getElem (by omega)];rfl
     have l:=aC.own F (fun b hb e=>by simp [Value.ownBlock] at hb;omega);have bA:=aa bi;have bS:=aa r;have bL:=aa d2;have cA:K+1≤N:=by omega
     obtain ⟨s2,bt⟩:∃ s2,s2=64-s:=⟨_,rfl⟩
     have b4:(s:Int)≤64:=by omega
     have b8:IntKind.i64.wrap (64-(s:Int))=(s2:Int):=by rw [IntKind.wrap_i64];omega
     have ci:(s2:Int)≤64:=by omega
     have bT:=aa bt;clear HI i1 i2 i3 i4 i6 i7 d1 d2 bv hZ a8 bi r H F ay aq O aS bt;go_wp2_with fail;go_loopw [86] (fun i wz=>∃ (m:Nat),m≤K∧i=.int .i64 (m:Int)∧OwnN .u64 23 wz w.heap.size (.slice (some ⟨w.heap.size,0,none⟩) M M) M (ai (Z/2^s) m ++ List.replicate (M-m) 0)∧Kept (fun b=>b=w.heap.size) wr wz) (fun i _=>K-(intOf i).toNat)
     case atStart=>exact ⟨0,Nat.zero_le _,rfl,by rw [Nat.sub_zero];exact l,ah _ _⟩
     case round=>
      clear l;obtain ⟨m,hm,rfl,l,I⟩:=hrel;by_cases hmK:m<K
      ·have cE:(0:Int)≤(m:Int):=Int.natCast_nonneg _;have bZ:(m:Int)<(K:Int):=by omega
       obtain ⟨m1,G⟩:∃ m1,m1=m+1:=⟨_,rfl⟩
       have cl:IntKind.i64.wrap ((m:Int)+1)=(m1:Int):=by rw [IntKind.wrap_i64];omega
       have cD:(m:Int)<(N:Int):=by omega
       have cx:(m1:Int)<(N:Int):=by omega
       have cv:(m:Int)<(M:Int):=by omega
       have c1:=bA.out _ I m (by omega);have c2:=bA.out _ I m1 (by omega);have aD:=kB (Z:=Z) (i:=m) an;rw [← bT.out,← G] at aD;have cr:=eG l (ag _ _ _) (by omega);have fr:=World.ownsRow.frozenAt l m;have bE:Hid (OwnN .u64 23 (wr.setCell ⟨w.heap.size,m,none⟩ (.int .u64 (dig (Z/2^s) m:Nat))) w.heap.size (.slice (some ⟨w.heap.size,0,none⟩) M M) M (ai (Z/2^s) (m+1) ++ List.replicate (M-(m+1)) 0)):=by
        have:=(World.ownsRow.stored l m (.int .u64 (dig (Z/2^s) m:Nat))).1;unfold Hid OwnN;rw [ai,← fT _ M m _ (ag _ _ _) (by omega),List.map_set];exact this
       obtain ⟨z,hz⟩:∃ z,z=dig (Z/2^s) m:=⟨_,rfl⟩
       rw [← hz] at aD bE;obtain ⟨x1,aG⟩:∃ x1,x1=dig Z m:=⟨_,rfl⟩
       obtain ⟨x2,a7⟩:∃ x2,x2=dig Z m1:=⟨_,rfl⟩
       rw [← aG,← a7] at aD;rw [← aG] at c1;rw [← a7] at c2;obtain ⟨xl,aX⟩:∃ xl,xl=x1/2^s:=⟨_,rfl⟩
       rw [← aX] at aD;have cu:(x1:Int)/2^s=(xl:Int):=by rw [aX];simp
       have aN:=aa G;clear hz aG a7 aX G l;go_wp2_with fail;go_still_tail 17,(by kernel_rfl)
       change wpList _ _ _ _ _ wr.drew
       go_wp2_with fail;go_roundw
       case rel=>exact ⟨m1,by have:=aN.out;omega,rfl,by rw [aN.out];exact bE.out,(I.setCell ⟨w.heap.size,m,none⟩ (fun _=>rfl) _).drew⟩
       case measure=>have:=aN.out;simp [intOf];omega
      ·have bZ:¬ (m:Int)<(K:Int):=by omega
       obtain rfl:m=K:=by omega
       rw [bL.out] at l;have hf:=eI (m:=M) (aj (by omega) (X%Y) m) (V:=X%Y) (by rw [al,am (Nat.lt_trans (Nat.mod_lt _ aV) aA.out)]) (by rw [ag];omega);rw [ag] at hf;rw [← hf] at l;have b7:=aa (I.own bS.out (fun b hb e=>by have e':b=w.heap.size:=e;simp [Value.ownBlock] at hb;omega));have aU:=aa ((cb.next aC (fun x hx e=>by rcases e with e | e <;> omega)).next I (fun x hx e=>by have e':x=w.heap.size:=e;omega));clear hf;go_wp2_with fail;go_ret2;exact ⟨_,_,rfl,b7.out,l,aU.out⟩

def gP (L M:Nat):Bool:=decide (L≤300∧M≤300)

def iG (Y L M:Nat):Nat:=if gP L M=true then (if Y=0 then 1 else 0) else 2

def kJ (X Y L M:Nat):List Nat:=if iG Y L M=0 then ai (X/Y) L else []

def kO (X Y L M:Nat):List Nat:=if iG Y L M=0 then ai (X%Y) M else []

theorem tr {X Y L M:Nat} (h:¬ (L≤300∧M≤300)):iG Y L M=2∧kJ X Y L M=[]∧kO X Y L M=[]:=by
 have e:iG Y L M=2:=by unfold iG gP;rw [if_neg (by simpa using h)]
 refine ⟨e,?_,?_⟩
 ·unfold kJ;rw [e,if_neg (by omega)]
 ·unfold kO;rw [e,if_neg (by omega)]

theorem tZ {X Y L M:Nat} (h:L≤300∧M≤300) (h0:Y=0):iG Y L M=1∧kJ X Y L M=[]∧kO X Y L M=[]:=by
 have e:iG Y L M=1:=by unfold iG gP;rw [if_pos (by simpa using h),if_pos h0]
 refine ⟨e,?_,?_⟩
 ·unfold kJ;rw [e,if_neg (by omega)]
 ·unfold kO;rw [e,if_neg (by omega)]

theorem eS {X Y L M:Nat} (h:L≤300∧M≤300) (h0:Y≠0):iG Y L M=0∧kJ X Y L M=ai (X/Y) L∧kO X Y L M=ai (X%Y) M:=by
 have e:iG Y L M=0:=by unfold iG gP;rw [if_pos (by simpa using h),if_neg h0]
 refine ⟨e,?_,?_⟩
 ·unfold kJ;rw [if_pos e]
 ·unfold kO;rw [if_pos e]

theorem By (u:Value) (xs:List Nat) (w:World) (hu:Row .u64 w u xs) (a:Digs xs) (hL:xs.length≤100000000) :
  Calls Tryz.prog 152 #[.pointer none,u] w fun e w'=>e=.returned (.int .u64 (bC (decide (val xs=0)):Nat))∧Kept af w w':=by
 refine (BK none u xs w (TrRoom.none w 1 (by omega)) (RowT.none hu) a hL).mono ?_;rintro e w' ⟨rfl,o',hd⟩;exact ⟨rfl,hd.none.2⟩

theorem xY (ao bo:Option Addr) (L M cap h:Nat) (xs ys:List Nat) (X Y:Nat) (hX:X=val xs) (hY:Y=val ys) (bA bB bQ bR:Nat) (w:World) (hu:Row .u64 w (.slice ao L cap) xs) (hv:Row .u64 w (.slice bo M h) ys) (p:Digs xs) (o:Digs ys)
  (hA:Box w bA (.slice ao L cap) 32) (hB:Box w bB (.slice bo M h) 32) (hQ:Box w bQ (.slice none 0 0) 32) (hR:Box w bR (.slice none 0 0) 32) (t:bQ≠bR) :
  Calls Tryz.prog 151 #[.pointer (some ⟨bA,0,none⟩),.pointer (some ⟨bB,0,none⟩),.pointer (some ⟨bQ,0,none⟩),.pointer (some ⟨bR,0,none⟩)] w fun e w'=>
   (¬ (L≤300∧M≤300)∧e=.panicked [refusal 2]∧w'=w)∨((L≤300∧M≤300)∧Y=0∧e=.panicked [refusal 1]∧Kept af w w') ∨
   ((L≤300∧M≤300)∧Y≠0∧e=.returned (.tuple #[])∧∃ v1 v2,OwnN .u64 23 w' w.heap.size v1 L (ai (X/Y) L)∧OwnN .u64 23 w' w.heap.size v2 M (ai (X%Y) M)∧Kept (fun b=>b=bQ∨b=bR) w w'∧Box w' bQ v1 32∧Box w' bR v2 32):=by
 obtain ⟨_,_,_,e1,G,_,_,_,_⟩:=hu.open;cases e1
 obtain ⟨_,_,_,e1,r,_,_,_,_⟩:=hv.open;cases e1
 have hP:=fun W=>vU ao bo L M cap h W
 have hZ:=fun (l:M≤300)=>By _ ys w hv o (by have:=r.out;omega)
 rw [← hY] at hZ;have hD:=fun W (k:Kept af w W) (l1:L≤300) (l2:M≤300) (h0:0<Y)=>zO ao bo L M cap h xs ys X Y hX hY h0 W (hu.grew k) (hv.grew k) p o (by omega) (by omega)
 have cA:=hA.cell;have cB:=hB.cell;have E:=aa hA;have H:=aa hB;have N:=aa hQ;have I:=aa hR;clear hu hv p o G r hA hB hQ hR hX hY;go_enter Tryz.func151,Tryz.ntmps151;go_wp2_with fail;refine (hP _).mono ?_;rintro e w1 ⟨⟨l1,l2,rfl⟩ | ⟨l1,rfl⟩,rfl⟩
 ·obtain ⟨nz,i⟩:∃ nz,nz=bC (decide (Y=0)):=⟨_,rfl⟩
  rw [← i] at hZ;have v:=aa i;clear hP i;go_wp2_with fail;refine (hZ l2).mono ?_;rintro e w2 ⟨rfl,k2⟩;have D:=(E.out.grew k2).cell;have B:=(H.out.grew k2).cell;have n:=N.out.grew k2;have j:=I.out.grew k2;clear hZ cA cB;by_cases h0:Y=0
  ·have en:nz=1:=by rw [v.out,aQ h0];rfl
   have gn:((nz:Int) == 1)=true:=by rw [en];rfl
   have m:=iF 1 w2;go_wp2_with fail;refine m.mono ?_;rintro e w4 ⟨rfl,rfl⟩;exact ⟨rfl,.inr (.inl ⟨⟨l1,l2⟩,h0,rfl,k2⟩)⟩
  ·have en:nz=0:=by rw [v.out,aD h0];rfl
   have gn:((nz:Int) == 1)=false:=by rw [en];rfl
   have q:=jg 1 w2;have s:=hD w2 k2 l1 l2 (by omega);clear hD;go_wp2_with fail;refine q.mono ?_;rintro e w3 ⟨rfl,rfl⟩;clear q;go_wp2_with fail;refine s.mono ?_;rintro e w4 ⟨v1,v2,rfl,d,f,k4⟩;obtain ⟨xo,xc,rfl⟩:=bh d;obtain ⟨yo,yc,rfl⟩:=bh f;have a:=n.grew k4;have c:=j.grew k4;have cQ:=a.cell;have fQ:=a.free;have cR:=c.cell;have fR:=c.free;have C:=n.lt;have A:=j.lt;have O:=k2.size;have kb:Kept (fun b=>b=bQ∨b=bR) w4 (w4.setCell ⟨bQ,0,none⟩ (.slice xo L xc)):=(au w4 bQ (.slice xo L xc)).mono (fun _ _ e=>.inl e);have g:=kb.next (au _ bR (.slice yo M yc)) (fun _ _ e=>.inr e)
   have x:=aa (bg (base':=w1.heap.size) (g.own d (fun b hb e=>by have:=(d.lt b hb).1;omega)) (fun b hb=>by have:=(d.lt b hb).1;omega));have y:=aa (bg (base':=w1.heap.size) (g.own f (fun b hb e=>by have:=(f.lt b hb).1;omega)) (fun b hb=>by have:=(f.lt b hb).1;omega));have F:=aa ((a.set (.slice xo L xc)).other ⟨bR,0,none⟩ t (.slice yo M yc));have J:=aa ((c.other ⟨bQ,0,none⟩ (fun e=>t e.symm) (.slice xo L xc)).set (.slice yo M yc));have z:=aa ((k2.trans k4).any.trans g);clear d f a c kb g n j D B s;go_wp2_with fail;go_end0
   exact .inr (.inr ⟨⟨l1,l2⟩,h0,rfl,_,_,x.out,y.out,z.out,F.out,J.out⟩)
 ·exact ⟨rfl,.inl ⟨l1,rfl,rfl⟩⟩

theorem pm (ao bo:Option Addr) (L M cap d:Nat) (xs ys:List Nat) (E:Nat) (hE:E=iG (val ys) L M) (w:World) (hu:Row .u64 w (.slice ao L cap) xs) (hv:Row .u64 w (.slice bo M d) ys) (t:Digs xs) (F:Digs ys) :
  Calls Tryz.prog 108 #[.slice ao L cap,.slice bo M d] w fun e w'=>∃ v1 v2,e=.returned (.tuple #[v1,v2,.int .i64 (E:Nat)]) ∧
   Row .u64 w' v1 (kJ (val xs) (val ys) L M)∧Row .u64 w' v2 (kO (val xs) (val ys) L M)∧Kept af w w':=by
 have A:=fd;have C:=jV w (.slice ao L cap) (.slice bo M d) (.slice none 0 0) (.slice none 0 0) 32 32 32 32;have he:∀ args w,(callFunc 151 args).run Tryz.prog w=.ok (.enter 151 args) w:=fun _ _=>by simp [go_sem]
 obtain ⟨X,hX⟩:∃ X,X=val xs:=⟨_,rfl⟩
 obtain ⟨Y,hY⟩:∃ Y,Y=val ys:=⟨_,rfl⟩
 rw [← hY] at hE;rw [← hX,← hY];have HE:=aa hE;have HX:=aa hX;have HY:=aa hY;clear hE hX hY;go_enter Tryz.func108,Tryz.ntmps108;go_wp2_with fail;generalize (((w.alloc (.cells #[.slice ao L cap] 32)).alloc (.cells #[.slice bo M d] 32)).alloc (.cells #[.slice none 0 0] 32)).alloc (.cells #[.slice none 0 0] 32)=W at *;obtain ⟨k0,x2,x3,x4,x5,hs⟩:=C;have k1:=k0.alloc (.cells #[.int .i64 0] 33);have xe:=Box.new W (.int .i64 0) 33;have h1:=xY ao bo L M cap d xs ys X Y HX.out HY.out _ _ _ _ _ (hu.grew k1) (hv.grew k1) t F (x2.alloc _) (x3.alloc _) (x4.alloc (.cells #[.int .i64 0] 33)) (x5.alloc _) (by omega)
 have q:(W.alloc (.cells #[.int .i64 0] 33)).heap.size=W.heap.size+1:=by simp
 refine (jc 151 _ W (fun n W'=>n=(E:Int)∧∃ ro rc ln so sc lm,Box W' (w.heap.size+1+1) (.slice ro ln rc) 32∧Box W' (w.heap.size+1+1+1) (.slice so lm sc) 32∧Row .u64 W' (.slice ro ln rc) (kJ X Y L M)∧Row .u64 W' (.slice so lm sc) (kO X Y L M)∧(∀ b,(Value.slice ro ln rc).ownBlock=some b→W.heap.size+1≤b)∧(∀ b,(Value.slice so lm sc).ownBlock=some b→W.heap.size+1≤b)∧Kept af w W') he (h1.mono ?_)).mono ?_
 ·rintro e w' (⟨hl,rfl,rfl⟩ | ⟨hl,h0,rfl,kz⟩ | ⟨hl,h0,rfl,v1,v2,f,h,hk,i,g⟩)
  ·obtain ⟨e1,e2,e3⟩:=tr (X:=X) (Y:=Y) hl;exact ⟨xe,.inr ⟨2,rfl,by rw [HE.out,e1];rfl,none,0,0,none,0,0,x4.alloc _,x5.alloc _,by rw [e2];exact Row.nil _ _,by rw [e3];exact Row.nil _ _,(fun b hb=>by cases hb),(fun b hb=>by cases hb),k1⟩⟩
  ·obtain ⟨e1,e2,e3⟩:=tZ (X:=X) hl h0;exact ⟨xe.grew kz,.inr ⟨1,rfl,by rw [HE.out,e1];rfl,none,0,0,none,0,0,(x4.alloc _).grew kz,(x5.alloc _).grew kz,by rw [e2];exact Row.nil _ _,by rw [e3];exact Row.nil _ _,(fun b hb=>by cases hb),(fun b hb=>by cases hb),k1.trans kz⟩⟩
  ·obtain ⟨e1,e2,e3⟩:=eS (X:=X) hl h0;rw [q] at f h;have z:=xe.kept hk (by omega);obtain ⟨xo,xc,rfl⟩:=bh f;obtain ⟨yo,yc,rfl⟩:=bh h;exact ⟨z,.inl ⟨rfl,by rw [HE.out,e1];rfl,xo,xc,L,yo,yc,M,i,g,by rw [e2];exact bf f (ag _ _ _),by rw [e3];exact bf h (ag _ _ _),(fun b hb=>(f.lt b hb).1),(fun b hb=>(h.lt b hb).1),k1.next hk (fun x hx e=>by rcases e with e | e <;> omega)⟩⟩
 ·rintro e w' ⟨n,w1,rfl,⟨⟨rfl,ro,rc,ln,so,sc,lm,i,g,o,l,m,s,hk⟩,D⟩,rfl⟩;have a:=i.other ⟨W.heap.size,0,none⟩ (by show _≠W.heap.size;omega) (.int .i64 (E:Int));have c:=g.other ⟨W.heap.size,0,none⟩ (by show _≠W.heap.size;omega) (.int .i64 (E:Int));have c1:=a.cell;have f1:=a.free;have c2:=c.cell;have f2:=c.free;have p:w.heap.size+1+1≠w.heap.size+1+1+1:=by omega
  have c3:=((a.set (.slice ro ln rc)).other ⟨w.heap.size+1+1+1,0,none⟩ p (.slice so lm sc)).cell;have c4:=((c.other ⟨w.heap.size+1+1,0,none⟩ p.symm (.slice ro ln rc)).set (.slice so lm sc)).cell;have k:Kept (fun b=>b=W.heap.size∨b=w.heap.size+1+1∨b=w.heap.size+1+1+1) w1 (w1.setCell ⟨W.heap.size,0,none⟩ (.int .i64 (E:Int))):=(au w1 W.heap.size _).mono (fun _ _ e=>.inl e);have r:=k.next (au _ (w.heap.size+1+1) (.slice ro ln rc)) (fun _ _ e=>.inr (.inl e))
  have j:=r.next (au _ (w.heap.size+1+1+1) (.slice so lm sc)) (fun _ _ e=>.inr (.inr e))
  have HK:=aa (hk.next j (fun x hx e=>by rcases e with e | e | e <;> omega));have y:=aa (o.kept j (fun b hb e=>by have:=m b hb;omega));have B:=aa (l.kept j (fun b hb e=>by have:=s b hb;omega));generalize w1.setCell ⟨W.heap.size,0,none⟩ (.int .i64 (E:Int))=W2 at *;clear h1 i g a c o l m s k r j hk D hu hv x2 x3 x4 x5 xe k0 k1 q he A;go_wp2_with fail;go_region
  all_goals
   go_wp2;refine bodyPost_ret (v:=.tuple #[.slice ro ln rc,.slice so lm sc,.int .i64 (E:Nat)]) (by simp [results,Tryz.results108,go_sem,c3,c4]) rfl ?_;exact ⟨_,_,rfl,y.out.grew (ah _ _).drew,B.out.grew (ah _ _).drew,HK.out.drew⟩

def dZ (b:Int):Int:=min (max b 1) 8320

def mF (b:Int):Int:=if dZ b<46 then (49*dZ b+80)/17 else (49*dZ b+57)/17

end Go.Proofs.YtcemlfokmjjiaaaGreatDoor
