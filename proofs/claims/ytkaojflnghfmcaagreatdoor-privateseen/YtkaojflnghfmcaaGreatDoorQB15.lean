/- Put together of: LimP Pow2. -/
import Derived.Test.YtkaojflnghfmcaaGreatDoorQB11

namespace Go.Proofs.YtkaojflnghfmcaaGreatDoor
set_option maxRecDepth 100000
set_option maxHeartbeats 4000000
open Go.RowKit

theorem Slots.did {w w':World} {o o':Tr} {m:List Ev} {ao:Option Addr} {n:Nat} {A:Nat→Option Addr} {L C:Nat→Nat} (h:Slots w ao n A L C) (d:Did w o m w' o') (c:∀ a,ao=some a→¬ aN o a.block):Slots w' ao n A L C:=by
 intro i hi;obtain ⟨b,off,rfl,hc⟩:=h i hi;exact ⟨b,off,rfl,(World.cell?_of_block (a:=⟨b,off+i,none⟩) (d.kept.block b (World.block_lt_of_cell? w _ hc) (c _ rfl))).trans hc⟩

theorem yA (V U n q:Nat) (h:q<n):(digs V q ++ (digs U n).drop q).set q (dig V q)=digs V (q+1) ++ (digs U n).drop (q+1):=by
 rw [List.set_append_right _ _ (by rw [af];omega),af,Nat.sub_self,List.drop_eq_getElem_cons (show q<(digs U n).length by rw [af];exact h),digs,lsZ,List.append_assoc];rfl

theorem tG {w:World} {base g n q V U:Nat} {t:TypeId} (h:OwnN .u64 t w base (.slice (some ⟨g,0,none⟩) n n) n (digs V q ++ (digs U n).drop q)) (hq:q<n):w.cell? ⟨g,q,none⟩=some (.int .u64 (dig U q:Nat)):=by
 rw [World.ownsRow.cellAt h q (by omega),List.getElem?_map,List.getElem?_append_right (by rw [af];omega),af,Nat.sub_self,List.getElem?_drop,Nat.add_zero,← ep 18446744073709551616 U n q hq,List.getD_eq_getElem?_getD,List.getElem?_eq_getElem (show q<(digs U n).length by rw [af];exact hq)];rfl

def dJ (X:Nat→Nat) (i p:Nat):Nat:=if i<p then X i else 0

theorem tX (X:Nat→Nat) (i p q:Nat):bits .or .u64 (dig (dJ X i p) q:Nat) (bits .and .u64 (dig (X p) q:Nat) (msk (eqw (p:Int) (i:Int))))=(dig (dJ X i (p+1)) q:Nat):=by
 have hx:∀ Y,dig Y q<18446744073709551616:=fun Y=>Nat.mod_lt _ (by omega)
 unfold eqw;by_cases h:p=i
 ·subst h;rw [if_pos rfl,show (1:Int)=((1:Nat):Int) from rfl,jL _ 1 (hx _)];unfold dJ;rw [if_neg (by omega),if_pos (by omega),show dig 0 q=0 by simp [dig],u64_or_nat 0 _ (by omega) (by have:=hx (X p);omega)];simp
 ·rw [if_neg (by omega),show (0:Int)=((0:Nat):Int) from rfl,jL _ 0 (hx _)];have e:dJ X i (p+1)=dJ X i p:=by
   unfold dJ;by_cases hi:i<p
   ·rw [if_pos (by omega),if_pos hi]
   ·rw [if_neg (by omega),if_neg hi]
  rw [e,show dig (X p) q*(0%2)=0 by simp,u64_or_nat _ 0 (hx _) (by omega)];simp

theorem BZ (o:Tr) (ao:Option Addr) (m Y:Nat) (A:Nat→Option Addr) (L C:Nat→Nat) (l:Nat→List Nat) (i:Nat) (hi:i<18446744073709551616) (w:World) (ht:TrRoom w o m) (hs:Slots w ao m A L C) (ad:0<m→∀ a,ao=some a→¬ aN o a.block) (hr:∀ p,p<m→RowT w o (.slice (A p) (L p) (C p)) (l p)) (hd:∀ p,p<m→Digs (l p)) (hL:∀ p,p<m→L p≤100000000) (hm:m≤100000000) :
  Calls Tryz.prog 263 #[aC o,.slice ao m Y,.int .u64 (i:Nat)] w fun e w'=>∃ v',e=.returned v' ∧
   OwnN .u64 24 w' w.heap.size v' (cW L m) (digs (dJ (fun p=>val (l p)) i m) (cW L m))∧∃ o',Did w o (List.replicate m (1,(cW L m:Nat),0)) w' o':=by
 obtain ⟨i0,av,ay,az,aA⟩:=info_parts Tryz.info24;have hC:=qA ao m Y A L C w (by omega) hs;have aG:cW L m≤100000000:=ol L _ m hL;obtain ⟨X,hX⟩:∃ X:Nat→Nat,X=fun p=>val (l p):=⟨_,rfl⟩
 rw [← hX];have hF:Hid (∀ o' W g p,p<m→TrIn W o'→RowT W o' (.slice (A p) (L p) (C p)) (l p)→W.heap[g]? = some (.cells #[.int .i64 (cW L m:Nat)] 3 (0,0))→Calls Tryz.prog 209 #[.slice (A p) (L p) (C p),.pointer (some ⟨g,0,none⟩)] W fun e w'=>∃ v',e=.returned v'∧RowT w' o' v' (digs (X p) (cW L m))∧Kept ae W w'∧(v'=.slice (A p) (L p) (C p)∨∀ b,v'.ownBlock=some b→W.heap.size≤b)):=fun o' W g p hp t r hg=>by
  rw [hX];refine zu o' _ (l p) (cW L m) g W t r (hd p hp) ?_ (by omega) hg;obtain ⟨_,_,_,e,h,_⟩:=r.1.open;simp only [Value.slice.injEq] at e;have h1:=h.out;have h2:=n9 L m p hp;omega
 have N:Hid (∀ p,p<m→(l p).length=L p):=fun p hp=>by
  obtain ⟨_,_,_,e,h,_⟩:=(hr p hp).1.open;simp only [Value.slice.injEq] at e;have h1:=h.out;omega
 have HT:=aa ht;have HS:=aa hs;have an:=aa ad;have HR:=aa hr;obtain ⟨tp,U⟩:∃ tp,tp=aC o:=⟨_,rfl⟩
 rw [← U];have aq:=aa U;clear ht hs ad hr hd hL U hX;generalize cW L m=n at *;go_enter Tryz.func263,Tryz.ntmps263;go_wp2_with fail;refine hC.mono ?_;rintro e w1 ⟨rfl,M⟩;have c:w1.heap[w.heap.size]? = some (.cells #[.int .i64 (n:Nat)] 3 (0,0)):=by rw [M];exact heap_alloc_new _ _
 have k1:Kept ae w w1:=by rw [M];exact (ag ae w).alloc _
 have ak:w1.heap.size=w.heap.size+1:=by rw [M];simp
 obtain ⟨g,hg⟩:∃ g,g=w.heap.size:=⟨_,rfl⟩
 rw [← hg] at c ⊢;have HG:Hid (g=w.heap.size∧w1.heap.size=w.heap.size+1):=⟨hg,ak⟩
 clear hC M ak hg;go_wp2_with (at_make;refine wpList_make_full _ rfl _ _ 23 rfl w1.heap.size 24 i0 _ 1 Tryz.underlying23 av ay az _ _ _ _ n rfl rfl rfl rfl (by rw [aA];omega) (by unfold maxLen;omega) (leR _) ?_;intro w5 I ai);rw [aM] at I;have k5:=aK ai;have B:=(k5.block g (lt_of_block c) (fun f=>f)).trans c;have j:OwnN .u64 24 w5 w.heap.size (.slice (some ⟨w1.heap.size,0,none⟩) n n) n (digs (dJ X i 0) n):=by
  have e:digs (dJ X i 0) n=List.replicate n 0:=by
   have:=dU (ys:=[]) (V:=0) (m:=n) (Digs.nil _) rfl (Nat.zero_le _);simpa [dJ] using this
  rw [e];exact aR I (fun b hb=>Nat.le_trans k1.size (I.lt b hb).1)
 have d5:Did w o (List.replicate 0 (1,(n:Int),0)) w5 o:=Did.of_kept (k1.trans k5) HT.out.1;obtain ⟨h,hh⟩:∃ h,h=w1.heap.size:=⟨_,rfl⟩
 rw [← hh] at j ⊢;have HH:Hid (h=g+1∧w.heap.size≤h):=by have:=HG.out;unfold Hid;omega
 clear ai I k5 k1 c hh;go_loopw [23] (fun ii wr=>∃ (p:Nat) (o':Tr),p≤m∧ii=.int .i64 (p:Int)∧Hid (Did w o (List.replicate p (1,(n:Int),0)) wr o')∧Hid (wr.heap[g]? = some (.cells #[.int .i64 (n:Nat)] 3 (0,0)))∧Hid (OwnN .u64 24 wr w.heap.size (.slice (some ⟨h,0,none⟩) n n) n (digs (dJ X i p) n))) (fun ii _=>m-(intOf ii).toNat)
 case atStart=>exact ⟨0,o,Nat.zero_le _,rfl,d5,B,j⟩
 case round=>
  clear d5 B j;obtain ⟨p,o1,hp,rfl,v,c,H⟩:=hrel;by_cases hpm:p<m
  ·have g1:(p:Int)<(m:Int):=by omega
   have J:TrRoom wr o1 (m-p):=v.out.room (by rw [List.length_replicate,show p+(m-p)=m by omega];exact HT.out);have hS:=cN o1 n wr J.1;rw [v.out.ptr,← aq.out] at hS;go_wp2_with fail;refine hS.mono ?_;rintro e w2 ⟨rfl,o2,dd⟩;have d2:Hid (Did w o (List.replicate (p+1) (1,(n:Int),0)) w2 o2):=by
    have:=v.out.trans dd;rw [List.replicate_succ'];exact this
   have T:TrIn w2 o2:=(d2.out.room (k:=m-(p+1)) (by rw [List.length_replicate,show p+1+(m-(p+1))=m by omega];exact HT.out)).1;have F:=(dd.kept.block g (lt_of_block c.out) (aB c.out J.1 (by decide) (by decide))).trans c.out;have Q:=dd.kept.own H.out (cj H.out J.1);have aj:=(HR.out p hpm).did d2.out;obtain ⟨bb,off,rfl,s⟩:=(HS.out.did d2.out (an.out (by omega))) p hpm;have Z:=hF.out o2 w2 g p hpm T aj F;have d:=N.out p hpm;have D:Hid (n≠0→L p=n→∀ b,(Value.slice (A p) (L p) (C p)).ownBlock=some b→b<w.heap.size):=fun h0 h1 b hb=>(HR.out p hpm).1.lt (fun e=>by rw [e] at d;simp at d;omega) b hb
   clear hS dd J v c H aj d;generalize A p=a0 at *;generalize L p=l0 at *;generalize C p=c0 at *;go_wp2_with fail;refine Z.mono ?_;rintro e w3 ⟨v1,rfl,S,k3,hnew⟩;have aw:Hid (n≠0→∀ b,v1.ownBlock=some b→b≠h):=by
    intro h0 b hb e;subst e;have ab:=HH.out;rcases hnew with rfl | hnew
    ·obtain ⟨_,_,_,e,hl,_⟩:=S.1.open;simp only [Value.slice.injEq] at e;have h1:=hl.out;rw [af] at h1;have:=D.out h0 (by omega) b hb;omega
    ·have h1:=hnew b hb;have h2:=(Q.lt b rfl).2;omega
   have R:=k3.own Q (fun _ _ f=>f);have ah:=aa ((k3.block g (lt_of_block F) (fun f=>f)).trans F);have d3:=aa (d2.out.grew k3);have ax:=aa (T.grew k3);obtain ⟨a1,n1,c1,rfl,ac,_,_,_,P⟩:=S.1.open;obtain rfl:n1=n:=by rw [← ac.out,af]
   have hE:=fun W=>Bc (p:Int) (i:Int) (by omega) (by omega) (by omega) (by omega) W
   have E:0≤eqw (p:Int) (i:Int)∧eqw (p:Int) (i:Int)≤1:=by
    unfold eqw;by_cases h:(p:Int)=(i:Int)
    ·rw [if_pos h];omega
    ·rw [if_neg h];omega
   have hK:=fun W=>mh (eqw (p:Int) (i:Int)) E.1 (by omega) W
   have O:Hid (∀ q,bits .or .u64 (dig (dJ X i p) q:Nat) (bits .and .u64 (dig (X p) q:Nat) (msk (eqw (p:Int) (i:Int))))=(dig (dJ X i (p+1)) q:Nat)):=fun q=>tX X i p q
   clear Z hnew D F T d2 Q k3 s S ac E;generalize eqw (p:Int) (i:Int)=eq at *;generalize msk eq=mk at *;go_wp2_with fail;refine (hE _).mono ?_;rintro e am ⟨rfl,rfl⟩;go_wp2_with fail;refine (hK _).mono ?_;rintro e am ⟨rfl,rfl⟩;clear hE hK;generalize dJ X i p=V at *;have au:Hid (¬ aN o2 h):=cj R ax.out h rfl;go_wp2_with fail;go_loopw [41] (fun jj wr=>∃ (q:Nat),q≤n1∧jj=.int .i64 (q:Int)∧OwnN .u64 24 wr w.heap.size (.slice (some ⟨h,0,none⟩) n1 n1) n1 (digs (dJ X i (p+1)) q ++ (digs V n1).drop q)∧Kept (fun b=>b=h) am wr) (fun jj _=>n1-(intOf jj).toNat)
   case atStart=>exact ⟨0,Nat.zero_le _,rfl,by rw [digs,List.nil_append,List.drop_zero];exact R,ag _ _⟩
   case round=>
    clear R;obtain ⟨q,hq,rfl,ho,G⟩:=hrel;by_cases hqn:q<n1
    ·have g2:(q:Int)<(n1:Int):=by omega
     have g0:(0:Int)≤(q:Int):=Int.natCast_nonneg _;obtain ⟨b1,aD,rfl,aF⟩:=b8 ((P q hqn).kept G (fun a ha=>aw.out (by omega) _ (by rw [ha];rfl))) hqn;have aE:=tG ho hqn;have hf:=World.ownsRow.frozenAt ho q;have al:=fun u=>(World.ownsRow.stored ho q u).1
     have aH:=O.out q;have ap:Hid (OwnN .u64 24 (wr.setCell ⟨h,q,none⟩ (.int .u64 (dig (dJ X i (p+1)) q:Nat))) w.heap.size (.slice (some ⟨h,0,none⟩) n1 n1) n1 (digs (dJ X i (p+1)) (q+1) ++ (digs V n1).drop (q+1))):=by
      have:=al (.int .u64 (dig (dJ X i (p+1)) q:Nat));unfold Hid OwnN;rw [← yA _ _ n1 q hqn,List.map_set];exact this
     clear al P O;generalize dig (X p) q=x at *;generalize dig V q=y at *;generalize dig (dJ X i (p+1)) q=z at *;go_wp2_with fail;go_region
     all_goals
      go_wp2_with fail;go_roundw
      case rel=>exact ⟨q+1,by omega,by go_num,ap.out,(G.setCell _ (fun _=>rfl) _).drew⟩
      case measure=>simp [intOf];omega
    ·have g2:¬ (q:Int)<(n1:Int):=by omega
     have e:q=n1:=by omega
     subst e;rw [List.drop_eq_nil_of_le (by rw [af];exact leR _),List.append_nil] at ho;have ab:=HH.out;have d4:Hid (Did w o (List.replicate (p+1) (1,(q:Int),0)) wr o2):=d3.out.wroteNew G ab.2 au.out;have ar:Hid (wr.heap[g]? = some (.cells #[.int .i64 (q:Nat)] 3 (0,0))):=(G.block g (lt_of_block ah.out) (by omega)).trans ah.out;clear P O;go_wp2_with fail;go_roundw
     case rel=>exact ⟨p+1,o2,by omega,by go_num,d4,ar,ho⟩
     case measure=>simp [intOf];omega
  ·have g1:¬ (p:Int)<(m:Int):=by omega
   have e:p=m:=by omega
   subst e;go_wp2_with fail;go_ret;exact ⟨_,rfl,H.out,o1,v.out⟩

open Go.RowKit Go.Shelf

attribute [local go_sem] Oper.semAt_some

theorem tP (q x y:Nat) (h1:x%2^q=0) (h2:y<2^q) (h3:x+y<18446744073709551616):bits .or .u64 (x:Int) (y:Int)=((x+y:Nat):Int):=by
 have hx:x<18446744073709551616:=by omega
 have hy:y<18446744073709551616:=by omega
 rw [u64_or_nat _ _ hx hy]
 congr 1
 obtain ⟨k,rfl⟩:∃ k,x=2^q*k:=⟨x/2^q,(Nat.mul_div_cancel' (Nat.dvd_of_mod_eq_zero h1)).symm⟩
 exact (Nat.two_pow_add_eq_or_of_lt h2 k).symm

theorem Dc (y:Nat) (hy:y<18446744073709551616) (w:World) :
  Calls Tryz.prog 272 #[.int .u64 (y:Nat),.int .i64 4] w fun e w'=>e=.returned (.int .u64 (jt y:Nat))∧w'=w:=by
 have ho:=tP 4 (y*16%18446744073709551616) (y/1152921504606846976) (by omega) (by omega) (by omega);have hr:((jt y:Nat):Int)=((y*16%18446744073709551616+y/1152921504606846976:Nat):Int):=rfl;rw [← hr] at ho;rw [show ((y*16%18446744073709551616:Nat):Int)=IntKind.u64.wrap ((y:Int)*16) by rw [IntKind.wrap_u64];simp,show ((y/1152921504606846976:Nat):Int)=(y:Int)/1152921504606846976 by simp] at ho;clear hr;have a:bits .and .u64 4 63=4:=by decide +kernel
 generalize jt y=z at *;go_enter Tryz.func272,Tryz.ntmps272;go_wp2_with fail;go_ret;exact ⟨rfl,rfl⟩

theorem Bq (y:Nat) (hy:y<18446744073709551616):bits .and .u64 (y:Int) 15=((y%16:Nat):Int):=by
 have h:=u64_and_nat y 15 hy (by omega);rw [show (15:Int)=((15:Nat):Int) from rfl,h]
 congr 1
 exact Nat.and_two_pow_sub_one_eq_mod y 4

theorem DG (n:Nat) (hn:1≤n) (l Bs L N:Nat) (g:Nat→Nat) (v:Value) (ys:List Nat) (hd:Digs ys) (hL:Hid (ys.length=L)) (hN:Hid (16*L=N)) (hb:L≤1000000) (hg:Hid (∀ j,oS ys L j=g j)) (S:Nat→Prop) (hS:S Bs) (O:∀ b,v.ownBlock=some b→0<L→S b)
  (J Jx:List (Fin N)→World→Prop)
  (hY:∀ a (x:Fin N) W,J a W→a.length<N→YieldAt Fence.wide (n-1) Tryz.prog l #[.int .u64 (g x.val:Nat)] W fun e W'=>
   (e=.returned (.bool true)∧J (a ++ [x]) W'∧KeepB S W W')∨(e=.returned (.bool false)∧Jx (a ++ [x]) W'))
  (W:World) (H:W.cell? ⟨Bs,0,none⟩=some v) (hr:Row .u64 W v ys) (h0:J [] W) :
  CallsIn Fence.wide n Tryz.prog 271 #[.func (.yield l) #[] #[],.pointer (some ⟨Bs,0,none⟩)] W fun e W'=>(∃ v,e=.returned v) ∧
   ((∃ zs,zs.map Fin.val=List.range N∧J zs W')∨(∃ a,True∧Jx a W')):=by
 obtain ⟨ao,m,R,rfl,o,c1,c2,c3,t⟩:=hr.open;obtain rfl:m=L:=by rw [← o.out];exact hL.out
 have f:Hid (∀ i,i<m→NumAt .u64 W ao ys i):=t;have B:Hid (∀ (y:Nat) (w:World),y<18446744073709551616→Calls Tryz.prog 272 #[.int .u64 (y:Nat),.int .i64 4] w fun e w'=>e=.returned (.int .u64 (jt y:Nat))∧w'=w):=fun y w hy=>Dc y hy w
 have HD:Hid (∀ i,ys.getD i 0<18446744073709551616):=fun i=>hd.getD (by omega) i
 clear t hr hL o hd;refine callsIn_of_wp Tryz.func271 rfl trivial ?_ rfl;simp only [Tryz.ntmps271,List.size_toArray,List.length_cons,List.length_nil,Nat.reduceAdd,Nat.reduceSub,Array.replicate_succ,Array.replicate_zero,List.push_toArray,List.append_toArray,List.nil_append,List.cons_append]
 gi_wp2
 gi_loopw [7] (fun i wr=>∃ k:Nat,k≤m∧i=.int .i64 (k:Int)∧(∃ a:List (Fin N),Hid (a.map Fin.val=List.range (16*k))∧J a wr)∧KeepB S W wr)
  (fun i _=>m-(intOf i).toNat)
 case atStart=>exact ⟨0,Nat.zero_le _,rfl,⟨[],by simp [Hid],h0⟩,KeepB.refl _ _⟩
 case round=>
  obtain ⟨k,hk,rfl,⟨a,A,F⟩,D⟩:=hrel;by_cases hkm:k<m
  ·have gk:(k:Int)<(m:Int):=by omega
   obtain ⟨i,hi⟩:∃ i:Nat,i=m-1-k:=⟨_,rfl⟩
   have gi:(m:Int)-1-(k:Int)=(i:Int):=by omega
   have T:(0:Int)≤(i:Int):=by omega
   have U:(i:Int)<(m:Int):=by omega
   have HI:Hid (i=m-1-k):=hi;clear hi;obtain ⟨b,off,rfl,hc⟩:=f.out i (by have:=HI.out;omega);have V:wr.cell? ⟨b,off+i,none⟩=some (.int .u64 (ys.getD i 0:Nat)):=(D.cell (p:=⟨b,off+i,none⟩) (O b rfl (by omega))).trans hc;have P:=(D.cell (p:=⟨Bs,0,none⟩) hS).trans H;have HY:Hid (ys.getD i 0<18446744073709551616):=HD.out i;have HG:Hid (∀ q,q<16→i8 (ys.getD i 0) (q+1)%16=g (16*k+q)):=fun q hq=>by
    rw [← hg.out];unfold oS;rw [show (16*k+q)/16=k by omega,show (16*k+q)%16=q by omega,HI.out]
   generalize ys.getD i 0=y at *;clear hc f
   gi_wp2
   gi_loopw [4,18] (fun wv q G=>∃ r:Nat,r≤16∧q=.int .i64 (r:Int)∧wv=.int .u64 ((i8 y r:Nat):Int)∧(∃ a:List (Fin N),Hid (a.map Fin.val=List.range (16*k+r))∧J a G)∧KeepB S W G)
    (fun _ q _=>16-(intOf q).toNat)
   case atStart=>exact ⟨0,Nat.zero_le _,rfl,rfl,⟨a,A,F⟩,D⟩
   case round=>
    obtain ⟨r,hr,rfl,rfl,⟨d,c,E⟩,h⟩:=hrel;by_cases hr16:r<16
    ·have gr:(r:Int)<16:=by omega
     have hx:16*k+r<N:=by have:=hN.out;omega
     have s:d.length<N:=by
      have:=congrArg List.length c.out;rw [List.length_map,List.length_range] at this;omega
     have M:=B.out (i8 y r) wr (mS HY.out r);have hz:=Bq (jt (i8 y r)) (qS (mS HY.out r));have e1:jt (i8 y r)%16=g (16*k+r):=HG.out r hr16;rw [e1] at hz;obtain ⟨fn,tmps,assign,body,hy,hR⟩:=hY d ⟨16*k+r,hx⟩ wr E s;dsimp only at hy;have HZ:Hid (jt (i8 y r)=i8 y (r+1)):=rfl;clear e1;generalize jt (i8 y r)=z at *
     gi_wp2_with fail
     refine ⟨trivial,?_⟩;refine (callsIn_wide.2 M).mono ?_;rintro e w' ⟨rfl,rfl⟩
     gi_wp2
     refine hR.mono ?_;rintro e W3 (⟨rfl,I,Q⟩ | ⟨rfl,C⟩)
     ·gi_wp2
      go_roundw
      case rel=>exact ⟨r+1,hr16,by go_num,by rw [HZ.out],⟨d ++ [⟨16*k+r,hx⟩],by unfold Hid;rw [List.map_append,c.out,← Nat.add_assoc,List.range_succ];rfl,I⟩,h.trans Q⟩
      case measure=>simp [intOf];omega
     ·gi_wp2
      refine bodyPost_ret (results_none rfl _ _ _) rfl ?_;exact ⟨⟨_,rfl⟩,.inr ⟨_,trivial,C⟩⟩
    ·obtain rfl:r=16:=by omega
     gi_wp2
     go_roundw
     case rel=>exact ⟨k+1,hkm,by go_num,⟨d,by unfold Hid;rw [c.out];congr 1,E⟩,h⟩
     case measure=>simp [intOf];omega
  ·obtain rfl:k=m:=by omega
   gi_wp2
   go_end0
   exact ⟨⟨_,rfl⟩,.inl ⟨a,by rw [A.out,hN.out],F⟩⟩

theorem Be (ao:Option Addr) (b a:Nat) (w:World) :
  Calls Tryz.prog 261 #[.slice ao b a] w fun e w'=>e=.returned (.func (.func 271) #[] #[.pointer (some ⟨w.heap.size,0,none⟩)])∧w'=w.alloc (.cells #[.slice ao b a] 23):=by
 go_enter Tryz.func261,Tryz.ntmps261;go_wp2;go_ret;exact ⟨rfl,rfl⟩

theorem vx (n:Nat) (hn:1≤n) (Bs L N:Nat) (g:Nat→Nat) (v:Value) (ys:List Nat) (hd:Digs ys) (hL:ys.length=L) (hN:16*L=N) (hb:L≤1000000) (hg:∀ j,oS ys L j=g j) (S:Nat→Prop) (hS:S Bs) (a:∀ b,v.ownBlock=some b→0<L→S b)
  (w:World) (d:∀ k,S k→k<w.heap.size) (c:w.cell? ⟨Bs,0,none⟩=some v) (hr:Row .u64 w v ys) :
  SeqStopsK Fence.wide n Tryz.prog 271 #[.pointer (some ⟨Bs,0,none⟩)] (fun x:Fin N=>#[Value.int .u64 (g x.val:Nat)]) (KeepB S) (fun zs=>zs.map Fin.val=List.range N) (fun _=>True) N w:=fun l J Jx W hW _ _ hY h0=>by
 have hk:KeepB S w W:=fun k hk=>hW.block k (d k hk)
 exact DG n hn l Bs L N g v ys hd hL hN hb hg S hS a J Jx hY W ((hk.cell (p:=⟨Bs,0,none⟩) hS).trans c) (hk.row (fun b hb hp=>a b hb (by omega)) hr) h0

theorem ki {w:World} {o:Tr} (ht:TrIn w o) {b:Nat} (hb:aN o b):∃ c ty f,w.heap[b]? = some (.cells c ty f):=by
 cases o with
 | none=>exact hb.elim
 | some x=>
  obtain ⟨p,g,l⟩:=x;obtain ⟨⟨u,s,hp,hg,hr,_⟩,_⟩:=ht;rcases hb with rfl | hb
  ·exact ⟨_,_,_,hp⟩
  ·rcases hr.2 with ⟨rfl,_⟩ | ⟨g2,cap2,cur2,rfl,_,hgg2,_⟩
   ·rw [← hg] at hb;cases hb
   ·rw [← hg] at hb;have e:g2=b:=by simpa [Value.ownBlock] using hb
    subst e;exact ⟨_,_,_,hgg2⟩

structure RSt (W0 W w:World) (o o1 oc:Tr) (bP n V P:Nat) (qv:Value) (m:List Ev):Prop where
 box:Box w bP qv 23
 num:MonAt w qv n V P
 did:Did W0 o m w oc
 kept:Kept (fun b=>b=bP∨aN o1 b) W w
 foot:∀ b,b<W.heap.size→aN oc b→aN o1 b

theorem RSt.step {W0 W w w':World} {o o1 oc od:Tr} {bP n V P:Nat} {qv:Value} {m mm:List Ev} (h:RSt W0 W w o o1 oc bP n V P qv m) (ht:TrIn w oc) (d:Did w oc mm w' od):RSt W0 W w' o o1 od bP n V P qv (m ++ mm):=
 ⟨h.box.did d ht (by decide) (by decide),h.num.did d ht,h.did.trans d,h.kept.next d.kept (fun x hx f=>.inr (h.foot x hx f)),fun b hb f=>h.foot b hb (d.foot (Nat.lt_of_lt_of_le hb h.kept.size) f)⟩

theorem RSt.put {W0 W w:World} {o o1 oc:Tr} {bP n V P Q:Nat} {qv zv:Value} {m:List Ev} (h:RSt W0 W w o o1 oc bP n V P qv m) (ht:TrIn w oc) (hz:MonAt w zv n V Q) (hb:W0.heap.size≤bP):RSt W0 W (w.setCell ⟨bP,0,none⟩ zv) o o1 oc bP n V Q zv m:=by
 have kb:=aw w bP zv;have c:∀ b,zv.ownBlock=some b→¬ b=bP:=fun b e f=>by
  subst f;obtain ⟨cs,fr,hg⟩:=hz.2 b e;have a:w.heap[b]? = _:=h.box;rw [a] at hg;simp only [Option.some.injEq,Obj.cells.injEq] at hg;exact absurd hg.2.1 (by decide)
 exact ⟨h.box.set zv,hz.kept kb c,h.did.wroteNew kb hb (h.box.apart ht (by decide) (by decide)),h.kept.next kb (fun x _ e=>.inl e),h.foot⟩

theorem RSt.drew {W0 W w:World} {o o1 oc:Tr} {bP n V P:Nat} {qv:Value} {m:List Ev} (h:RSt W0 W w o o1 oc bP n V P qv m):RSt W0 W w.drew o o1 oc bP n V P qv m:=
 ⟨h.box,h.num.grew (ag ae w).drew,h.did.grew (ag ae w).drew,h.kept.drew,h.foot⟩

def fA (n:Nat):List Ev:=List.replicate 16 (1,(n:Int),0)

def kT (n:Nat):List Ev:=(List.replicate 4 (cV n)).flatten ++ (fA n ++ cV n)

theorem pW {n:Nat} (h:n≤130):(kT n).length≤11000:=by
 obtain ⟨h1,_,_⟩:=dF h;have h2:=gW h1 4;unfold kT fA;rw [List.length_append,List.length_append,List.length_replicate];omega

theorem jB (n:Nat):∀ k,cW (fun _=>n) (k+1)=n
 | 0=>by simp [cW]
 | k+1=>by
  have:=jB n k;rw [cW,this];simp

theorem Co (o:Tr) (g c n V X i:Nat) (A:Nat→Option Addr) (C:Nat→Nat) (w0 w:World) (xv:Value) (ht:TrRoom w o 2000) (hV:0<V) (b:V<18446744073709551616^n) (hn:n≤130) (hT:Tab8 w0 w xv (.slice (some ⟨g,0,none⟩) 16 c) n 16 A C V X) (hi:i<16) :
  Calls Tryz.prog 263 #[aC o,.slice (some ⟨g,0,none⟩) 16 c,.int .u64 (i:Nat)] w fun e w'=>∃ zo zc,e=.returned (.slice zo n zc)∧MonAt w' (.slice zo n zc) n V (X^i)∧Fresh w (.slice zo n zc)∧∃ o',Did w o (fA n) w' o':=by
 have f:cW (fun _=>n) 16=n:=jB n 15;refine (BZ o (some ⟨g,0,none⟩) 16 c A (fun _=>n) C (fun j=>digs (mon n V (X^j)) n) i (by omega) w (ht.less (by omega)) (fun j hj=>⟨g,0,rfl,by rw [Nat.zero_add];exact hT.at hj⟩) (fun _ a e=>by cases e;exact iB hT.1 ht.1 g rfl) (fun p hp=>(hT.2 p hp).1.2.rowT (hT.2 p hp).1.1 ht.1) (fun p hp=>ai (by omega) _ _) (fun _ _=>by omega) (by omega)).mono ?_;rintro e w' ⟨v',rfl,ho,o',d⟩;rw [f] at ho d;have hp:dJ (fun p=>val (digs (mon n V (X^p)) n)) i 16=mon n V (X^i):=by
  unfold dJ;rw [if_pos hi];exact gd hV b
 rw [hp] at ho;have hA:MonAt w' v' n V (X^i):=⟨aU ho (af _ _ _),U64s.own ho⟩
 obtain ⟨zo,zc,rfl⟩:=hA.shape;exact ⟨zo,zc,rfl,hA,Fresh.own ho (leR _),o',d⟩

attribute [local go_sem] Oper.semAt_some

def eC (n L k:Nat):List Ev:=(1,(L:Int),0) :: (List.replicate k (kT n)).flatten

theorem oH (n L k:Nat):eC n L (k+1)=eC n L k ++ kT n:=by
 unfold eC;rw [List.replicate_succ',List.flatten_append,List.cons_append];simp

theorem gC {n:Nat} (h:n≤130) (L k:Nat):(eC n L k).length≤1+k*11000:=by
 have:=gW (pW h) k;unfold eC;rw [List.length_cons];omega

def iE {N:Nat} (g:Nat→Nat) (pre:List (Fin N)):Nat:=pX (pre.map fun x=>g x.val)

theorem sl {N:Nat} (g:Nat→Nat) (a:List (Fin N)) (x:Fin N):iE g (a ++ [x])=16*iE g a+g x.val:=by
 unfold iE;rw [List.map_append,List.map_cons,List.map_nil,mj]

theorem vy {N:Nat} {g:Nat→Nat} {ys:List (Fin N)} (h:ys.map Fin.val=List.range N):iE g ys=pX ((List.range N).map g):=by
 unfold iE;rw [← h,List.map_map];rfl

def Btw (W0:World) (o:Tr) (bP n V X L:Nat) (ev:Value) {N:Nat} (g:Nat→Nat) (pre:List (Fin N)) (W:World):Prop:=
 ∃ (o1:Tr) (qo:Option Addr) (qc:Nat),Box W bP (.slice qo n qc) 23∧MonAt W (.slice qo n qc) n V (X^iE g pre)∧Did W0 o (eC n L pre.length) W o1∧Box W (bP+1) ev 23

theorem Btw.turn {W0:World} {o:Tr} {bP n V X L N B:Nat} {ev:Value} {g:Nat→Nat} {a:List (Fin N)} {W W':World} (h:Btw W0 o bP n V X L ev g a W) (t:Turn B W W') (hB:W0.heap.size≤B):Btw W0 o bP n V X L ev g a W':=by
 obtain ⟨o1,qo,qc,h1,h2,h3,h4⟩:=h;exact ⟨o1,qo,qc,t.cells h1,⟨t.row h2.1,t.u64s h2.2⟩,t.did h3 hB,t.cells h4⟩

def yY (bT:Nat) (po ao bo:Option Addr) (n l0 K mcap rcap gT cT:Nat) (W:World):Prop:=
 W.cell? ⟨bT,0,none⟩=some (.pointer po)∧W.cell? ⟨bT+1,0,none⟩=some (.slice ao n mcap)∧W.cell? ⟨bT+1,1,none⟩=some (.int .u64 (K:Nat))∧W.cell? ⟨bT+1,2,none⟩=some (.slice bo l0 rcap)∧W.cell? ⟨bT+1+1,0,none⟩=some (.slice (some ⟨gT,0,none⟩) 16 cT)

theorem yP (o:Tr) (ao bo eo:Option Addr) (n l0 K z E gT cT L y X:Nat) (A:Nat→Option Addr) (C:Nat→Nat) (ms rs ys:List Nat) (xv:Value) (wT w:World) (ht:TrRoom w o 60000000) (hM:Mod8 w o ao bo n l0 K z E ms rs) (hT:Tab8 wT w xv (.slice (some ⟨gT,0,none⟩) 16 cT) n 16 A C (val ms) X)
  (he:RowT w o (.slice eo L y) ys) (a4:Digs ys) (hL:L≤300) :
  Calls Tryz.prog 241 #[aC o,.agg #[.slice ao n z,.int .u64 (K:Nat),.slice bo l0 E],.slice (some ⟨gT,0,none⟩) 16 cT,.slice eo L y] w fun e w'=>∃ zo zc,e=.returned (.slice zo n zc)∧(Row .u64 w' (.slice zo n zc) (digs (X^val ys%val ms) n)∧U64s w' (.slice zo n zc))∧Fresh w (.slice zo n zc)∧∃ o',Did w o (eC n L (16*L) ++ iy n) w' o':=by
 have aK:∀ args w,(callFunc 263 args).run Tryz.prog w=.ok (.enter 263 args) w:=fun _ _=>by simp [go_sem]
 have aJ:∀ args w,(callFunc 126 args).run Tryz.prog w=.ok (.enter 126 args) w:=fun _ _=>by simp [go_sem]
 have aI:∀ args w,(callFunc 262 args).run Tryz.prog w=.ok (.enter 262 args) w:=fun _ _=>by simp [go_sem]
 obtain ⟨⟨f0,f1⟩,f2,f3,f4,f5⟩:=hM.facts;obtain ⟨po,ax⟩:=aE o;obtain ⟨V,hV⟩:∃ V,V=val ms:=⟨_,rfl⟩
 rw [← hV] at f3 f4 f5 hT ⊢;obtain ⟨W0,ap⟩:∃ W0,W0=((w.alloc (.cells #[.pointer po] 53)).alloc (.cells #[.slice ao n z,.int .u64 (K:Nat),.slice bo l0 E] 70)).alloc (.cells #[.slice (some ⟨gT,0,none⟩) 16 cT] 58):=⟨_,rfl⟩
 have k0:Kept ae w W0:=by rw [ap];exact (((ag ae w).alloc _).alloc _).alloc _
 have a5:W0.heap.size=w.heap.size+1+1+1:=by rw [ap];simp
 have a1:Box W0 w.heap.size (.pointer po) 53:=by rw [ap];exact ((Box.new w _ _).alloc _).alloc _
 have aM:W0.heap[w.heap.size+1]? = some (.cells #[.slice ao n z,.int .u64 (K:Nat),.slice bo l0 E] 70 (0,0)):=by
  rw [ap];refine ak ?_;have:=heap_alloc_new (w.alloc (.cells #[.pointer po] 53)) (.cells #[.slice ao n z,.int .u64 (K:Nat),.slice bo l0 E] 70)
  rwa [show (w.alloc (.cells #[.pointer po] 53)).heap.size=w.heap.size+1 by simp] at this
 have a0:Box W0 (w.heap.size+1+1) (.slice (some ⟨gT,0,none⟩) 16 cT) 58:=by
  rw [ap];have:=Box.new ((w.alloc (.cells #[.pointer po] 53)).alloc (.cells #[.slice ao n z,.int .u64 (K:Nat),.slice bo l0 E] 70)) (.slice (some ⟨gT,0,none⟩) 16 cT) 58
  rwa [show ((w.alloc (.cells #[.pointer po] 53)).alloc (.cells #[.slice ao n z,.int .u64 (K:Nat),.slice bo l0 E] 70)).heap.size=w.heap.size+1+1 by simp] at this
 have T:=aa (ht.grew k0);have JC:Hid (∀ W m o',Did W0 o m W o'→yY w.heap.size po ao bo n l0 K z E gT cT W):=fun W m o' d=>by
  obtain ⟨q0,q1,q2⟩:=am ((d.kept.block _ (lt_of_block aM) (aB aM T.out.1 (by decide) (by decide))).trans aM);exact ⟨(a1.did d T.out.1 (by decide) (by decide)).cell,q0,q1,q2,(a0.did d T.out.1 (by decide) (by decide)).cell⟩
 have al:Hid (∀ W m o' yo yc zo zc P Q,Did W0 o m W o'→TrRoom W o' 2000→MonAt W (.slice yo n yc) n V P→MonAt W (.slice zo n zc) n V Q→Calls Tryz.prog 126 #[.pointer po,.agg #[.slice ao n z,.int .u64 (K:Nat),.slice bo l0 E],.slice yo n yc,.slice zo n zc] W fun e w'=>∃ ro rc,e=.returned (.tuple #[.slice ro n rc,.int .i64 0])∧MonAt w' (.slice ro n rc) n V (P*Q)∧Fresh W (.slice ro n rc)∧∃ o2,Did W o' (cV n) w' o2):=fun W m o' yo yc zo zc P Q d hr hA hB=>by
  rw [hV] at hA hB;have:=Cc o' ao bo yo zo n l0 K z E yc zc P Q ms rs W hr ((hM.grew k0).did d) hA hB;rw [d.ptr,ax,← hV] at this;exact this
 have aA:Hid (∀ W m o' i,Did W0 o m W o'→TrRoom W o' 2000→i<16→Calls Tryz.prog 263 #[.pointer po,.slice (some ⟨gT,0,none⟩) 16 cT,.int .u64 (i:Nat)] W fun e w'=>∃ ro rc,e=.returned (.slice ro n rc)∧MonAt w' (.slice ro n rc) n V (X^i)∧Fresh W (.slice ro n rc)∧∃ o2,Did W o' (fA n) w' o2):=fun W m o' i d hr hi=>by
  have:=Co o' gT cT n V X i A C wT W xv hr (by omega) f5 f1 ((hT.grew k0).did d T.out.1) hi;rw [d.ptr,ax] at this;exact this
 have aQ:Hid (∀ W m o' yo yc P,Did W0 o m W o'→TrRoom W o' 2000→MonAt W (.slice yo n yc) n V P→Calls Tryz.prog 66 #[.pointer po,.agg #[.slice ao n z,.int .u64 (K:Nat),.slice bo l0 E],.slice yo n yc] W fun e w'=>∃ zo zc,e=.returned (.tuple #[.slice zo n zc,.int .i64 0])∧(Row .u64 w' (.slice zo n zc) (digs (P%V) n)∧U64s w' (.slice zo n zc))∧Fresh W (.slice zo n zc)∧∃ o2,Did W o' (iy n) w' o2):=fun W m o' yo yc P d hr hA=>by
  rw [hV] at hA;have:=Do o' ao bo yo n l0 K z E yc P ms rs W hr ((hM.grew k0).did d) hA;rw [d.ptr,ax,← hV] at this;exact this
 have ab:Hid (Calls Tryz.prog 150 #[.pointer po,.int .i64 (L:Int)] W0 fun r w'=>r=.returned (.tuple #[])∧∃ o',Did W0 o [(1,(L:Int),0)] w' o'):=by
  have:=cN o (L:Int) W0 T.out.1;rw [ax] at this;exact this
 have aR:Hid (∀ W m o',Did W0 o m W o'→Tab8 wT W xv (.slice (some ⟨gT,0,none⟩) 16 cT) n 16 A C V X):=fun W m o' d=>(hT.grew k0).did d T.out.1
 have aD:Hid (∀ W m o',Did W0 o m W o'→RowT W o' (.slice eo L y) ys):=fun W m o' d=>(he.grew k0).did d
 obtain ⟨_,_,_,e1,Y,_⟩:=he.1.open;cases e1
 have ai:=aa Y;have aj:Hid (∀ b,(Value.slice eo L y).ownBlock=some b→0<L→b<w.heap.size):=fun b hb hp=>he.1.lt (by intro e;rw [e] at Y;have:=Y.out;simp at this;omega) b hb
 have bd:=aa ap;have ar:=aa k0;have bl:=aa a5;have ah:=aa f1;obtain ⟨c0,c1,c2,c3,c4⟩:=JC.out _ _ _ (Did.of_kept (ag ae W0) T.out.1);have hS:=ab.out;rw [ax];clear ap k0 a5 a1 aM a0 ht hM hT he Y ax hV f2 f3 ab;refine (callsIn_wide (n:=9)).1 ?_;refine callsIn_of_wp_marks Tryz.func241 rfl trivial ?_ rfl;simp only [Tryz.ntmps241,List.size_toArray,List.length_cons,List.length_nil,Nat.reduceAdd,Nat.reduceSub,Array.replicate_succ,Array.replicate_zero,List.push_toArray,List.append_toArray,List.nil_append,List.cons_append];refine wpIn_wide.2 ?_;go_wp2_with fail;rw [← bd.out];refine hS.mono ?_;rintro e W1 ⟨rfl,o1,d1⟩;obtain ⟨q0,q1,q2,q3,q4⟩:=JC.out _ _ _ d1
 have N:=aR.out _ _ _ d1;have bi:=N.at (j:=0) (by omega);clear hS c0 c1 c2 c3 c4;go_wp2_with fail;have a2:=Be eo L y (W1.alloc (.cells #[.slice (A 0) n (C 0)] 23));refine a2.mono ?_;rintro e W3 ⟨rfl,rfl⟩;have kP:Kept ae W1 (W1.alloc (.cells #[.slice (A 0) n (C 0)] 23)):=(ag ae W1).alloc _;have kE:=kP.alloc (.cells #[.slice eo L y] 23);have aZ:=(Box.new W1 (.slice (A 0) n (C 0)) 23).alloc (.cells #[.slice eo L y] 23);have aS:=Box.new (W1.alloc (.cells #[.slice (A 0) n (C 0)] 23)) (.slice eo L y) 23;have bj:((W1.alloc (.cells #[.slice (A 0) n (C 0)] 23)).alloc (.cells #[.slice eo L y] 23)).heap.size=W1.heap.size+2:=by simp
 rw [World.size_alloc] at aS;have d3:=d1.grew kE;have aW:=(aD.out _ _ _ d3).1;have af:=(N.2 0 (by omega)).1.grew kE;obtain ⟨g,hg⟩:∃ g:Nat→Nat,∀ j,oS ys L j=g j:=⟨_,fun _=>rfl⟩
 have HG:=aa hg;have aV:W0.heap.size≤W1.heap.size:=d1.size;have a9:=aa d3;have a7:=aa aZ;have bc:=aa af;clear a2 q0 q1 q2 q3 q4 N bi kP aZ af d3 d1;go_wp2_with fail;generalize (W1.alloc (.cells #[.slice (A 0) n (C 0)] 23)).alloc (.cells #[.slice eo L y] 23)=W3 at *;refine (wpIn_wide (n:=9)).1 ?_;refine wpIn_rangeFunc_ownG (F:=Fence.wide) (n:=9) rfl (by omega) (gf:=271) (lb:=#[.pointer (some ⟨W1.heap.size+1,0,none⟩)]) rfl trivial (enters_of Tryz.func271 (by kernel_rfl) rfl)
  (vx 8 (by omega) (W1.heap.size+1) L (16*L) g (.slice eo L y) ys a4 ai.out.out rfl (by omega) hg (fun k=>k=W1.heap.size+1∨((Value.slice eo L y).ownBlock=some k∧0<L)) (.inl rfl) (fun b hb hp=>.inr ⟨hb,hp⟩) _ ?hsw aS.cell aW) KeepB.trans (KeepB.put ?hsw2) (Below.refl _ _) (fun _=>rfl)
  (Btw W0 o W1.heap.size n V X L (.slice eo L y) g) (fun _ _ _=>False)
  (iW (fun s A B hs t=>hs.turn t (by rw [bj];omega))) (fun _ _ _ _ _ hs _ _=>hs)
  ⟨o1,A 0,C 0,a7.out,by have:=bc.out;exact this,by unfold eC;exact a9.out,aS⟩
  ?act ?assign ?body ?done ?stop
 case hsw=>
  rintro k (rfl | ⟨hk,hp⟩)
  ·omega
  ·have:=aj.out k hk hp;have:=ar.out.size;omega
 case hsw2=>
  rintro k (rfl | ⟨hk,hp⟩)
  ·omega
  ·have:=aj.out k hk hp;have:=ar.out.size;omega
 case assign=>
  intro l x W K hK
  gi_wp2
  exact hK
 case body=>
  rintro l H x W ⟨oc,qo,qc,aw,O,hd,a3⟩ hlt;have p:TrRoom W oc 20000:=hd.room (T.out.less (by have:=gC ah.out L H.length;omega));have R0:Hid (RSt W0 W W o oc oc W1.heap.size n V (X^(iE g H*2^0)) (.slice qo n qc) (eC n L H.length ++ (List.replicate 0 (cV n)).flatten)):=by
   rw [Nat.pow_zero,Nat.mul_one,List.replicate_zero,List.flatten_nil,List.append_nil];exact ⟨aw,O,hd,ag _ _,fun _ _ f=>f⟩
  have Z:=aa p;have HD:=aa hd;have HX:Hid (g x.val<16):=by rw [← HG.out];exact Bf _ _ _
  have a8:=aa aw;have aP:=aa a3;clear p aw O hd a3
  gi_wp2_with fail
  gi_loopw [21] (fun q wr=>∃ (r:Nat) (od:Tr) (ro:Option Addr) (rc:Nat),r≤4∧q=.int .i64 (r:Int)∧Hid (RSt W0 W wr o oc od W1.heap.size n V (X^(iE g H*2^r)) (.slice ro n rc) (eC n L H.length ++ (List.replicate r (cV n)).flatten))) (fun q _=>4-(intOf q).toNat)
  case atStart=>exact ⟨0,oc,qo,qc,by omega,rfl,R0.out⟩
  case round=>
   obtain ⟨r,od,ro,rc,hr,rfl,R⟩:=hrel;have p:TrRoom wr od 6000:=R.out.did.room (T.out.less (by
    have h1:=gC ah.out L H.length;have h2:=gW (dF ah.out).1 r;rw [List.length_append];omega))
   obtain ⟨q0,q1,q2,q3,q4⟩:=JC.out _ _ _ R.out.did;have qP:=R.out.box.cell;have fP:=R.out.box.free;have az:=aa p;by_cases hr4:r<4
   ·have gr:(r:Int)<4:=by omega
    have aF:=al.out wr _ od ro rc ro rc _ _ R.out.did (p.less (by omega)) R.out.num R.out.num;clear p
    gi_wp2_with fail
    refine ⟨trivial,?_⟩;refine (CallsIn.inRound l (callsIn_wide.2 aF)).mono ?_;rintro e w7 ⟨so,sc,rfl,au,aU,o7,d7⟩;have R7:=aa (R.out.step az.out.1 d7);have aL:TrIn w7 o7:=(d7.room (k:=0) (az.out.less (by have:=(dF ah.out).1;omega))).1;have R8:=aa (R7.out.put aL au aV);have bp:=R7.out.box.cell;have bn:=R7.out.box.free;have aH:=mi so n sc w7;clear aF au aU d7 aL q0 q1 q2 q3 q4 qP fP
    gi_wp2_with fail
    refine ⟨trivial,?_⟩;refine (CallsIn.inRound l (callsIn_wide.2 aH)).mono ?_;rintro e w8 ⟨rfl,rfl⟩;clear aH
    gi_wp2_with fail
    go_roundw
    case rel=>
     refine ⟨r+1,o7,so,sc,by omega,by go_num,?_⟩;have:=R8.out;rw [← Nat.pow_add,show iE g H*2^r+iE g H*2^r=iE g H*2^(r+1) by rw [Nat.pow_succ,← Nat.mul_assoc,Nat.mul_two],List.append_assoc,show (List.replicate r (cV n)).flatten ++ cV n=(List.replicate (r+1) (cV n)).flatten by rw [List.replicate_succ',List.flatten_append];simp] at this;exact this
    case measure=>simp [intOf];omega
   ·obtain rfl:r=4:=by omega
    gi_wp2_with fail
    -- REGION 9 BEGINS
    have R9:=R.out.drew;have J:Hid (TrRoom wr.drew od 6000):=az.out.grew (ag ae wr).drew;have av:=JC.out _ _ _ R9.did;have ac:=aA.out wr.drew _ od (g x.val) R9.did (J.out.less (by omega)) HX.out;have bm:=R9.box.cell;have ay:Hid (∀ (wE:World) (oE:Tr) (tq:Option Addr) (tc:Nat),RSt W0 W wE o oc oE W1.heap.size n V (X^(iE g H*2^4)*X^g x.val) (.slice tq n tc) (eC n L H.length ++ (List.replicate 4 (cV n)).flatten ++ fA n ++ cV n)→KeepsFrom W3.heap.size W wE∧KeepB (fun k=>k=W1.heap.size+1∨((Value.slice eo L y).ownBlock=some k∧0<L)) W wE∧Btw W0 o W1.heap.size n V X L (.slice eo L y) g (H ++ [x]) wE):=fun wE oE tq tc RE=>by
     have a6:Box wE (W1.heap.size+1) (.slice eo L y) 23:=aP.out.kept RE.kept (by
      rintro (h | h)
      ·omega
      ·exact aP.out.apart Z.out.1 (by decide) (by decide) h)
     refine ⟨gY RE.kept (fun b hb _=>?_),?_,oE,tq,tc,RE.box,?_,?_,a6⟩
     ·rcases hb with rfl | hb
      ·exact ⟨_,_,_,a8.out⟩
      ·exact ki Z.out.1 hb
     ·rintro k (rfl | ⟨hk,hp⟩)
      ·exact (show wE.heap[_]? = _ from a6).trans (show W.heap[_]? = _ from aP.out).symm
      ·have h1:=aj.out k hk hp;have h2:=ar.out.size;have h3:=HD.out.size;have h4:=(aD.out _ _ _ HD.out).2 (by intro e;have:=ai.out.out;rw [e] at this;simp at this;omega) k hk;refine RE.kept.block k (by omega) ?_;rintro (h | h)
       ·omega
       ·exact h4 h
     ·have:=RE.num;rw [← Nat.pow_add,show iE g H*2^4+g x.val=iE g (H ++ [x]) by rw [sl];omega] at this;exact this
     ·have:=RE.did;rw [List.append_assoc,List.append_assoc,show (List.replicate 4 (cV n)).flatten ++ (fA n ++ cV n)=kT n from rfl,← oH] at this;rw [List.length_append];exact this
    clear p q0 q1 q2 q3 q4 qP fP;refine mO (S:=yY w.heap.size po ao bo n l0 K z E gT cT) (by kernel_rfl) (by kernel_rfl) (by rintro ⟨a,w,h⟩;exact h) ?_;refine wpAnyH_take (i:=0) (v:=.pointer po) rfl (by kernel_rfl) (by kernel_rfl) (by kernel_rfl) (fun _ _ _ h=>h) (Or.inl ⟨by rfl,fun w9 I=>?_⟩) av ?_
    ·obtain ⟨s0,s1,s2,s3,s4⟩:=I;go_simp
    simp only [Act.put,List.getElem_toArray,List.getElem_cons_zero,lsA,lsZ,lsS];refine wpAnyH_take (i:=1) (v:=.agg #[.slice ao n z,.int .u64 (K:Nat),.slice bo l0 E]) rfl (by kernel_rfl) (by kernel_rfl) (by kernel_rfl) (fun _ _ _ h=>h) (Or.inl ⟨by rfl,fun w9 I=>?_⟩) av ?_
    ·obtain ⟨s0,s1,s2,s3,s4⟩:=I;go_simp
    simp only [Act.put,List.getElem_toArray,List.getElem_cons_succ,List.getElem_cons_zero,lsA,lsZ,lsS];refine wpAnyH_take (i:=3) (v:=.pointer po) rfl (by kernel_rfl) (by kernel_rfl) (by kernel_rfl) (fun _ _ _ h=>h) (Or.inl ⟨by rfl,fun w9 I=>?_⟩) av ?_
    ·obtain ⟨s0,s1,s2,s3,s4⟩:=I;go_simp
    simp only [Act.put,List.getElem_toArray,List.getElem_cons_succ,List.getElem_cons_zero,lsA,lsZ,lsS];refine wpAnyH_take (i:=4) (v:=.slice (some ⟨gT,0,none⟩) 16 cT) rfl (by kernel_rfl) (by kernel_rfl) (by kernel_rfl) (fun _ _ _ h=>h) (Or.inl ⟨by rfl,fun w9 I=>?_⟩) av ?_
    ·obtain ⟨s0,s1,s2,s3,s4⟩:=I;go_simp
    simp only [Act.put,List.getElem_toArray,List.getElem_cons_succ,List.getElem_cons_zero,lsA,lsZ,lsS];refine wpAnyH_take (i:=5) (v:=.int .u64 (g x.val:Nat)) rfl (by kernel_rfl) (by kernel_rfl) (by kernel_rfl) (fun _ _ _ h=>h) (Or.inl ⟨by rfl,fun w9 I=>?_⟩) av ?_
    ·go_simp
    simp only [Act.put,List.getElem_toArray,List.getElem_cons_succ,List.getElem_cons_zero,lsA,lsZ,lsS];refine wpAnyH_ready (rs:=[2,6]) (by kernel_rfl) (by simp) ?_;refine AllReadyH.cons rfl (fun K hK=>?_) (AllReadyH.cons rfl (fun K hK=>?_) AllReadyH.nil)
    ·go_simp
     refine hK.out _ _ av (fun _=>?_);refine wpAnyH_ready (rs:=[6]) (by kernel_rfl) (by simp) ?_;refine AllReadyH.cons rfl (fun K hK=>?_) AllReadyH.nil;refine dZ 263 _ _ _ (by rfl) (by rfl) (by rfl) aK ac ?_;rintro e w7 ⟨so,sc,rfl,au,aU,o7,d7⟩;have R7:=R9.step J.out.1 d7;have G:TrRoom w7 o7 4000:=d7.room (J.out.less (by unfold fA;simp));have aN:=JC.out _ _ _ R7.did;have be:=R7.box.cell;have M:=al.out w7 _ o7 ro rc so sc _ _ R7.did (G.less (by omega)) R7.num au;refine ⟨_,rfl,?_⟩;refine hK.out _ _ aN (fun _=>?_);simp only [Act.put,List.getElem_toArray,List.getElem_cons_succ,List.getElem_cons_zero,lsA,lsZ,lsS]
     refine wpAnyH_ready (rs:=[7]) (by kernel_rfl) (by simp) ?_;refine AllReadyH.cons rfl (fun K hK=>?_) AllReadyH.nil;refine dZ 126 _ _ _ (by rfl) (by rfl) (by rfl) aJ M ?_;rintro e w8 ⟨tq,tc,rfl,aT,bh,o8,d8⟩;have R8:=R7.step G.1 d8;have aq:TrIn w8 o8:=(d8.room (k:=0) (G.less (by have:=(dF ah.out).1;omega))).1;have U:=JC.out _ _ _ R8.did;have bf:=R8.box.cell;have bg:=R8.box.free;refine ⟨_,rfl,?_⟩;refine hK.out _ _ U (fun _=>?_);simp only [Act.put,List.getElem_toArray,List.getElem_cons_succ,List.getElem_cons_zero,lsA,lsZ,lsS]
     refine wpAnyH_take (i:=8) (v:=.slice tq n tc) rfl (by kernel_rfl) (by kernel_rfl) (by kernel_rfl) (fun _ _ _ h=>h) (Or.inl ⟨by rfl,fun w9 I=>?_⟩) U ?_
     ·go_simp
     simp only [Act.put,List.getElem_toArray,List.getElem_cons_succ,List.getElem_cons_zero,lsA,lsZ,lsS];refine wpAnyH_take (i:=9) (v:=.int .i64 0) rfl (by kernel_rfl) (by kernel_rfl) (by kernel_rfl) (fun _ _ _ h=>h) (Or.inl ⟨by rfl,fun w9 I=>?_⟩) U ?_
     ·go_simp
     simp only [Act.put,List.getElem_toArray,List.getElem_cons_succ,List.getElem_cons_zero,lsA,lsZ,lsS];refine wpAnyH_ready (rs:=[10]) (by kernel_rfl) (by simp) ?_;refine AllReadyH.cons rfl (fun K hK=>?_) AllReadyH.nil;refine dZ 262 _ _ _ (by rfl) (by rfl) (by rfl) aI (mi tq n tc w8) ?_;rintro e bk ⟨rfl,rfl⟩;refine ⟨_,rfl,?_⟩;refine hK.out _ _ U (fun _=>?_);simp only [Act.put,List.getElem_toArray,List.getElem_cons_succ,List.getElem_cons_zero,lsA,lsZ,lsS];refine wpAnyH_ready (rs:=[11]) (by kernel_rfl) (by simp) ?_;refine AllReadyH.cons rfl (fun K hK=>?_) AllReadyH.nil;go_simp
     have RE:=R8.put aq aT aV;refine hK.out _ _ (JC.out _ _ _ RE.did) (fun _=>?_);refine wpAnyH_done (by kernel_rfl) ?_ _;exact ay.out _ _ _ _ RE
    ·refine dZ 263 _ _ _ (by rfl) (by rfl) (by rfl) aK ac ?_;rintro e w7 ⟨so,sc,rfl,au,aU,o7,d7⟩;have R7:=R9.step J.out.1 d7;have G:TrRoom w7 o7 4000:=d7.room (J.out.less (by unfold fA;simp));have aN:=JC.out _ _ _ R7.did;have be:=R7.box.cell;have M:=al.out w7 _ o7 ro rc so sc _ _ R7.did (G.less (by omega)) R7.num au;refine ⟨_,rfl,?_⟩;refine hK.out _ _ aN (fun _=>?_);simp only [Act.put,List.getElem_toArray,List.getElem_cons_succ,List.getElem_cons_zero,lsA,lsZ,lsS];refine wpAnyH_ready (rs:=[2]) (by kernel_rfl) (by simp) ?_;refine AllReadyH.cons rfl (fun K hK=>?_) AllReadyH.nil;go_simp
     refine hK.out _ _ aN (fun _=>?_);refine wpAnyH_ready (rs:=[7]) (by kernel_rfl) (by simp) ?_;refine AllReadyH.cons rfl (fun K hK=>?_) AllReadyH.nil;refine dZ 126 _ _ _ (by rfl) (by rfl) (by rfl) aJ M ?_;rintro e w8 ⟨tq,tc,rfl,aT,bh,o8,d8⟩;have R8:=R7.step G.1 d8;have aq:TrIn w8 o8:=(d8.room (k:=0) (G.less (by have:=(dF ah.out).1;omega))).1;have U:=JC.out _ _ _ R8.did;have bf:=R8.box.cell;have bg:=R8.box.free;refine ⟨_,rfl,?_⟩;refine hK.out _ _ U (fun _=>?_);simp only [Act.put,List.getElem_toArray,List.getElem_cons_succ,List.getElem_cons_zero,lsA,lsZ,lsS]
     refine wpAnyH_take (i:=8) (v:=.slice tq n tc) rfl (by kernel_rfl) (by kernel_rfl) (by kernel_rfl) (fun _ _ _ h=>h) (Or.inl ⟨by rfl,fun w9 I=>?_⟩) U ?_
     ·go_simp
     simp only [Act.put,List.getElem_toArray,List.getElem_cons_succ,List.getElem_cons_zero,lsA,lsZ,lsS];refine wpAnyH_take (i:=9) (v:=.int .i64 0) rfl (by kernel_rfl) (by kernel_rfl) (by kernel_rfl) (fun _ _ _ h=>h) (Or.inl ⟨by rfl,fun w9 I=>?_⟩) U ?_
     ·go_simp
     simp only [Act.put,List.getElem_toArray,List.getElem_cons_succ,List.getElem_cons_zero,lsA,lsZ,lsS];refine wpAnyH_ready (rs:=[10]) (by kernel_rfl) (by simp) ?_;refine AllReadyH.cons rfl (fun K hK=>?_) AllReadyH.nil;refine dZ 262 _ _ _ (by rfl) (by rfl) (by rfl) aI (mi tq n tc w8) ?_;rintro e bk ⟨rfl,rfl⟩;refine ⟨_,rfl,?_⟩;refine hK.out _ _ U (fun _=>?_);simp only [Act.put,List.getElem_toArray,List.getElem_cons_succ,List.getElem_cons_zero,lsA,lsZ,lsS];refine wpAnyH_ready (rs:=[11]) (by kernel_rfl) (by simp) ?_;refine AllReadyH.cons rfl (fun K hK=>?_) AllReadyH.nil;go_simp
     have RE:=R8.put aq aT aV;refine hK.out _ _ (JC.out _ _ _ RE.did) (fun _=>?_);refine wpAnyH_done (by kernel_rfl) ?_ _;exact ay.out _ _ _ _ RE
    -- REGION 9 ENDS
 case done=>
  rintro D zs W hD aO ⟨oc,qo,qc,aw,O,hd,_⟩ hK;obtain ⟨q0,q1,q2,q3,q4⟩:=JC.out _ _ _ hd;have p:TrRoom W oc 3000:=hd.room (T.out.less (by
   have h1:=gC ah.out L zs.length;have h2:=congrArg List.length aO;rw [List.length_map,List.length_range] at h2;omega))
  have qP:=aw.cell;have an:=aQ.out W _ oc qo qc _ hd (p.less (by omega)) O;have hE:iE g zs=val ys:=by
   rw [vy aO,← yS a4 ai.out.out]
   congr 1
   exact List.map_congr_left (fun j _=>(HG.out j).symm)
  have ad:zs.length=16*L:=by
   have h2:=congrArg List.length aO
   rwa [List.length_map,List.length_range] at h2
  rw [hE] at an;rw [ad] at hd;have HD:=aa hd;have az:=aa p;clear hE ad aO hd p O aw hg;go_wp2_with fail;refine an.mono ?_;rintro e W4 ⟨zo,zc,rfl,aG,hF,o4,d4⟩;have aH:=mi zo n zc W4;have aY:=aa aG;have bb:=aa hF;have aX:Hid (W4.heap[D]? = some (.deferred (some []))):=(d4.kept.block D (Array.getElem?_eq_some_iff.1 hK).1 (fun f=>by
   obtain ⟨c,ty,fr,h⟩:=ki az.out.1 f;rw [hK] at h;cases h)).trans hK
  have ba:=aa (HD.out.trans d4);clear an aG hF d4 hK q0 q1 q2 q3 q4 qP;go_wp2_with fail;refine aH.mono ?_;rintro e W5 ⟨rfl,rfl⟩;clear aH;go_wp2_with fail;refine ⟨by simp,.inl ⟨_,_,rfl,run_takeDeferred aX.out,?_⟩⟩;have tt:=oM (B:=W3.heap.size) hD aX.out rfl (.deferred none);exact ⟨_,results_tmp rfl _ _ _,zo,zc,rfl,⟨tt.row aY.out.1,tt.u64s aY.out.2⟩,fun b hb=>by have h1:=bb.out b hb;have h2:=HD.out.size;have h3:=ar.out.size;omega,o4,tt.did (Did.after ar.out ba.out) (by have h2:=kE.size;have h3:=ar.out.size;omega)⟩
 case stop=>
  rintro D c H W _ _ h _;exact h.elim

end Go.Proofs.YtkaojflnghfmcaaGreatDoor
