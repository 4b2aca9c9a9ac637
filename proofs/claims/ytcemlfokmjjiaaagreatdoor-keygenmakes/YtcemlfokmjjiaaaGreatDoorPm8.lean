/- Put together of: Prm3 Str1 Byt1 Scr1 Scr2 Scr3 Scr4 Gro1 Prm4. -/
import Derived.Test.YtcemlfokmjjiaaaGreatDoorPm5
import Derived.Laws.AppendOwn
import Derived.Laws.AppendOwnNone
import Derived.Laws.BytesArg
import Derived.Lib.Strings

namespace Go.Proofs.YtcemlfokmjjiaaaGreatDoor
set_option maxRecDepth 100000
set_option maxHeartbeats 4000000
open Go.RowKit

def IsTz (M s:Nat):Prop:=M/2^s%2=1∧∀ j,j<s→M/2^j%2=0

theorem IsTz.uniq {M s t:Nat} (h:IsTz M s) (g:IsTz M t):s=t:=by
 rcases Nat.lt_trichotomy s t with h1 | h1 | h1
 ·have:=g.2 s h1;have:=h.1;omega
 ·exact h1
 ·have:=h.2 t h1;have:=g.1;omega

theorem sH:∀ (n M:Nat),0<M→M<2^n→∃ s,IsTz M s∧s<n
 | 0,M,h,g=>by simp at g;omega
 | n+1,M,h,g=>by
  by_cases h1:M%2=1
  ·exact ⟨0,⟨by simpa using h1,fun j hj=>by omega⟩,by omega⟩
  ·have hd:0<M/2:=by omega
   obtain ⟨s,⟨hs,a⟩,hn⟩:=sH n (M/2) hd (by rw [Nat.pow_succ] at g;omega);refine ⟨s+1,⟨?_,fun j hj=>?_⟩,by omega⟩
   ·rw [Nat.pow_succ,Nat.mul_comm,← Nat.div_div_eq_div_mul];exact hs
   ·cases j with
    | zero=>simp;omega
    | succ j=>
     rw [Nat.pow_succ,Nat.mul_comm,← Nat.div_div_eq_div_mul];exact a j (by omega)

def iO (N A:Nat):Prop:=∃ s,IsTz (N-1) s∧(A^((N-1)/2^s)%N=1∨∃ i,i<s∧(A^((N-1)/2^s))^2^i%N=N-1)

def xm (N A:Nat):Nat:=if gQ N≠0 then gQ N else if A<2∨N-1≤A then 1 else 0

theorem l9 {X:Nat} (h:gQ X=0):3<X∧X%2=1∧∃ n,n≤130∧X<18446744073709551616^n:=by
 unfold gQ at h
 split at h
 ·omega
 ·rename_i h1
  split at h
  ·omega
  ·exact ⟨by omega,by omega,ak X,by omega,(ap X _).1 (leR _)⟩

theorem t8 (X B i:Nat):(B^2^i%X)*(B^2^i%X)%X=B^2^(i+1)%X:=by
 rw [← Nat.mul_mod,← Nat.pow_add]
 congr 2
 rw [Nat.pow_succ];omega

theorem r8 (ao bo:Option Addr) (L M cap aj:Nat) (xs ys:List Nat) (E:Nat) (R:Bool) (hE:E=xm (val xs) (val ys)) (hR:R=true↔E=0∧iO (val xs) (val ys)) (w:World)
  (hu:Row .u64 w (.slice ao L cap) xs) (hv:Row .u64 w (.slice bo M aj) ys) (ab:Digs xs) (ay:Digs ys) (aQ:L≤1000000) (bb:M≤1000000) :
  Calls Tryz.prog 89 #[.slice ao L cap,.slice bo M aj] w fun e w'=>e=.returned (.tuple #[.bool R,.int .i64 (E:Int)])∧Kept af w w':=by
 obtain ⟨_,_,_,e1,hL,_,_,_,_⟩:=hu.open;cases e1
 obtain ⟨_,_,_,e1,hM,_,_,_,_⟩:=hv.open;cases e1
 have hO:=uC ao L cap xs _ rfl w hu ab aQ;have JX:Hid (∀ W,Kept af w W→Calls Tryz.prog 17 #[.slice ao L cap] W fun r w'=>∃ v',r=.returned v'∧IsBig w' v' (val xs)∧(∀ b,v'.ownBlock=some b→W.heap.size≤b)∧Kept af W w'):=fun W k=>rOf _ xs W (hu.grew k) ab (by rw [hL.out];omega)
 have JY:Hid (∀ W,Kept af w W→Calls Tryz.prog 17 #[.slice bo M aj] W fun r w'=>∃ v',r=.returned v'∧IsBig w' v' (val ys)∧(∀ b,v'.ownBlock=some b→W.heap.size≤b)∧Kept af W w'):=fun W k=>rOf _ ys W (hv.grew k) ay (by rw [hM.out];omega)
 have HE:=aa hE;have HR:=aa hR;clear hu hv ab ay aQ bb hL hM hE hR;generalize val xs=X at *;generalize val ys=A at *;have HF:Hid (E≠0→R=false):=fun h=>by
  cases h2:R with
  | false=>rfl
  | true=>exact absurd (HR.out.1 h2).1 h
 obtain ⟨O,am⟩:∃ O,O=gQ X:=⟨_,rfl⟩
 rw [← am] at hO;have HO:=aa am;clear am;go_enter Tryz.func89,Tryz.ntmps89;go_wp2_with fail;refine hO.mono ?_;rintro e w1 ⟨rfl,k1⟩;clear hO;by_cases hO0:O=0
 ·subst hO0;obtain ⟨bi,bn,nw,a8,an⟩:=l9 HO.out.symm;have bk:aF X≤260:=by
   have:aF X≤2*nw:=(aI _ _).2 (by rw [Nat.pow_mul];exact an);omega
  have ak:Hid (E=if A<2∨X-1≤A then 1 else 0):=by
   unfold Hid;rw [HE.out,xm,← HO.out];simp
  obtain ⟨s,hs,a3⟩:=sH (64*nw) (X-1) (by omega) (by rw [Nat.pow_mul];exact Nat.lt_of_le_of_lt (Nat.sub_le _ _) an);have x:=aa hs;have bm:s≤10000:=by omega
  clear an a3 a8 hs;have h1:=JX.out _ k1;go_wp2_with fail;refine h1.mono ?_;rintro e w2 ⟨v2,rfl,aR,_,k2⟩;have K2:=k1.trans k2;have h2:=JY.out _ K2;clear h1 k1 k2;go_wp2_with fail;refine h2.mono ?_;rintro e w3 ⟨v3,rfl,aP,_,k3⟩;have K3:=K2.trans k3;have bX:=aR.grew k3;have h3:=bY 1 (by omega) w3;clear h2 aR k3 K2;go_wp2_with fail;refine h3.mono ?_;rintro e w4 ⟨v4,rfl,aJ,_,k4⟩;have K4:=K3.trans k4;have aq:=bX.grew k4;have az:=aP.grew k4;have h4:=kK v2 v4 X 1 w4 aq aJ (by omega);clear h3 bX aP aJ k4 K3;go_wp2_with fail;refine h4.mono ?_;rintro e w5 ⟨v5,rfl,aU,_,k5⟩;have K5:=K4.trans k5;have aB:=aq.grew k5;have aL:=az.grew k5;have h5:=bY 2 (by omega) w5
  clear h4 aq az k5 K4;go_wp2_with fail;refine h5.mono ?_;rintro e w6 ⟨v6,rfl,aC,_,k6⟩;have K6:=K5.trans k6;have aW:=aB.grew k6;have ai:=aL.grew k6;have aA:=aU.grew k6;have h6:=fw v3 v6 A 2 w6 ai aC;clear h5 aB aL aU aC k6 K5;by_cases hA2:A<2
  ·have HT:Hid (E=1):=by unfold Hid;rw [ak.out,if_pos (.inl hA2)]
   have p:Hid (R=false):=HF.out (by rw [HT.out];omega);rw [bu hA2] at h6;go_wp2_with fail;refine h6.mono ?_;rintro e w7 ⟨rfl,m7,rfl⟩;go_wp2_with fail;go_ret2;exact ⟨by rw [HT.out,p.out];rfl,K6.drewN m7⟩
  have br:=fF (show 2≤A by omega);generalize aH A 2=c6 at *;go_wp2_with fail;refine h6.mono ?_;rintro e bl ⟨rfl,m7,rfl⟩;have kd:=(ah af w6).drewN m7;obtain ⟨w7,aG⟩:∃ w7,w7=w6.drewN m7:=⟨_,rfl⟩
  rw [← aG] at kd ⊢;have K7:=K6.trans kd;have aK:=aW.grew kd;have ag:=ai.grew kd;have ae:=aA.grew kd;have h7:=fw v3 v5 A (X-1) w7 ag ae;clear h6 aW ai aA kd K6 aG;by_cases hAX:X-1≤A
  ·have HT:Hid (E=1):=by unfold Hid;rw [ak.out,if_pos (.inr hAX)]
   have p:Hid (R=false):=HF.out (by rw [HT.out];omega);have bj:=fF hAX;have be:0≤aH A (X-1):=by omega
   generalize aH A (X-1)=c7 at *;go_wp2_with fail;refine h7.mono ?_;rintro e w8 ⟨rfl,m8,rfl⟩;go_wp2_with fail;go_ret2;exact ⟨by rw [HT.out,p.out];rfl,K7.drewN m8⟩
  rw [bu (show A<X-1 by omega)] at h7;have l:Hid (E=0):=by unfold Hid;rw [ak.out,if_neg (by omega)]
  go_wp2_with fail;refine h7.mono ?_;rintro e bp ⟨rfl,m8,rfl⟩;have kd:=(ah af w7).drewN m8;obtain ⟨w8,aV⟩:∃ w8,w8=w7.drewN m8:=⟨_,rfl⟩
  rw [← aV] at kd ⊢;have K8:=K7.trans kd;have a2:=aa (aK.grew kd);have ba:=aa (ag.grew kd);have av:=aa (ae.grew kd);have a9:=aa K8;clear h7 aK ag ae kd K7 aV K8;go_wp2_with fail;go_loopw [10] (fun sv wr=>wr=w8∧∃ t:Nat,t≤s∧sv=.int .i64 (t:Int)) (fun sv _=>s-(intOf sv).toNat)
  case atStart=>exact ⟨rfl,0,Nat.zero_le _,rfl⟩
  case round=>
   obtain ⟨rfl,t,ht,rfl⟩:=hrel;have hB:=xV v5 (X-1) (t:Int) wr av.out (by omega);rw [eP] at hB;by_cases hts:t<s
   ·rw [x.out.2 t hts] at hB;go_wp2_with fail;refine hB.mono ?_;rintro e w9 ⟨rfl,rfl⟩;go_wp2_with fail;go_roundw
    case rel=>exact ⟨trivial,t+1,by omega,by go_num⟩
    case measure=>simp [intOf];omega
   ·obtain rfl:t=s:=by omega
    rw [x.out.1] at hB;go_wp2_with fail;refine hB.mono ?_;rintro e w9 ⟨rfl,rfl⟩;have h9:=Cv v5 (X-1) t w9 av.out (by omega);clear hB;go_wp2_with fail;refine h9.mono ?_;rintro e aY ⟨bc,rfl,d,_,F⟩;have n:=ba.out.grew F;have f:=a2.out.grew F;have C:=av.out.grew F;have aN:=a9.out.trans F;obtain ⟨D,hD⟩:∃ D,D=(X-1)/2^t:=⟨_,rfl⟩
    rw [← hD] at d;have ax:=aa hD;have aE:=zf v3 bc v2 A D X aY n d f (by omega) (by have:=aZ (show A≤X by omega);omega) (by omega);clear h9 F d n hD;go_wp2_with fail;refine aE.mono ?_;rintro e a1 ⟨bf,rfl,G,_,U⟩;have m:=aa (f.grew U);have o:=aa (C.grew U);have c:=aa (aN.trans U);have aT:=bY 1 (by omega) a1;clear aE U f C aN;go_wp2_with fail;refine aT.mono ?_;rintro e N ⟨aX,rfl,H,_,V⟩;have a:=G.grew V;have P:=fw bf aX _ 1 N a H;have aO:=c.out.trans V;clear aT G H;by_cases h1:A^D%X=1
    ·have HT:Hid (R=true):=HR.out.2 ⟨l.out,t,x.out,.inl (by rw [← ax.out];exact h1)⟩;rw [dy h1] at P;go_wp2_with fail;refine P.mono ?_;rintro e Z ⟨rfl,q,rfl⟩;go_wp2_with fail;go_ret2;exact ⟨by rw [l.out,HT.out];rfl,aO.drewN q⟩
    ·have al:=ia h1;have bd:=aa h1;generalize aH (A^D%X) 1=c12 at *;go_wp2_with fail;refine P.mono ?_;rintro e a4 ⟨rfl,q,rfl⟩;have kd:=V.trans ((ah af N).drewN q);obtain ⟨Z,I⟩:∃ Z,Z=N.drewN q:=⟨_,rfl⟩
     have g:=a.grew ((ah af N).drewN q);rw [← I] at kd g ⊢;have aw:=aa (m.out.grew kd);have au:=aa (o.out.grew kd);have J:=aa (c.out.trans kd);have ad:=aa g;clear P kd I a aO V g m o c;go_wp2_with fail;rw [show (c12 == 0)=false by simpa using al];go_loopw [11,12] (fun xv iv wr=>∃ i:Nat,i≤t∧iv=.int .i64 (i:Int)∧Hid (IsBig wr xv ((A^D)^2^i%X))∧Hid (∀ j,j<i→(A^D)^2^j%X≠X-1)∧Hid (Kept af Z wr)) (fun _ iv _=>t-(intOf iv).toNat)
     case atStart=>exact ⟨0,Nat.zero_le _,rfl,by unfold Hid;rw [Nat.pow_zero,Nat.pow_one];exact ad.out,fun j hj=>by omega,ah _ _⟩
     case round=>
      obtain ⟨i,hi,rfl,ap,B,v⟩:=hrel;by_cases hit:i<t
      ·have g1:(i:Int)<(t:Int):=by omega
       have T:=fw u11 v5 _ (X-1) wr ap.out (au.out.grew v.out);by_cases heq:(A^D)^2^i%X=X-1
       ·have HT:Hid (R=true):=HR.out.2 ⟨l.out,t,x.out,.inr ⟨i,hit,by rw [← ax.out];exact heq⟩⟩;rw [dy heq] at T;go_wp2_with fail;refine T.mono ?_;rintro e S ⟨rfl,Q,rfl⟩;go_wp2_with fail;go_ret2;exact ⟨by rw [l.out,HT.out];rfl,(J.out.trans v.out).drewN Q⟩
       ·have a0:=ia heq;have HA:Hid (∀ j,j<i+1→(A^D)^2^j%X≠X-1):=fun j hj=>by
         by_cases e:j=i
         ·subst e;exact heq
         ·exact B.out j (by omega)
        have bg:=aa (t8 X (A^D) i);have hlt:(A^D)^2^i%X<X:=Nat.mod_lt _ (by omega);generalize (A^D)^2^i%X=Y at *;have a6:aF (Y*Y)≤10000000:=by
         have h1:aF (Y*Y)≤aF (X*X):=aZ (Nat.mul_le_mul (by omega) (by omega));have h2:X*X<4294967296^(aF X+aF X):=by
          rw [Nat.pow_add];exact Nat.mul_lt_mul'' ((aI _ _).1 (leR _)) ((aI _ _).1 (leR _))
         have h3:=(aI _ _).2 h2;omega
        have ay:aF Y≤260:=by have:=aZ (show Y≤X by omega);omega
        generalize aH Y (X-1)=c14 at *;go_wp2_with fail;refine T.mono ?_;rintro e a5 ⟨rfl,Q,rfl⟩;have kd:=(ah af wr).drewN Q;obtain ⟨S,z⟩:∃ S,S=wr.drewN Q:=⟨_,rfl⟩
        rw [← z] at kd ⊢;have aM:=jN u11 u11 v2 Y Y X S (ap.out.grew kd) (ap.out.grew kd) (aw.out.grew (v.out.trans kd)) (by omega) (by omega) (by omega) a6;clear T z;go_wp2_with fail;refine aM.mono ?_;rintro e bq ⟨bh,rfl,y,_,aD⟩;have ar:=aa y;have ac:=aa (v.out.trans (kd.trans aD));clear aM y kd aD;go_wp2_with fail;go_roundw
        case rel=>exact ⟨i+1,by omega,by go_num,by unfold Hid;rw [← bg.out];exact ar.out,HA,ac⟩
        case measure=>simp [intOf];omega
      ·have g1:¬ (i:Int)<(t:Int):=by omega
       obtain rfl:i=t:=by omega
       have HT:Hid (R=false):=by
        unfold Hid;cases h2:R with
        | false=>rfl
        | true=>
         obtain ⟨_,s2,a7,aS⟩:=HR.out.1 h2;obtain rfl:=a7.uniq x.out;rw [← ax.out] at aS;rcases aS with h | ⟨j,hj,h⟩
         ·exact absurd h bd.out
         ·exact absurd h (B.out j hj)
       go_wp2_with fail;go_ret2;exact ⟨by rw [l.out,HT.out];rfl,J.out.trans v.out⟩
 ·have HT:Hid (E=O):=by
   unfold Hid;rw [HE.out,xm,← HO.out,if_pos hO0]
  have p:Hid (R=false):=HF.out (by rw [HT.out];exact hO0);have g0:¬ (O:Int)=0:=by omega
  go_wp2_with fail;go_ret2;exact ⟨by rw [HT.out,p.out];rfl,k1⟩

def tzN:Nat→Nat→Nat
 | 0,_=>0
 | f+1,M=>if M%2=1 then 0 else tzN f (M/2)+1

theorem oZ:∀ (f M:Nat),0<M→M<2^f→IsTz M (tzN f M)
 | 0,M,h,g=>by simp at g;omega
 | f+1,M,h,g=>by
  unfold tzN;by_cases h1:M%2=1
  ·rw [if_pos h1];exact ⟨by simpa using h1,fun j hj=>by omega⟩
  ·rw [if_neg h1];obtain ⟨hs,a⟩:=oZ f (M/2) (by omega) (by rw [Nat.pow_succ] at g;omega);refine ⟨?_,fun j hj=>?_⟩
   ·rw [Nat.pow_succ,Nat.mul_comm,← Nat.div_div_eq_div_mul];exact hs
   ·cases j with
    | zero=>simp;omega
    | succ j=>
     rw [Nat.pow_succ,Nat.mul_comm,← Nat.div_div_eq_div_mul];exact a j (by omega)

def eJ (N A:Nat):Bool:=decide (0<N-1) && (decide (A^((N-1)/2^tzN (N-1) (N-1))%N=1) || (List.range (tzN (N-1) (N-1))).any fun i=>decide ((A^((N-1)/2^tzN (N-1) (N-1)))^2^i%N=N-1))

theorem jG (N A:Nat):eJ N A=true↔iO N A:=by
 unfold eJ iO;rw [Bool.and_eq_true,decide_eq_true_iff,Bool.or_eq_true,decide_eq_true_iff,List.any_eq_true];constructor
 ·rintro ⟨h0,h⟩;refine ⟨_,oZ (N-1) (N-1) h0 Nat.lt_two_pow_self,?_⟩;rcases h with h | ⟨i,hi,h⟩
  ·exact .inl h
  ·exact .inr ⟨i,List.mem_range.1 hi,of_decide_eq_true h⟩
 ·rintro ⟨s,hs,h⟩;have h0:0<N-1:=by
   rcases Nat.eq_zero_or_pos (N-1) with e | e
   ·have:=hs.1;rw [e] at this;simp at this
   ·exact e
  obtain rfl:=hs.uniq (oZ (N-1) (N-1) h0 Nat.lt_two_pow_self);refine ⟨h0,?_⟩;rcases h with h | ⟨i,hi,h⟩
  ·exact .inl h
  ·exact .inr ⟨i,List.mem_range.2 hi,aQ h⟩

theorem Tryz.info8s:(Tryz.prog.info? 5).map (fun i=>(i.zero,i.size,i.bytes))=some (some (.int .u8 0),1,1):=by kernel_rfl

def OwnB (w:World) (base:Nat) (v:Value) (zs:List Nat):Prop:=OwnN .u8 5 w base v zs.length zs

theorem OwnB.row {w:World} {base:Nat} {v:Value} {zs:List Nat} (h:OwnB w base v zs):Row .u8 w v zs:=Row.of_own (base:=base) (e:=5) h

theorem OwnB.of {w:World} {base n:Nat} {v:Value} {zs:List Nat} (h:OwnN .u8 5 w base v n zs):OwnB w base v zs:=by
 have hn:zs.length=n:=by
  have:=h.1;rw [List.length_map] at this;omega
 unfold OwnB;rw [hn];exact h

theorem OwnB.kept {S:Nat→Prop} {w w':World} {base:Nat} {v:Value} {zs:List Nat} (h:OwnB w base v zs) (hk:Kept S w w') (hs:∀ b,base≤b→¬ S b):OwnB w' base v zs:=hk.own h fun b hb=>hs b (h.lt b hb).1

theorem OwnB.base {w:World} {base base':Nat} {v:Value} {zs:List Nat} (h:OwnB w base v zs) (hb:base'≤base):OwnB w base' v zs:=bg h fun k hk=>Nat.le_trans hb (h.lt k hk).1

theorem OwnB.nil (w:World) (base:Nat):OwnB w base (.slice none 0 0) []:=World.ownsRow_nil _ _ _ _

def n9:Value→Nat
 | .slice _ n _=>n
 | _=>0

theorem vz {k:IntKind} {w:World} {b off n cap s m:Nat} {zs:List Nat} (h:Row k w (.slice (some ⟨b,off,none⟩) n cap) zs) (h2:s+m≤n):Row k w (.slice (some ⟨b,off+s,none⟩) m (cap-s)) ((zs.drop s).take m):=by
 obtain ⟨ao,c,e',c1,c2,_,h4⟩:=h;cases e'
 have hl:((zs.drop s).take m).length=m:=by rw [List.length_take,List.length_drop];omega
 refine ⟨_,_,by rw [hl],by omega,by omega,(fun e=>by cases e),fun i hi=>?_⟩;rw [hl] at hi;obtain ⟨b',d,e',a⟩:=h4 (s+i) (by omega);cases e'
 refine ⟨b,off+s,rfl,?_⟩;rw [Nat.add_assoc,a,List.getD_eq_getElem?_getD,List.getD_eq_getElem?_getD,List.getElem?_take,if_pos hi,List.getElem?_drop]

theorem mN {k:IntKind} {w W:World} {ad:Addr} {n cap:Nat} {zs:List Nat} (h:Row k w (.slice (some ad) n cap) zs) (kk:Kept af w W):∀ j u,(zs.map fun z:Nat=>Value.int k (z:Int))[j]? = some u→W.cell? (ad.add j)=some u:=fun j u hj=>by
 obtain ⟨hlt,hv⟩:=List.getElem?_eq_some_iff.1 hj;rw [List.length_map] at hlt;obtain ⟨ao,d,e',c1,c2,_,h4⟩:=h;cases e'
 obtain ⟨b,off,e',a⟩:=h4 j hlt;cases e'
 have c:(⟨b,off,none⟩:Addr).add j=⟨b,off+j,none⟩:=by unfold Addr.add;split <;> simp_all
 rw [c,kk.cellN a,← hv,List.getElem_map,List.getD_eq_getElem?_getD,List.getElem?_eq_getElem hlt];rfl

theorem zK (k:IntKind) (zs:List Nat):∀ u ∈ (zs.map fun z:Nat=>Value.int k (z:Int)),u.oneCell'=true:=fun u hu=>by
 obtain ⟨x,_,rfl⟩:=List.mem_map.1 hu;rfl

theorem iL {w:World} {ops:Array Oper} {rest:List Oper} {o:Oper} {a:Act} {Q:Exit→Act→World→Prop} (c:o.guard=none) (s x:Operand)
  (ho:o.op=.call { callee:=.builtin .append,args:=#[s,x],argTypes:=#[22,22] })
  (base:Nat) (v:Value) (zs:List Nat) (hs:a.eval s=v) (hown:OwnB w base v zs) (u:Value) (hx:a.eval x=u) (bs:List Nat) (hr:Row .u8 w u bs) (hl:zs.length+bs.length≤100000000) (hbase:base≤w.heap.size)
  (h:∀ v' w',OwnB w' base v' (zs ++ bs)→w.grownBy w' v.ownBlock→wpList Tryz.prog ops Q rest (a.put o.dst v') w'):wpList Tryz.prog ops Q (o :: rest) a w:=by
 obtain ⟨i0,b,d,e,i⟩:=info_parts Tryz.info8s;obtain ⟨ao,n,cap,rfl,hL,hc,_,hn,f⟩:=hr.open;cases ao with
 | none=>
  obtain rfl:=hn rfl;obtain rfl:n=0:=by omega
  obtain rfl:bs=[]:=List.length_eq_zero_iff.1 hL.out;refine wpList_append_own_none c s x 22 ho base 5 i0 1 Tryz.underlying22 b v zs.length _ hs hown hx ?_;exact h v w (by rw [List.append_nil];exact hown) ⟨rfl,rfl,rfl,leR _,fun _ _ _=>rfl⟩
 | some ad=>
  have j:=hL.out;refine wpList_append_own w c s x 22 ho base 5 i0 (.int .u8 0) 1 1 Tryz.underlying22 b d e i rfl (by decide) v zs.length _ hs hown ad n cap (bs.map fun z:Nat=>Value.int .u8 (z:Int)) hx ?_ (mN hr (ah _ _)) (zK .u8 bs) (by unfold maxLen;omega) (by omega) hbase ?_
  ·rw [List.length_map,j,Nat.mul_one]
  ·intro v' w' g hg _;refine h v' w' (OwnB.of (n:=zs.length+n) ?_) hg;unfold OwnN;rw [List.map_append];exact g

def Scr (w:World) (b:Nat) (v:Value) (bs:List Nat):Prop:=
 w.heap[b]? = some (.cells #[v] 30 (0,0))∧Row .u8 w v bs∧(bs≠[]→∀ x,v.ownBlock=some x→x≠b)

theorem Scr.lt {w:World} {b:Nat} {v:Value} {bs:List Nat} (h:Scr w b v bs):b<w.heap.size:=lt_of_block h.1

theorem Scr.cell {w:World} {b:Nat} {v:Value} {bs:List Nat} (h:Scr w b v bs):w.cell? ⟨b,0,none⟩=some v:=by
 rw [cell_of_row w b 0 _ _ _ h.1];rfl

theorem Scr.free {w:World} {b:Nat} {v:Value} {bs:List Nat} (h:Scr w b v bs):w.frozen? ⟨b,0,none⟩=false:=by simp [World.frozen?,h.1]

theorem Scr.kept {S:Nat→Prop} {w w':World} {b:Nat} {v:Value} {bs:List Nat} (h:Scr w b v bs) (k:Kept S w w') (hb:¬ S b) (hs:bs≠[]→∀ x,v.ownBlock=some x→¬ S x):Scr w' b v bs:=
 ⟨(k.block b h.lt hb).trans h.1,h.2.1.kept' k hs,h.2.2⟩

theorem Scr.grew {w w':World} {b:Nat} {v:Value} {bs:List Nat} (h:Scr w b v bs) (k:Kept af w w'):Scr w' b v bs:=h.kept k (fun f=>f) (fun _ _ _ f=>f)

theorem Scr.put {w:World} {b:Nat} {v:Value} {bs:List Nat} (h:Scr w b v bs) (u:Value) (zs:List Nat) (hr:Row .u8 w u zs) (hs:zs≠[]→∀ x,u.ownBlock=some x→x≠b):Scr (w.setCell ⟨b,0,none⟩ u) b u zs:=by
 refine ⟨?_,hr.kept' ((ah (fun x=>x=b) w).setCell ⟨b,0,none⟩ (fun _=>rfl) u) hs,hs⟩;have:=heap_setCell_same w b 0 _ 30 u h.1;rw [this];rfl

def ScrAt (w:World) (b B:Nat) (bs:List Nat):Prop:=∃ v,Scr w b v bs∧b<B∧(bs≠[]→∀ x,v.ownBlock=some x→x<B)

theorem ScrAt.lt {w:World} {b B:Nat} {bs:List Nat} (h:ScrAt w b B bs):b<w.heap.size:=by
 obtain ⟨_,h,_⟩:=h;exact h.lt

theorem ScrAt.kept {S:Nat→Prop} {w w':World} {b B:Nat} {bs:List Nat} (h:ScrAt w b B bs) (k:Kept S w w') (hs:∀ x,x<B→¬ S x):ScrAt w' b B bs:=by
 obtain ⟨v,h,hb,hx⟩:=h;exact ⟨v,h.kept k (hs b hb) (fun e x hv=>hs x (hx e x hv)),hb,hx⟩

theorem ScrAt.grew {w w':World} {b B:Nat} {bs:List Nat} (h:ScrAt w b B bs) (k:Kept af w w'):ScrAt w' b B bs:=h.kept k fun _ _ f=>f

theorem uq {k:IntKind} {w:World} {ad:Addr} {L cap n:Nat} {zs:List Nat} (h:Row k w (.slice (some ad) L cap) zs) (hn:n≤L):Row k w (.slice (some (ad.add n)) (L-n) (cap-n)) (zs.drop n):=by
 obtain ⟨ao,a,e,c1,c2,_,h4⟩:=h;cases e
 have hl:(zs.drop n).length=zs.length-n:=List.length_drop ..;refine ⟨_,_,by rw [hl],by omega,by omega,(fun e=>by cases e),fun i hi=>?_⟩;rw [hl] at hi;obtain ⟨b,off,e,hc⟩:=h4 (n+i) (by omega);cases e
 refine ⟨b,off+n,?_,?_⟩
 ·unfold Addr.add
  split <;> simp_all
 ·rw [Nat.add_assoc,hc,List.getD_eq_getElem?_getD,List.getD_eq_getElem?_getD,List.getElem?_drop]

theorem pS (ad:Addr) (n L cap L' a:Nat):(Value.slice (some (ad.add n)) L cap).ownBlock=(Value.slice (some ad) L' a).ownBlock:=by
 show some (ad.add n).block=some ad.block
 unfold Addr.add
 split <;> rfl

def aY (bs:List Nat) (n:Int):Nat:=if n<0 then 1 else if (bs.length:Int)<n then 150 else 0
def cj (bs:List Nat) (n:Int):List Nat:=if aY bs n=0 then bs.take n.toNat else []
def bG (bs:List Nat) (n:Int):List Nat:=if n<0 then bs else bs.drop n.toNat

theorem mf (b B:Nat) (bs:List Nat) (n:Int) (w:World) (h:ScrAt w b B bs) (hl:bs.length≤1000001) :
  Calls Tryz.prog 43 #[.pointer (some ⟨b,0,none⟩),.int .i64 n] w fun e w'=>∃ u,e=.returned (.tuple #[u,.int .i64 (aY bs n:Nat)])∧OwnB w' w.heap.size u (cj bs n)∧ScrAt w' b B (bG bs n)∧Kept (fun x=>x=b) w w':=by
 obtain ⟨v,h,hB,o⟩:=h;have j:=aa o;clear o;have hc:=h.cell;have hf:=h.free;have H:=aa h;obtain ⟨ao,L,cap,rfl,hL,E,A,s,z⟩:=h.2.1.open;have F:L≤1000001:=by have:=hL.out;omega
 by_cases h1:n<0
 ·have e1:aY bs n=1:=by unfold aY;rw [if_pos h1]
  have e2:cj bs n=[]:=by unfold cj;rw [e1];rfl
  have e3:bG bs n=bs:=by unfold bG;rw [if_pos h1]
  rw [e1,e2,e3];clear e1 e2 e3 h;go_enter Tryz.func43,Tryz.ntmps43;go_wp2_with fail;go_ret2;exact ⟨_,rfl,OwnB.nil _ _,⟨_,H.out,hB,j.out⟩,ah _ _⟩
 ·obtain ⟨m,rfl⟩:=Int.eq_ofNat_of_zero_le (show 0≤n by omega);by_cases h2:L<m
  ·have e1:aY bs (m:Int)=150:=by unfold aY;rw [if_neg h1,if_pos (by have:=hL.out;omega)]
   have e2:cj bs (m:Int)=[]:=by unfold cj;rw [e1];rfl
   have e3:bG bs (m:Int)=[]:=by unfold bG;rw [if_neg h1];exact List.drop_eq_nil_of_le (by have:=hL.out;simp;omega)
   rw [e1,e2,e3];have g1:(m:Int) > (L:Int):=by omega
   have g2:(L:Int)<(m:Int):=by omega
   have HP:=aa (H.out.put (.slice none 0 0) [] (Row.nil _ _) (fun e=>absurd rfl e));have HK:=aa ((ah (fun x=>x=b) w).setCell ⟨b,0,none⟩ (fun _=>rfl) (.slice none 0 0));clear e1 e2 e3 h;go_enter Tryz.func43,Tryz.ntmps43;go_wp2_with fail;go_ret2;exact ⟨_,rfl,OwnB.nil _ _,⟨_,HP.out,hB,fun e=>absurd rfl e⟩,HK.out⟩
  ·have e1:aY bs (m:Int)=0:=by unfold aY;rw [if_neg h1,if_neg (by have:=hL.out;omega)]
   have e2:cj bs (m:Int)=bs.take m:=by unfold cj;rw [e1];rfl
   have e3:bG bs (m:Int)=bs.drop m:=by unfold bG;rw [if_neg h1];rfl
   rw [e1,e2,e3];have g1:¬ (m:Int) > (L:Int):=by omega
   have g2:¬ (L:Int)<(m:Int):=by omega
   have g3:(m:Int)≤(cap:Int):=by omega
   have g4:m≤cap:=by omega
   have g5:m≤L:=by omega
   have g6:(0:Int)≤(m:Int):=by omega
   have g7:(m:Int)≤(L:Int):=by omega
   have hcut:=h.2.1.cut (m:=m) (by rw [hL.out];exact g5);have f:=aa hcut;clear e1 e2 e3 h hcut;cases ao with
   | none=>
    obtain rfl:=s rfl;obtain rfl:L=0:=by omega
    obtain rfl:m=0:=by omega
    obtain rfl:bs=[]:=List.length_eq_zero_iff.1 hL.out;have HP:=aa (H.out.put (.slice none 0 0) [] (Row.nil _ _) (fun e=>absurd rfl e));have HK:=aa ((ah (fun x=>x=b) w).setCell ⟨b,0,none⟩ (fun _=>rfl) (.slice none 0 0));go_enter Tryz.func43,Tryz.ntmps43;go_wp2_with fail;go_ret2;exact ⟨_,rfl,OwnB.nil _ _,⟨_,HP.out,hB,fun e=>absurd rfl e⟩,HK.out⟩
   | some ad=>
    have a:=uq (n:=m) H.out.2.1 g5;have hlt:(bs.take m).length≤1000001:=by rw [List.length_take];omega
    have d:=aa a;clear a;go_enter Tryz.func43,Tryz.ntmps43;go_wp2_with (at_builtin;refine iL rfl _ _ rfl w.heap.size _ [] rfl (OwnB.nil _ _) _ rfl (bs.take m) f.out (by simp;omega) (leR _) ?_);intro v1 w1 g q;have k1:Kept af w w1:=(ah af w).grown q (fun k hk hlt=>by cases hk);have H1:=aa (H.out.grew k1);have D:=H1.out.cell;have G:=H1.out.free;have r:=aa g;have y:=aa k1;have C:b<w.heap.size:=H.out.lt;have p:=aa fun u=>g.kept ((ah (fun x=>x=b) w1).setCell ⟨b,0,none⟩ (fun _=>rfl) u) (fun x hx e=>by
     have e':x=b:=e;omega)
    have l:=aa fun u=>(k1.any (S:=fun x=>x=b)).next ((ah (fun x=>x=b) w1).setCell ⟨b,0,none⟩ (fun _=>rfl) u) (fun x _ h=>h)
    have c:=H.out.2.2;clear g q k1 hc hf H f r;by_cases hcmm:cap=m
    ·subst hcmm;obtain rfl:L=cap:=by omega
     have ed:bs.drop L=[]:=List.drop_eq_nil_of_le (by rw [hL.out];exact leR _);have HP:=aa (H1.out.put (.slice (some ad) 0 0) [] ⟨_,_,rfl,Nat.zero_le _,by unfold maxLen;omega,(fun _=>rfl),fun i hi=>absurd hi (by simp)⟩ (fun e=>absurd rfl e));have t:=aa ed;clear ed;go_wp2_with fail;go_ret2;exact ⟨_,rfl,p.out _,by rw [t.out];exact ⟨_,HP.out,hB,fun e=>absurd rfl e⟩,l.out _⟩
    ·have HP:=aa (H1.out.put _ _ (d.out.grew y.out) (fun e x hx=>c (fun e2=>e (by rw [e2];exact List.drop_nil)) x (by rw [← hx];exact (pS ad m _ _ _ _).symm)));clear c;go_wp2_with fail;go_ret2;exact ⟨_,rfl,p.out _,⟨_,HP.out,hB,fun e x hx=>j.out (fun e2=>e (by rw [e2];exact List.drop_nil)) x (by rw [← hx];exact (pS ad m _ _ _ _).symm)⟩,l.out _⟩

def gC (b:Nat) (w:World):Nat:=match w.cell? ⟨b,0,none⟩ with
 | some v=>n9 v
 | none=>0

theorem ScrAt.len {w:World} {b B:Nat} {bs:List Nat} (h:ScrAt w b B bs):gC b w=bs.length:=by
 obtain ⟨v,h,_⟩:=h;unfold gC;rw [h.cell];obtain ⟨_,_,e,_⟩:=h.2.1;rw [e];rfl

def dR (M t z:Nat):Nat→List Nat→Nat→Nat × Nat × List Nat
 | 0,_,_=>(0,0,[])
 | f+1,bs,k=>if bs.length<z then (0,0,[]) else if 0<bev (bs.take z)%2^t∧bev (bs.take z)%2^t<M then (bev (bs.take z)%2^t,k,bs.drop z) else dR M t z f (bs.drop z) (k+1)

def iT (M:Nat) (bs:List Nat):Nat × Nat × List Nat:=dR M (aw M) ((aw M+7)/8) (bs.length+1) bs 1

theorem pU (M t z:Nat) (hM:0<M):∀ f bs k,(dR M t z f bs k).1<M
 | 0,_,_=>hM
 | f+1,bs,k=>by
  unfold dR
  split
  ·exact hM
  ·split
   ·next h=>exact h.2
   ·exact pU M t z hM f _ _

theorem lf (M t z:Nat):∀ f bs k,∃ n,(dR M t z f bs k).2.2=bs.drop n
 | 0,bs,_=>⟨bs.length,by rw [List.drop_length];rfl⟩
 | f+1,bs,k=>by
  unfold dR
  split
  ·exact ⟨bs.length,by rw [List.drop_length]⟩
  ·split
   ·exact ⟨z,rfl⟩
   ·obtain ⟨n,hn⟩:=lf M t z f (bs.drop z) (k+1);exact ⟨z+n,by rw [hn,List.drop_drop]⟩

def cf (xs bs:List Nat):Nat:=if 300<xs.length then 2 else if val xs<2 then 1 else if (iT (val xs) bs).1=0 then 150 else 0
def dz (xs bs:List Nat):List Nat:=if cf xs bs=0 then ai (iT (val xs) bs).1 xs.length else []
def fq (xs bs:List Nat):Nat:=if cf xs bs=0 then (iT (val xs) bs).2.1 else 0
def dD (xs bs:List Nat):List Nat:=if 300<xs.length∨val xs<2 then bs else (iT (val xs) bs).2.2

theorem mP (b B:Nat) (bs xs:List Nat) (v:Value) (w:World) (h:ScrAt w b B bs) (hv:Row .u64 w v xs) (hd:Digs xs) (hl:xs.length≤1000000) (a:300<xs.length∨val xs<2) :
  Calls Tryz.prog 88 #[.pointer (some ⟨b,0,none⟩),v] w fun e w'=>e=.returned (.tuple #[.slice none 0 0,.int .i64 0,.int .i64 (cf xs bs:Nat)])∧ScrAt w' b B bs∧Kept af w w':=by
 have H:=aa h;have J:=aa fun W (k:Kept af w W)=>rOf v xs W (hv.grew k) hd (by omega)
 obtain ⟨ao,L,cap,rfl,hL,m,l,_,_⟩:=hv.open;have n:L≤1000000:=by have:=hL.out;omega
 clear h hv hd;by_cases h1:300<L
 ·have e1:cf xs bs=2:=by unfold cf;rw [hL.out,if_pos h1]
  rw [e1];have g1:(L:Int) > 300:=by omega
  have g2:(300:Int)<(L:Int):=by omega
  clear e1 a J;go_enter Tryz.func88,Tryz.ntmps88;go_wp2_with fail;refine bodyPost_ret (v:=.tuple #[.slice none 0 0,.int .i64 0,.int .i64 2]) (by simp [results,Tryz.results88,go_sem]) rfl ?_;exact ⟨rfl,H.out,ah _ _⟩
 ·have hV:val xs<2:=by
   have:=hL.out;rcases a with h | h
   ·omega
   ·exact h
  have e1:cf xs bs=1:=by unfold cf;rw [hL.out,if_neg h1,if_pos hV]
  rw [e1];have g1:¬ (L:Int) > 300:=by omega
  have g2:¬ (300:Int)<(L:Int):=by omega
  generalize val xs=V at *;have c:aH V 2=-1:=bu hV;have HC:=aa c;clear e1 a hV c;go_enter Tryz.func88,Tryz.ntmps88;go_wp2_with fail;refine (J.out _ (ah _ _)).mono ?_;rintro e w1 ⟨v1,rfl,f,f1,k1⟩;have J2:=aa (bY 2 (by omega) w1);have i:=aa f;have j:=aa k1;clear f f1 k1 J;go_wp2_with fail;refine J2.out.mono ?_;rintro e w2 ⟨v2,rfl,d,f2,k2⟩;have J3:=fw v1 v2 V 2 w2 (i.out.grew k2) d;rw [HC.out] at J3;have J3:=aa J3;have g:=aa (j.out.trans k2);clear d f2 k2 J2;go_wp2_with fail;refine J3.out.mono ?_;rintro e w3 ⟨rfl,nn,rfl⟩;clear J3;go_wp2_with fail
  refine bodyPost_ret (v:=.tuple #[.slice none 0 0,.int .i64 0,.int .i64 1]) (by simp [results,Tryz.results88,go_sem]) rfl ?_;exact ⟨rfl,H.out.grew (g.out.drewN nn),g.out.drewN nn⟩

theorem im {M t z f k:Nat} {bs:List Nat} (hf:bs.length<f) (hz:0<z):(bs.length<z∧dR M t z f bs k=(0,0,[])) ∨
  (¬ bs.length<z∧(0<bev (bs.take z)%2^t∧bev (bs.take z)%2^t<M)∧dR M t z f bs k=(bev (bs.take z)%2^t,k,bs.drop z)) ∨
  (¬ bs.length<z∧¬ (0<bev (bs.take z)%2^t∧bev (bs.take z)%2^t<M)∧∃ g,(bs.drop z).length<g∧dR M t z f bs k=dR M t z g (bs.drop z) (k+1)):=by
 obtain ⟨g,rfl⟩:∃ g,f=g+1:=⟨f-1,by omega⟩
 by_cases h1:bs.length<z
 ·exact .inl ⟨h1,by rw [dR,if_pos h1]⟩
 ·by_cases h2:0<bev (bs.take z)%2^t∧bev (bs.take z)%2^t<M
  ·exact .inr (.inl ⟨h1,h2,by rw [dR,if_neg h1,if_pos h2]⟩)
  ·exact .inr (.inr ⟨h1,h2,g,by rw [List.length_drop];omega,by rw [dR,if_neg h1,if_neg h2]⟩)

theorem nI (b B:Nat) (bs xs:List Nat) (v:Value) (w:World) (h:ScrAt w b B bs) (az:Digs bs 256) (bb:bs.length≤1000000) (hv:Row .u64 w v xs) (hd:Digs xs) (hl:xs.length≤300) (aO:2≤val xs) :
  Calls Tryz.prog 88 #[.pointer (some ⟨b,0,none⟩),v] w fun e w'=>∃ u,e=.returned (.tuple #[u,.int .i64 (fq xs bs:Nat),.int .i64 (cf xs bs:Nat)])∧Row .u64 w' u (dz xs bs)∧(∀ x,u.ownBlock=some x→w.heap.size≤x)∧ScrAt w' b B (dD xs bs)∧Kept (fun x=>x=b) w w':=by
 have H:=aa h;have J:=aa fun W (k:Kept af w W)=>rOf v xs W (hv.grew k) hd (by omega)
 obtain ⟨ao,L,cap,rfl,hL,aZ,aQ,_,_⟩:=hv.open;have a5:L≤300:=by have:=hL.out;omega
 obtain ⟨M,hM⟩:∃ M,M=val xs:=⟨_,rfl⟩
 rw [← hM] at aO;have bc:aF M≤600:=by rw [hM];have:=yg hd;omega
 obtain ⟨t,ht⟩:∃ t,t=aw M:=⟨_,rfl⟩
 have a4:t≤19200:=by rw [ht,hM];have:=nJ hd;omega
 have bd:0<t:=by
  have:=(aB M 0).1;rw [ht];rcases Nat.eq_zero_or_pos (aw M) with e | e
  ·have:=this (by omega);omega
  ·exact e
 obtain ⟨z,hz⟩:∃ z,z=(t+7)/8:=⟨_,rfl⟩
 have al:0<z:=by omega
 have a0:z≤2401:=by omega
 have HE:Hid (cf xs bs=if (iT M bs).1=0 then 150 else 0):=by unfold Hid cf;rw [if_neg (by omega),← hM,if_neg (by omega)]
 have HX:Hid (dz xs bs=if cf xs bs=0 then ai (iT M bs).1 L else []):=by unfold Hid dz;rw [← hM,hL.out]
 have am:Hid (fq xs bs=if cf xs bs=0 then (iT M bs).2.1 else 0):=by unfold Hid fq;rw [← hM]
 have HR:Hid (dD xs bs=(iT M bs).2.2):=by unfold Hid dD;rw [← hM,if_neg (by omega)]
 have HN:Hid (iT M bs=dR M t z (bs.length+1) bs 1):=by unfold Hid iT;rw [hz,ht]
 rw [← hM] at J;have HT:=aa ht;have Z:aH M 2=0∨aH M 2=1:=by
  rcases Nat.lt_or_ge 2 M with h | h
  ·exact .inr (dx h)
  ·obtain rfl:M=2:=by omega
   exact .inl (by unfold aH;simp)
 have aJ:¬ aH M 2<0:=by omega
 have aS:=aa az;have a9:b<w.heap.size:=h.lt;have be:((t:Int)+7).tdiv 8=(z:Int):=by rw [Int.tdiv_eq_ediv_of_nonneg (by omega)];omega
 have aW:((t:Int)+7)/8=(z:Int):=by omega
 clear h hv hd az hM ht hz Z;go_enter Tryz.func88,Tryz.ntmps88;go_wp2_with fail;refine (J.out _ (ah _ _)).mono ?_;rintro e w1 ⟨v1,rfl,ap,f1,k1⟩;have J2:=aa (bY 2 (by omega) w1);have I:=aa ap;have aj:=aa f1;have ak:=aa k1;clear ap f1 k1 J;go_wp2_with fail;refine J2.out.mono ?_;rintro e w2 ⟨v2,rfl,aC,f2,k2⟩;have J3:=aa (fw v1 v2 M 2 w2 (I.out.grew k2) aC);have ar:=aa (ak.out.trans k2);have aL:=aa (I.out.grew k2);clear aC f2 k2 J2 I ak;generalize aH M 2=cm at *;go_wp2_with fail;refine J3.out.mono ?_;rintro e w3 ⟨rfl,nn,rfl⟩;have ab:=aa (aL.out.grew ((ah af w2).drewN nn));have F:=aa (ar.out.drewN nn)
 generalize w2.drewN nn=w3 at *;clear J3 aL ar;have J4:=iV v1 M w3 ab.out;rw [← HT.out] at J4;have J4:=aa J4;go_wp2_with fail;refine J4.out.mono ?_;rintro e w4 ⟨rfl,rfl⟩;clear J4;obtain ⟨s1,a6,a7,rfl,_⟩:=ab.out.length;go_wp2_with fail;go_loopw [9] (fun kv wr=>∃ (k f:Nat) (rest:List Nat),Hid (rest.length<f)∧Hid (iT M bs=dR M t z f rest k)∧kv=.int .i64 (k:Int)∧k≤1000001∧Hid (k+rest.length≤bs.length+1)∧Hid (Digs rest 256)∧Hid (ScrAt wr b B rest)∧Hid (Kept (fun x=>x=b) w4 wr)) (fun _ wr=>gC b wr)
 case atStart=>exact ⟨1,bs.length+1,bs,by unfold Hid;omega,HN.out,rfl,by omega,by unfold Hid;omega,aS.out,H.out.grew F.out,ah _ _⟩
 case round=>
  clear H;obtain ⟨k,f,rest,Hf,i,rfl,hk,s,HD,HS,HK⟩:=hrel;have ba:rest.length≤1000001:=by have:=s.out;omega
  have a2:w.heap.size≤w4.heap.size:=F.out.size;have a8:w4.heap.size≤wr.heap.size:=HK.out.size;have aK:Hid (Kept (fun x=>x=b) w wr):=(F.out.any (S:=fun x=>x=b)).trans HK.out;have aP:=aa (ab.out.kept HK.out (fun x hx e=>by
   have e':x=b:=e;have:=aj.out x hx;omega))
  by_cases h1:rest.length<z
  ·have j:dR M t z f rest k=(0,0,[]):=by
    rcases im (M:=M) (t:=t) (k:=k) Hf.out al with ⟨_,e⟩ | ⟨h,_⟩ | ⟨h,_⟩
    ·exact e
    ·exact absurd h1 h
    ·exact absurd h1 h
   have e1:cf xs bs=150:=by rw [HE.out,i.out,j];rfl
   have e2:dz xs bs=[]:=by rw [HX.out,e1];rfl
   have e3:fq xs bs=0:=by rw [am.out,e1];rfl
   have e4:dD xs bs=[]:=by rw [HR.out,i.out,j]
   have J5:=mf b B rest (z:Int) wr HS.out (by omega);rw [show aY rest (z:Int)=150 by unfold aY;rw [if_neg (by omega),if_pos (by omega)],show bG rest (z:Int)=[] by unfold bG;rw [if_neg (by omega)];exact List.drop_eq_nil_of_le (by simp;omega)] at J5;have J5:=aa J5;have ac:=aa e1;have ad:=aa e2;have G:=aa e3;have V:=aa e4;clear e1 e2 e3 e4 j;go_wp2_with fail;refine J5.out.mono ?_;rintro e w5 ⟨u,rfl,A,y,k5⟩;have Y:=aa y;have P:=aa (aK.out.trans k5);clear A y k5 J5;go_wp2_with fail;refine bodyPost_ret (v:=.tuple #[.slice none 0 0,.int .i64 0,.int .i64 150]) (by simp [results,Tryz.results88,go_sem]) rfl ?_
   rw [ac.out,ad.out,G.out,V.out];exact ⟨_,rfl,Row.nil _ _,(fun x hx=>by cases hx),Y.out,P.out⟩
  ·have J5:=mf b B rest (z:Int) wr HS.out (by omega);have T:aY rest (z:Int)=0:=by unfold aY;rw [if_neg (by omega),if_neg (by omega)]
   rw [T,show cj rest (z:Int)=rest.take z by unfold cj;rw [T];rfl,show bG rest (z:Int)=rest.drop z by unfold bG;rw [if_neg (by omega)];rfl] at J5;have J5:=aa J5;clear T;have aG:Hid (Digs (rest.take z) 256):=fun d hd=>HD.out d (List.mem_of_mem_take hd)
   have aI:Hid (Digs (rest.drop z) 256):=fun d hd=>HD.out d (List.mem_of_mem_drop hd)
   have hlt:(rest.take z).length≤2401:=by rw [List.length_take];omega
   have a3:=vy aG.out;have j:=im (M:=M) (t:=t) (k:=k) Hf.out al;obtain ⟨X,hX⟩:∃ X,X=bev (rest.take z)%2^t:=⟨_,rfl⟩
   rw [← hX] at j;have E:=aa j;have aR:=aa hX;have hp:0<2^t:=Nat.pow_pos (by omega);clear j hX;go_wp2_with fail;refine J5.out.mono ?_;rintro e w5 ⟨u,rfl,A,y,k5⟩;have Y:=aa y;have P:=aa (aK.out.trans k5);have l:=aa k5;have J6:=aa (ku u _ w5 A.row aG.out (by omega));clear A y k5 J5;go_wp2_with fail;refine J6.out.mono ?_;rintro e w6 ⟨v6,rfl,ag,f6,k6⟩;have aM:=aa ag;have au:=aa k6;have J7:=aa (bY 1 (by omega) w6);clear ag f6 k6 J6;go_wp2_with fail;refine J7.out.mono ?_;rintro e w7 ⟨v7,rfl,aE,f7,k7⟩;have aA:=aa (au.out.trans k7);have p:=aa (aM.out.grew k7)
   have J8:=aa (uS v7 1 t w7 aE (by rw [show aF 1=1 by decide];omega) (by omega));clear aE f7 k7 J7 aM au;go_wp2_with fail;refine J8.out.mono ?_;rintro e w8 ⟨v8,rfl,N,f8,k8⟩;rw [Nat.mul_one] at N;have aD:=aa (aA.out.trans k8);have J9:=mn v6 v8 (bev (rest.take z)) (2^t) w8 (p.out.grew k8) N hp (by omega);rw [← aR.out] at J9;have J9:=aa J9;clear N f8 k8 J8 p aA;go_wp2_with fail;refine J9.out.mono ?_;rintro e w9 ⟨v9,rfl,U,f9,k9⟩;obtain ⟨xo,xn,xc,rfl,ay,_⟩:=U.length;have D:=aa (aD.out.trans k9);have av:=aa U;have aT:=aa ((aP.out.kept l.out (fun x hx e=>by
    have e':x=b:=e;have:=aj.out x hx;omega)).grew D.out)
   have C:=aa (Y.out.grew D.out);have n:=aa (P.out.next D.out (fun x _ f=>f.elim));have r:Hid (Kept (fun x=>x=b) w4 w9):=(HK.out.trans l.out).next D.out (fun x _ f=>f.elim)
   have a1:w.heap.size≤w9.heap.size:=n.out.size;clear U f9 k9 J9 aD;by_cases hX0:X=0
   ·have gx:xn=0:=by rw [ay.out,hX0];rfl
    subst gx;obtain ⟨g,hg,a⟩:∃ g,(rest.drop z).length<g∧dR M t z f rest k=dR M t z g (rest.drop z) (k+1):=by
     rcases E.out with ⟨h,_⟩ | ⟨_,h,_⟩ | ⟨_,_,h⟩
     ·exact absurd h h1
     ·omega
     ·exact h
    have HG:=aa hg;have R:=aa a;clear hg a;go_wp2_with fail;go_roundw
    case rel=>exact ⟨k+1,g,rest.drop z,HG.out,i.out.trans R.out,by go_num,by have:=s.out;omega,by unfold Hid;have:=s.out;rw [List.length_drop];omega,aI.out,C.out,r.out⟩
    case measure=>rw [C.out.len,HS.out.len,List.length_drop];omega
   ·have gx:0<xn:=by rw [ay.out];exact iY (by omega)
    have aU:(0:Int)<(xn:Int):=by omega
    have aX:(xn:Int) > 0:=aU;have c:=fw _ _ X M w9 av.out aT.out;by_cases hXM:X<M
    ·rw [bu hXM] at c;have c:=aa c;have a:dR M t z f rest k=(X,k,rest.drop z):=by
      rcases E.out with ⟨h,_⟩ | ⟨_,_,h⟩ | ⟨_,h,_⟩
      ·exact absurd h h1
      ·exact h
      ·exact absurd ⟨by omega,hXM⟩ h
     have e1:cf xs bs=0:=by rw [HE.out,i.out,a];exact if_neg hX0
     have e2:dz xs bs=ai X L:=by rw [HX.out,e1,i.out,a];rfl
     have e3:fq xs bs=k:=by rw [am.out,e1,i.out,a];rfl
     have e4:dD xs bs=rest.drop z:=by rw [HR.out,i.out,a]
     have ac:=aa e1;have ad:=aa e2;have G:=aa e3;have V:=aa e4;clear e1 e2 e3 e4 a;go_wp2_with fail;refine c.out.mono ?_;rintro e aN ⟨rfl,nn,rfl⟩;have o:=aa ((ah af w9).drewN nn);have an:=aa (kQ _ X L (w9.drewN nn) (av.out.grew o.out) (by omega));generalize w9.drewN nn=wa at *;clear c;go_wp2_with fail;refine an.out.mono ?_;rintro e wb ⟨aV,rfl,q,ae,ax⟩;have Q:=aa q;have O:=aa ae;have m:=aa (o.out.trans ax);clear q ae ax an;go_wp2_with fail;refine bodyPost_ret (v:=.tuple #[aV,.int .i64 (k:Int),.int .i64 0]) (by simp [results,Tryz.results88,go_sem]) rfl ?_;rw [ac.out,ad.out,G.out,V.out]
     exact ⟨_,rfl,Q.out,(fun x hx=>by rw [O.out] at hx;cases hx;have:=o.out.size;omega),C.out.grew m.out,n.out.next m.out (fun x _ f=>f.elim)⟩
    ·have aQ:¬ aH X M<0:=by
      rcases Nat.lt_or_ge M X with h | h
      ·rw [dx h];omega
      ·obtain rfl:X=M:=by omega
       unfold aH;simp
     obtain ⟨g,hg,a⟩:∃ g,(rest.drop z).length<g∧dR M t z f rest k=dR M t z g (rest.drop z) (k+1):=by
      rcases E.out with ⟨h,_⟩ | ⟨_,h,_⟩ | ⟨_,_,h⟩
      ·exact absurd h h1
      ·omega
      ·exact h
     generalize aH X M=cx at *;have c:=aa c;have HG:=aa hg;have R:=aa a;clear hg a;go_wp2_with fail;refine c.out.mono ?_;rintro e aN ⟨rfl,nn,rfl⟩;have aq:=aa (C.out.grew ((ah af w9).drewN nn));have o:=aa (r.out.drewN nn);generalize w9.drewN nn=wa at *;clear c;go_wp2_with fail;go_roundw
     case rel=>exact ⟨k+1,g,rest.drop z,HG.out,i.out.trans R.out,by go_num,by have:=s.out;omega,by unfold Hid;have:=s.out;rw [List.length_drop];omega,aI.out,aq.out,o.out⟩
     case measure=>rw [aq.out.len,HS.out.len,List.length_drop];omega

def Grows (w:World) (base:Nat) (out:Value) (L k:Nat) (A:Nat→Option Addr) (C:Nat→Nat) (f:Nat→List Nat):Prop:=
 w.ownsRow base 32 1 out k ((List.range k).map fun j=>.slice (A j) L (C j))∧∀ j,j<k→Row .u64 w (.slice (A j) L (C j)) (f j)∧∀ b,(Value.slice (A j) L (C j)).ownBlock=some b→out.ownBlock≠some b

theorem Grows.nil (w:World) (base L:Nat) (A:Nat→Option Addr) (C:Nat→Nat) (f:Nat→List Nat):Grows w base (.slice none 0 0) L 0 A C f:=⟨World.ownsRow_nil _ _ _ _,fun j hj=>by omega⟩

theorem Grows.grew {w w':World} {base:Nat} {a:Value} {L k:Nat} {A:Nat→Option Addr} {C:Nat→Nat} {f:Nat→List Nat} (h:Grows w base a L k A C f) (kk:Kept af w w'):Grows w' base a L k A C f:=
 ⟨kk.own h.1 (fun _ _ q=>q),fun j hj=>⟨(h.2 j hj).1.grew kk,(h.2 j hj).2⟩⟩

theorem eZ {W w4:World} {a v:Value} {zs:List Nat} {g n cap:Nat} (hr:Row .u64 W v zs) (h:zs≠[]) (c:∀ b,v.ownBlock=some b→a.ownBlock≠some b) (hg:W.grownBy w4 a.ownBlock) (d:a.ownBlock=some g∨g=W.heap.size) :
  Row .u64 w4 v zs∧∀ b,v.ownBlock=some b→(Value.slice (some ⟨g,0,none⟩) n cap).ownBlock≠some b:=by
 have kk:Kept (fun b=>a.ownBlock=some b) W w4:=(ah _ W).grown hg (fun b e _=>e);refine ⟨hr.kept' kk (fun _ b hb f=>c b hb f),fun b hb e=>?_⟩;have e':g=b:=by simpa [Value.ownBlock] using e
 subst e';rcases d with h1 | h1
 ·exact c g hb h1
 ·have:=hr.lt h g hb;omega

theorem Grows.base {w:World} {base base':Nat} {a:Value} {L k:Nat} {A:Nat→Option Addr} {C:Nat→Nat} {f:Nat→List Nat} (h:Grows w base a L k A C f) (hb:base'≤base):Grows w base' a L k A C f:=
 ⟨bg h.1 (fun b e=>Nat.le_trans hb (World.ownsRow.lt h.1 b e).1),h.2⟩

theorem Grows.push {W w4:World} {base:Nat} {a:Value} {L k g cap:Nat} {A:Nat→Option Addr} {C:Nat→Nat} {f:Nat→List Nat} {yo:Option Addr} {yc:Nat} (h:Grows W base a L k A C f) (hf:∀ j,f j≠[])
  (hy:Row .u64 W (.slice yo L yc) (f k)) (d:∀ b,(Value.slice yo L yc).ownBlock=some b→a.ownBlock≠some b)
  (ho:w4.ownsRow base 32 1 (.slice (some ⟨g,0,none⟩) (k+1) cap) (k+1) (((List.range k).map fun j=>.slice (A j) L (C j)) ++ [.slice yo L yc])) (hg:W.grownBy w4 a.ownBlock) (c:a.ownBlock=some g∨g=W.heap.size) :
  Grows w4 base (.slice (some ⟨g,0,none⟩) (k+1) cap) L (k+1) (fun j=>if j=k then yo else A j) (fun j=>if j=k then yc else C j) f:=by
 refine ⟨?_,fun j hj=>?_⟩
 ·rw [List.range_succ,List.map_append,List.map_cons,List.map_nil];dsimp only;rw [if_pos rfl,if_pos rfl];have e:((List.range k).map fun j=>Value.slice (if j=k then yo else A j) L (if j=k then yc else C j))=(List.range k).map fun j=>Value.slice (A j) L (C j):=by
   refine List.map_congr_left (fun j hj=>?_);have:j<k:=List.mem_range.1 hj;rw [if_neg (by omega),if_neg (by omega)]
  rw [e];exact ho
 ·by_cases e:j=k
  ·subst e;dsimp only;rw [if_pos rfl,if_pos rfl];exact eZ hy (hf _) d hg c
  ·dsimp only;rw [if_neg e,if_neg e];exact eZ (h.2 j (by omega)).1 (hf j) (h.2 j (by omega)).2 hg c

theorem Tryz.infoN32:(Tryz.prog.info? 32).map (fun i=>(i.zero,i.size,i.bytes))=some (some (.slice none 0 0),1,24):=by kernel_rfl

theorem lv {w:World} {v:Value} {zs:List Nat} {L:Nat} (h:Row .u64 w v zs) (hl:zs.length=L):∃ po pc,v=.slice po L pc:=by
 obtain ⟨po,pn,pc,rfl,a,_⟩:=h.open;have:pn=L:=a.out.symm.trans hl;subst this;exact ⟨po,pc,rfl⟩

theorem li (M t z:Nat) (hz:0<z):∀ f bs k,(dR M t z f bs k).1≠0→(dR M t z f bs k).2.2.length<bs.length
 | 0,_,_,h=>absurd rfl h
 | f+1,bs,k,h=>by
  unfold dR at *
  split at h
  ·exact absurd rfl h
  ·next h1=>
   rw [if_neg h1]
   split at h
   ·next h2=>rw [if_pos h2];simp only [List.length_drop];omega
   ·next h2=>
    rw [if_neg h2];have:=li M t z hz f (bs.drop z) (k+1) h;rw [List.length_drop] at this;omega

theorem tw {M:Nat} (h:0<M):0<aw M:=by
 rcases Nat.eq_zero_or_pos (aw M) with e | e
 ·have:=(aB M 0).1 (by omega);simp at this;omega
 ·exact e

theorem nX {xs bs:List Nat} (h:cf xs bs=0):(dD xs bs).length<bs.length:=by
 unfold cf at h;unfold dD
 split at h
 ·omega
 ·next h1=>
  split at h
  ·omega
  ·next h2=>
   split at h
   ·omega
   ·next h3=>
    rw [if_neg (by omega)];exact li _ _ _ (by have:=tw (show 0<val xs by omega);omega) _ _ _ h3

theorem j7 (xs bs:List Nat):∃ n,dD xs bs=bs.drop n:=by
 unfold dD
 split
 ·exact ⟨0,by simp⟩
 ·exact lf _ _ _ _ _ _

theorem qj {xs bs:List Nat} (h:cf xs bs=0):(dz xs bs).length=xs.length:=by
 unfold dz;rw [if_pos h,ag]

theorem qx {xs bs:List Nat} (hd:Digs xs) (h:cf xs bs=0):0<val (dz xs bs)∧val (dz xs bs)<val xs:=by
 have hb:=h;unfold cf at h
 split at h
 ·omega
 ·split at h
  ·omega
  ·next h2=>
   split at h
   ·omega
   ·next h3=>
    have hlt:=pU (val xs) (aw (val xs)) ((aw (val xs)+7)/8) (by omega) (bs.length+1) bs 1;have a:(iT (val xs) bs).1<val xs:=hlt;unfold dz;rw [if_pos hb,al,am (Nat.lt_trans a (ar (by omega) hd))];exact ⟨by omega,a⟩

def iZ (xs:List Nat) (k:Nat):Nat→Nat→List Nat→List (List Nat)→Bool × List (List Nat) × Nat × List Nat
 | 0,_,bs,_=>(false,[],150,bs)
 | f+1,i,bs,acc=>if k≤i then (true,acc,0,bs) else if cf xs bs≠0 then (false,[],cf xs bs,dD xs bs) else
  if val (dz xs bs)=1∨val (dz xs bs)=val xs-1 then iZ xs k f i (dD xs bs) acc else
  if eJ (val xs) (val (dz xs bs)) then iZ xs k f (i+1) (dD xs bs) (acc ++ [dz xs bs]) else (false,acc ++ [dz xs bs],0,dD xs bs)

def eE (xs:List Nat) (k:Int) (bs:List Nat):Bool × List (List Nat) × Nat × List Nat:=
 if gQ (val xs)≠0 then (false,[],gQ (val xs),bs) else if k<0∨100<k then (false,[],1,bs) else iZ xs k.toNat (bs.length+1) 0 bs []

theorem dJ {w:World} {b B:Nat} {bs xs:List Nat} {v:Value} (h:ScrAt w b B bs) (hr:Row .u64 w v xs) (d:xs≠[]):∀ x,v.ownBlock=some x→x≠b:=by
 obtain ⟨sv,⟨h1,c,_⟩,_⟩:=h;intro x hx e;subst e;obtain ⟨ao,cap,rfl,_,_,_,h4⟩:=hr;obtain ⟨b2,off,rfl,hc⟩:=h4 0 (by cases xs with
  | nil=>exact absurd rfl d
  | cons a l=>simp)
 have e:b2=x:=by simpa [Value.ownBlock] using hx
 subst e;have hs:∃ so sn sc,sv=.slice so sn sc:=by
  obtain ⟨so,sc,e,_⟩:=c;exact ⟨so,_,sc,e⟩
 obtain ⟨so,sn,sc,rfl⟩:=hs;simp only [World.cell?,h1] at hc;cases off with
 | zero=>simp at hc
 | succ o=>simp at hc

end Go.Proofs.YtcemlfokmjjiaaaGreatDoor
