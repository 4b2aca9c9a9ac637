/- Put together of: Prm5 Key7 Key8 Key9 Law19b Src1 Seq2. -/
import Derived.Test.YtcemlfokmjjiaaaGreatDoorPp5
import Derived.RangeFuncWrites
import Derived.RangeFuncNested
import Derived.RangeFuncBound
import Derived.RangeFuncCalls
import Derived.RangeFuncLeaves
import Derived.RangeFuncBox
import Derived.Shelf.Abstract
import Derived.Shelf.RegionOpen
import Derived.OwnWalkIn
import Derived.TacticsInMore
import Derived.LoopNIn
import Derived.LoopIn

namespace Go.Proofs.YtcemlfokmjjiaaaGreatDoor
set_option maxRecDepth 100000
set_option maxHeartbeats 4000000
open Go.RowKit

def Bases (w:World) (base:Nat) (out:Value) (L:Nat) (acc:List (List Nat)):Prop:=(∀ x ∈ acc,x.length=L)∧∃ A C,Grows w base out L acc.length A C (fun j=>acc.getD j (List.replicate L 0))

theorem Bases.grew {w w':World} {base:Nat} {b:Value} {L:Nat} {a:List (List Nat)} (h:Bases w base b L a) (k:Kept ae w w'):Bases w' base b L a:=by
 obtain ⟨h1,A,C,h2⟩:=h;exact ⟨h1,A,C,h2.grew k⟩

theorem Bases.nil (w:World) (base L:Nat):Bases w base (.slice none 0 0) L []:=⟨(fun x hx=>by cases hx),fun _=>none,fun _=>0,Grows.nil _ _ _ _ _ _⟩

theorem Bases.base {w:World} {base base':Nat} {b:Value} {L:Nat} {a:List (List Nat)} (h:Bases w base b L a) (hb:base'≤base):Bases w base' b L a:=by
 obtain ⟨h1,A,C,h2⟩:=h;exact ⟨h1,A,C,h2.base hb⟩

theorem Bases.kept {w w':World} {base b:Nat} {a:Value} {L:Nat} {c:List (List Nat)} (h:Bases w base a L c) (k:Kept (fun x=>x=b) w w') (hb:b<base) (f:∀ v zs,Row .u64 w v zs→zs≠[]→∀ x,v.ownBlock=some x→x≠b):Bases w' base a L c:=by
 obtain ⟨h1,A,C,h2,h3⟩:=h;refine ⟨h1,A,C,k.own h2 (fun x hx e=>?_),fun j hj=>⟨?_,(h3 j hj).2⟩⟩
 ·have:=(World.ownsRow.lt h2 x hx).1;omega
 ·refine (h3 j hj).1.kept' k (fun d x hx e=>?_);exact f _ _ (h3 j hj).1 d x hx e

theorem Bases.push {W w4:World} {base:Nat} {c:Value} {L g cap:Nat} {a:List (List Nat)} {x:List Nat} {yo:Option Addr} {yc:Nat} (hL:0<L) (h1:∀ x ∈ a,x.length=L) {A:Nat→Option Addr} {C:Nat→Nat} (h2:Grows W base c L a.length A C (fun j=>a.getD j (List.replicate L 0))) (hx:x.length=L)
  (hy:Row .u64 W (.slice yo L yc) x) (i:∀ b,(Value.slice yo L yc).ownBlock=some b→c.ownBlock≠some b)
  (ho:w4.ownsRow base 32 1 (.slice (some ⟨g,0,none⟩) (a.length+1) cap) (a.length+1) (((List.range a.length).map fun j=>.slice (A j) L (C j)) ++ [.slice yo L yc])) (hg:W.grownBy w4 c.ownBlock) (f:c.ownBlock=some g∨g=W.heap.size) :
  Bases w4 base (.slice (some ⟨g,0,none⟩) (a.length+1) cap) L (a ++ [x]):=by
 refine ⟨fun z hz=>?_,fun j=>if j=a.length then yo else A j,fun j=>if j=a.length then yc else C j,?_⟩
 ·rcases List.mem_append.1 hz with h | h
  ·exact h1 z h
  ·rw [List.mem_singleton.1 h];exact hx
 ·have d:∀ z:List Nat,z.length=L→z≠[]:=fun z hz e=>by subst e;simp at hz;omega
  have k:Grows W base c L a.length A C (fun j=>(a ++ [x]).getD j (List.replicate L 0)):=⟨h2.1,fun j hj=>by
   have:=h2.2 j hj;dsimp only;rw [List.getD_eq_getElem?_getD,List.getElem?_append_left hj,← List.getD_eq_getElem?_getD];exact this⟩
  have:=k.push (fun j=>d _ (by
   rw [List.getD_eq_getElem?_getD];by_cases hj:j<(a ++ [x]).length
   ·rw [List.getElem?_eq_getElem hj,Option.getD_some];rcases List.mem_append.1 (List.getElem_mem hj) with h | h
    ·exact h1 _ h
    ·rw [List.mem_singleton.1 h];exact hx
   ·rw [List.getElem?_eq_none (by omega),Option.getD_none,List.length_replicate])) (yo:=yo) (yc:=yc) (by
    rw [List.getD_eq_getElem?_getD,List.getElem?_append_right (leR _),Nat.sub_self];exact hy) i ho hg f
  rw [List.length_append];exact this

theorem qK (b B:Nat) (bs xs:List Nat) (ao:Option Addr) (L cap:Nat) (k:Int) (r1:Bool) (r2:List (List Nat)) (r3:Nat) (r4:List Nat) (o:dY xs k bs=(r1,r2,r3,r4)) (bz:-9223372036854775808≤k) (br:k≤9223372036854775807) (w:World) (h:ScrAt w b B bs) (hB:B≤w.heap.size) (aP:Digs bs 256) (bC:bs.length≤1000000) (hu:Row .u64 w (.slice ao L cap) xs) (M:Digs xs) (aG:L≤1000000) :
  Calls Tryz.prog 45 #[.pointer (some ⟨b,0,none⟩),.slice ao L cap,.int .i64 k] w fun e w'=>∃ v',e=.returned (.tuple #[.bool r1,v',.int .i64 (r3:Int)])∧Bases w' w.heap.size v' L r2∧ScrAt w' b B r4∧Kept (fun x=>x=b) w w':=by
 obtain ⟨i0,bk,bw,bp,bl⟩:=info_parts Tryz.infoN32;obtain ⟨_,_,_,e1,hL,_,_,_,_⟩:=hu.open;cases e1
 have hO:=sk ao L cap xs _ rfl w hu M aG;have JX:Hid (∀ W,Kept ae w W→Calls Tryz.prog 17 #[.slice ao L cap] W fun r w'=>∃ v',r=.returned v'∧IsBig w' v' (val xs)∧(∀ b,v'.ownBlock=some b→W.heap.size≤b)∧Kept ae W w'):=fun W k=>rOf _ xs W (hu.grew k) M (by rw [hL.out];omega)
 have HS:=aa h;have bb:b<w.heap.size:=h.lt;unfold dY at o;have HL:=aa hL;clear h hL;obtain ⟨O,aL⟩:∃ O,O=fX (val xs):=⟨_,rfl⟩
 rw [← aL] at hO o;have HO:=aa aL;clear aL;by_cases hO0:O=0
 ·subst hO0;rw [if_neg (by omega)] at o;by_cases hkb:k<0∨100<k
  ·rw [if_pos hkb] at o;cases o
   by_cases hkn:k<0
   ·clear hkb;go_enter Tryz.func45,Tryz.ntmps45;go_wp2_with fail;refine hO.mono ?_;rintro e w1 ⟨rfl,k1⟩;clear hO;go_wp2_with fail;exact bodyPost_ret (v:=.tuple #[.bool false,.slice none 0 0,.int .i64 1]) (by simp [results,Tryz.results45,go_sem]) rfl ⟨_,rfl,Bases.nil _ _ _,HS.out.grew k1,k1.any⟩
   ·have bH:100<k:=by omega
    clear hkb;go_enter Tryz.func45,Tryz.ntmps45;go_wp2_with fail;refine hO.mono ?_;rintro e w1 ⟨rfl,k1⟩;clear hO;go_wp2_with fail;exact bodyPost_ret (v:=.tuple #[.bool false,.slice none 0 0,.int .i64 1]) (by simp [results,Tryz.results45,go_sem]) rfl ⟨_,rfl,Bases.nil _ _ _,HS.out.grew k1,k1.any⟩
  ·rw [if_neg hkb] at o;obtain ⟨n,rfl⟩:∃ n:Nat,k=(n:Int):=⟨k.toNat,by omega⟩
   rw [Int.toNat_natCast] at o;have hn:n≤100:=by omega
   obtain ⟨aS,bc,nw,be,a1⟩:=lG HO.out.symm;have bf:aI (val xs)≤260:=by
    have:aI (val xs)≤2*nw:=(aK _ _).2 (by rw [Nat.pow_mul];exact a1);omega
   have aq:xs≠[]:=fun e=>by subst e;simp [val] at aS
   have bh:0<L:=by
    rcases Nat.eq_zero_or_pos L with e | e
    ·exact absurd (List.length_eq_zero_iff.1 (HL.out.out.trans e)) aq
    ·exact e
   have HU:=aa hu;have a4:=aa (gG HS.out hu aq);clear hkb bz br a1 be hu;obtain ⟨X,hX⟩:∃ X,X=val xs:=⟨_,rfl⟩
   rw [← hX] at JX aS bc bf;have H:=aa hX;clear hX;go_enter Tryz.func45,Tryz.ntmps45;go_wp2_with fail;refine hO.mono ?_;rintro e w1 ⟨rfl,k1⟩;have h1:=JX.out _ k1;clear hO;go_wp2_with fail;refine h1.mono ?_;rintro e w2 ⟨v2,rfl,aO,bt,k2⟩;have K2:=k1.trans k2;have h2:=cN 1 (by omega) w2;clear h1;go_wp2_with fail;refine h2.mono ?_;rintro e w3 ⟨v3,rfl,aR,_,k3⟩;have K3:=K2.trans k3;have h3:=vw v2 v3 X 1 w3 (aO.grew k3) aR (by omega);clear h2;go_wp2_with fail;refine h3.mono ?_;rintro e w4 ⟨v4,rfl,aN,a5,k4⟩;have q:=aa (K3.trans k4);have a8:=aa aN;have U:Hid (∀ x,v4.ownBlock=some x→w.heap.size≤x):=fun x hx=>Nat.le_trans K3.size (a5 x hx)
   have bx:=aa (HS.out.grew q.out);have a0:=aa (HU.out.grew q.out);have bu:=aa o;have bd:=aa aP;clear h3 aO aR aN bt a5 k1 k2 k3 k4 K2 K3 o aP HU HS JX;go_wp2_with fail;go_loopw [12,13] (fun ov iv wr=>∃ (cs:List Nat) (l:List (List Nat)) (f:Nat),iv=.int .i64 (l.length:Int)∧l.length≤n∧cs.length<f∧cs.length≤bs.length∧Hid (Digs cs 256)∧Hid (ScrAt wr b B cs)∧Hid (Bases wr w4.heap.size ov L l)∧Hid (Kept (fun x=>x=b) w4 wr)∧Hid (iF xs n f l.length cs l=(r1,r2,r3,r4))) (fun _ _ wr=>fF b wr)
   case atStart=>exact ⟨bs,[],bs.length+1,rfl,Nat.zero_le _,by omega,leR _,bd.out,bx.out,Bases.nil _ _ _,ah _ _,bu.out⟩
   case round=>
    obtain ⟨cs,l,f,rfl,bq,bE,bG,ax,N,am,D,heq⟩:=hrel;obtain ⟨g,rfl⟩:∃ g,f=g+1:=⟨f-1,by omega⟩
    have E:=aa N.out.len;have c:=heq.out;unfold iF at c;generalize Z:l.length=i at *;have d:=aa Z;clear Z;by_cases hin:n≤i
    ·obtain rfl:i=n:=by omega
     rw [if_pos (leR _)] at c;simp only [Prod.mk.injEq] at c;obtain ⟨rfl,rfl,rfl,rfl⟩:=c;go_wp2_with fail;go_ret3
     exact ⟨_,rfl,am.out.base q.out.size,N.out,q.out.any.trans D.out⟩
    ·have bI:(i:Int)<(n:Int):=by omega
     rw [if_neg hin] at c;have hr:Row .u64 wr (.slice ao L cap) xs:=a0.out.kept' D.out (fun _ x hx e=>a4.out x hx e);by_cases h300:L≤300
     ·by_cases hE0:bj xs cs=0
      ·have p:=mL b B cs xs (.slice ao L cap) wr N.out ax.out (by omega) hr M (by rw [HL.out.out];exact h300) (by rw [← H.out];omega);rw [hE0] at p;rw [if_neg (by omega)] at c;have hlt:=mP hE0;have ac:=oX hE0;have aY:Digs (de xs cs):=by unfold de;rw [if_pos hE0];exact ai (by omega) _ _
       have az:Hid (Digs (dg xs cs) 256):=by
        obtain ⟨m,hm⟩:=jU xs cs;unfold Hid;rw [hm];exact ax.out.drop m
       rw [HL.out.out] at ac;have ab:=pC M hE0;rw [← H.out] at ab;generalize eZ xs cs=kk at *;generalize de xs cs=x at *;generalize dg xs cs=cs' at *;clear hE0 heq;obtain ⟨a,ha⟩:∃ a,a=val x:=⟨_,rfl⟩
       rw [← ha] at ab c;rw [← H.out] at c;have aH:=aa ha;clear ha;have aZ:IsBig wr v4 (X-1):=a8.out.kept D.out (fun y hy e=>by have:=U.out y hy;omega);have av:Hid (∀ y,u12.ownBlock=some y→y<wr.heap.size):=fun y hy=>by
        obtain ⟨_,_,_,bm⟩:=am.out;exact (World.ownsRow.lt bm.1 y hy).2
       have aD:=aa (fun v zs (h:Row .u64 wr v zs) aq=>gG N.out h aq);go_wp2_with fail;refine p.mono ?_;rintro e w5 ⟨u,rfl,R,aW,T,k5⟩;obtain ⟨uo,uc,rfl⟩:=kF R ac;have an:=aa (am.out.kept k5 (Nat.lt_of_lt_of_le bb q.out.size) aD.out);have a7:IsBig w5 v4 (X-1):=aZ.kept k5 (fun y hy e=>by have:=U.out y hy;omega);have K5:=aa (D.out.trans k5);have al:=aa T;have a6:=aa R;have h5:=rOf _ x w5 R aY (by rw [ac];omega);rw [← aH.out] at h5;clear p aZ T R hr am N D;go_wp2_with fail;refine h5.mono ?_;rintro e w6 ⟨v6,rfl,aM,_,k6⟩;have h6:=cN 1 (by omega) w6;clear h5;go_wp2_with fail;refine h6.mono ?_
       rintro e w7 ⟨v7,rfl,aX,_,k7⟩;have h7:=gV v6 v7 a 1 w7 (aM.grew k7) aX;have ap:=k6.trans k7;have ar:=a7.grew ap;have J:=aM.grew k7;clear h6 aM aX k6 k7 a7;by_cases ha1:a=1
       ·rw [if_pos (.inl ha1)] at c;rw [dn ha1] at h7;go_wp2_with fail;refine h7.mono ?_;rintro e w8 ⟨rfl,m8,rfl⟩;have kd:=ap.trans ((ah ae w7).drewN m8);have s:=al.out.grew kd;have ak:=an.out.grew kd;have F:=K5.out.trans kd.any;clear h7 ar J;go_wp2_with fail;go_roundw
        case rel=>exact ⟨cs',l,g,by rw [d.out],by rw [d.out];omega,by omega,by omega,az.out,s,ak,F,by unfold Hid;rw [d.out];exact c⟩
        case measure=>rw [E.out,(show ScrAt _ b B cs' from s).len];exact hlt
       ·have bv:=ik ha1;generalize aJ a 1=c7 at *;go_wp2_with fail;refine h7.mono ?_;rintro e bF ⟨rfl,m8,rfl⟩;have kd:=(ah ae w7).drewN m8;obtain ⟨w8,aV⟩:∃ w8,w8=w7.drewN m8:=⟨_,rfl⟩
        rw [← aV] at kd ⊢;have aw:=ap.trans kd;have h8:=gV v6 v4 a (X-1) w8 (J.grew kd) (ar.grew kd);clear h7 ar J kd ap aV;by_cases haX:a=X-1
        ·rw [if_pos (.inr haX)] at c;rw [dn haX] at h8;go_wp2_with fail;refine h8.mono ?_;rintro e w9 ⟨rfl,m9,rfl⟩;have kd:=aw.trans ((ah ae w8).drewN m9);have s:=al.out.grew kd;have ak:=an.out.grew kd;have F:=K5.out.trans kd.any;clear h8;go_wp2_with fail;go_roundw
         case rel=>exact ⟨cs',l,g,by rw [d.out],by rw [d.out];omega,by omega,by omega,az.out,s,ak,F,by unfold Hid;rw [d.out];exact c⟩
         case measure=>rw [E.out,(show ScrAt _ b B cs' from s).len];exact hlt
        ·have bn:=ik haX;rw [if_neg (by omega)] at c;generalize aJ a (X-1)=c8 at *;go_wp2_with fail;refine h8.mono ?_;rintro e bA ⟨rfl,m9,rfl⟩;have kd:=aw.trans ((ah ae w8).drewN m9);obtain ⟨w9,a2⟩:∃ w9,w9=w8.drewN m9:=⟨_,rfl⟩
         rw [← a2] at kd ⊢;have s:=al.out.grew kd;have ak:=an.out.grew kd;have F:=K5.out.trans kd.any;have RU:=a6.out.grew kd;have aj:∀ y,(Value.slice uo L uc).ownBlock=some y→wr.heap.size≤y:=aW;clear h8 a2 al an K5 a6 aw;obtain ⟨Z,GA,GC,hG⟩:=ak;have aA:=hG.grew ((ah ae w9).alloc (.cells #[.slice uo L uc] 32));have I:=World.ownsRow.lt hG.1;have aB:=aA.1;have bi:w4.heap.size≤w9.heap.size:=F.size;have ba:wr.heap.size≤w9.heap.size:=Nat.le_trans k5.size kd.size;have z:∀ y,u12.ownBlock=some y→y<wr.heap.size:=av.out;have ay:=aa (RU.grew ((ah ae w9).alloc (.cells #[.slice uo L uc] 32)));have au:x≠[]:=fun e=>by subst e;simp at ac;omega
         rw [d.out] at aB;have ag:=aa F;have V:=aa s;have q7:(c7 == 0)=false:=by simpa using bv
         have q8:(c8 == 0)=false:=by simpa using bn
         rw [q7];go_wp2_with (at_builtin;refine wpList_append_lies _ rfl _ _ 86 rfl w4.heap.size 32 i0 _ 1 24 Tryz.underlying86 bk bw bp bl rfl (by omega) _ _ _ rfl aB ⟨w9.heap.size,0,none⟩ 1 1 [.slice uo L uc] rfl rfl (df w9 _ _) (by simp [Value.oneCell']) (by omega) (by unfold maxLen;omega) (by omega) (by simp;omega) (w9.heap.size+1) (by simp) ?_;intro gg c' S ad hg aT bD);have Y:(w9.alloc (.cells #[.slice uo L uc] 32)).grownBy S u12.ownBlock:=hg;have G:u12.ownBlock=some gg∨gg=(w9.alloc (.cells #[.slice uo L uc] 32)).heap.size:=(show u12.ownBlock=some gg∨gg=w9.heap.size+1 from aT).imp id (fun h=>by simpa using h)
         have t:S.ownsRow w4.heap.size 32 1 (.slice (some ⟨gg,0,none⟩) (l.length+1) c') (l.length+1) (((List.range l.length).map fun j=>.slice (GA j) L (GC j)) ++ [.slice uo L uc]):=by rw [d.out];exact ad
         have aF:∀ y,(Value.slice uo L uc).ownBlock=some y→u12.ownBlock≠some y:=fun y hy e=>by have:=aj y hy;have:=z y e;omega
         have A:=aa (Bases.push bh Z aA ac ay.out aF t Y G);have aC:Hid (Kept (fun x=>x=b) w4 S):=(ag.out.alloc _).grown Y (fun y hy hlt=>by have:=(I y hy).1;omega);have af:Kept (fun y=>u12.ownBlock=some y) (w9.alloc (.cells #[.slice uo L uc] 32)) S:=(ah _ _).grown Y (fun y e _=>e);have C:=aa ((V.out.grew ((ah ae w9).alloc (.cells #[.slice uo L uc] 32))).kept af (fun y hy e=>by have:=(I y e).1;have:=q.out.size;omega));have aQ:Row .u64 S (.slice ao L cap) xs:=a0.out.kept' aC.out (fun _ y hy e=>a4.out y hy e);have aU:=(eJ (n:=i+1) (cap:=c') ay.out au aF Y G).1
         have Q:=rj ao uo L L cap uc xs x 0 (et X a) (by
          unfold vJ;rw [← H.out,← aH.out,show fX X=0 by rw [H.out];exact HO.out.symm,if_neg (by omega),if_neg (by omega)]) (by rw [je,← H.out,← aH.out];simp) S aQ aU M aY aG aG
         clear hg aT ad Y G t aF af aQ aU aA hG I aB RU s F ay ag V aj z Z;cases hsb:et X a
         ·rw [hsb] at Q;rw [hsb,if_neg (by decide)] at c;simp only [Prod.mk.injEq] at c;obtain ⟨rfl,rfl,rfl,rfl⟩:=c;refine Q.mono ?_;rintro e a9 ⟨rfl,P⟩;have BF:=aa ((A.out.grew P).base q.out.size);have SF:=aa (C.out.grew P);have KF:=aa (q.out.any.trans (aC.out.trans P.any));clear Q;go_wp2_with fail;go_ret3
          refine ⟨_,rfl,?_,SF.out,KF.out⟩;have:=BF.out;rw [d.out] at this;exact this
         ·rw [hsb] at Q;rw [hsb,if_pos rfl] at c;refine Q.mono ?_;rintro e a9 ⟨rfl,P⟩;have BF:=aa (A.out.grew P);have SF:=aa (C.out.grew P);have KF:=aa (aC.out.trans P.any);have HQ:=aa c;rw [d.out] at BF;clear Q c;go_wp2_with fail;go_roundw
          case rel=>exact ⟨cs',l ++ [x],g,by rw [List.length_append,d.out];go_num,by rw [List.length_append,d.out];simp;omega,by omega,by omega,az.out,SF.out,BF.out,KF.out,by unfold Hid;rw [List.length_append,d.out];exact HQ.out⟩
          case measure=>rw [E.out,SF.out.len];exact hlt
      ·have p:=mL b B cs xs (.slice ao L cap) wr N.out ax.out (by omega) hr M (by rw [HL.out.out];exact h300) (by rw [← H.out];omega);rw [if_pos hE0] at c;simp only [Prod.mk.injEq] at c;obtain ⟨rfl,rfl,rfl,rfl⟩:=c;have bB:¬ ((bj xs cs:Nat):Int)=0:=by omega
       generalize hEE:bj xs cs=EE at *;have bo:=aa hEE;clear hEE;generalize eZ xs cs=kk at *;go_wp2_with fail;refine p.mono ?_;rintro e w5 ⟨u,rfl,R,aW,T,k5⟩;obtain ⟨uo,un,uc,rfl,_,_,_,_,_⟩:=R.open;have aE:=aa (q.out.any.trans (D.out.trans k5));clear p;go_wp2_with fail;go_ret3
       exact ⟨_,by rw [bo.out];rfl,Bases.nil _ _ _,T,aE.out⟩
     ·have p:=mS b B cs xs (.slice ao L cap) wr N.out hr M (by rw [HL.out.out];omega) (.inl (by rw [HL.out.out];omega));have a3:bj xs cs=2:=by unfold bj;rw [if_pos (by rw [HL.out.out];omega)]
      have bg:dg xs cs=cs:=by unfold dg;rw [if_pos (.inl (by rw [HL.out.out];omega))]
      rw [if_pos (by omega),a3,bg] at c;simp only [Prod.mk.injEq] at c;obtain ⟨rfl,rfl,rfl,rfl⟩:=c;rw [a3] at p;go_wp2_with fail;refine p.mono ?_;rintro e w5 ⟨rfl,T,k5⟩;have aE:=aa (q.out.any.trans (D.out.trans k5.any));clear p;go_wp2_with fail;go_ret3
      exact ⟨_,rfl,Bases.nil _ _ _,T,aE.out⟩
 ·rw [if_pos hO0] at o;simp only [Prod.mk.injEq] at o;obtain ⟨rfl,rfl,rfl,rfl⟩:=o;have g0:¬ (O:Int)=0:=by omega
  go_enter Tryz.func45,Tryz.ntmps45;go_wp2_with fail;refine hO.mono ?_;rintro e w1 ⟨rfl,k1⟩;clear hO;go_wp2_with fail;exact bodyPost_ret (v:=.tuple #[.bool false,.slice none 0 0,.int .i64 (O:Int)]) (by simp [results,Tryz.results45,go_sem]) rfl ⟨_,rfl,Bases.nil _ _ _,HS.out.grew k1,k1.any⟩

theorem Bases.slice {w:World} {base:Nat} {b:Value} {L:Nat} {a:List (List Nat)} (h:Bases w base b L a):∃ ao cap,b=.slice ao a.length cap:=by
 obtain ⟨_,A,C,h2,_⟩:=h;exact aV h2

def a8 (bs:List Nat) (n:Nat):List Nat:=ag (dr (bs.take ((n+7)/8)) n) ((n+63)/64)

def DrawR (n e r:Nat):Nat→List Nat→Nat→List Nat × Nat × Nat × List Nat→Prop
 | 0,bs,_,o=>o=([],0,180,bs)
 | f+1,bs,k,o=>(bs.length<(n+7)/8∧o=([],0,150,[])) ∨
  (¬ bs.length<(n+7)/8∧¬ fT (dr (bs.take ((n+7)/8)) n) e∧DrawR n e r f (bs.drop ((n+7)/8)) (k+1) o) ∨
  (¬ bs.length<(n+7)/8∧fT (dr (bs.take ((n+7)/8)) n) e∧∃ is ls E rest,dY (a8 bs n) (r:Int) (bs.drop ((n+7)/8))=(is,ls,E,rest) ∧
   ((E≠0∧o=([],0,E,rest))∨(E=0∧is=true∧o=(a8 bs n,k,0,rest))∨(E=0∧is=false∧DrawR n e r f rest (k+1) o)))

theorem DrawR.uniq {n e r:Nat}:∀ {f:Nat} {bs:List Nat} {k:Nat} {o o':List Nat × Nat × Nat × List Nat},DrawR n e r f bs k o→DrawR n e r f bs k o'→o=o'
 | 0,_,_,_,_,h,h'=>h.trans h'.symm
 | f+1,bs,k,o,o',h,h'=>by
  rcases h with ⟨h1,h2⟩ | ⟨h1,h2,h3⟩ | ⟨h1,h2,is,ls,E,rest,h3,h4⟩
  ·rcases h' with ⟨g1,g2⟩ | ⟨g1,_⟩ | ⟨g1,_⟩
   ·exact h2.trans g2.symm
   ·exact absurd h1 g1
   ·exact absurd h1 g1
  ·rcases h' with ⟨g1,_⟩ | ⟨_,_,g3⟩ | ⟨_,g2,_⟩
   ·exact absurd g1 h1
   ·exact DrawR.uniq h3 g3
   ·exact absurd g2 h2
  ·rcases h' with ⟨g1,_⟩ | ⟨_,g2,_⟩ | ⟨_,_,is',ls',E',rest',g3,g4⟩
   ·exact absurd g1 h1
   ·exact absurd h2 g2
   ·rw [h3] at g3;obtain ⟨rfl,rfl,rfl,rfl⟩:is=is'∧ls=ls'∧E=E'∧rest=rest':=by simpa using g3
    rcases h4 with ⟨a1,a2⟩ | ⟨a1,a2,a3⟩ | ⟨a1,a2,a3⟩
    ·rcases g4 with ⟨_,b2⟩ | ⟨b1,_⟩ | ⟨b1,_⟩
     ·exact a2.trans b2.symm
     ·exact absurd b1 a1
     ·exact absurd b1 a1
    ·rcases g4 with ⟨b1,_⟩ | ⟨_,_,b3⟩ | ⟨_,b2,_⟩
     ·exact absurd a1 b1
     ·exact a3.trans b3.symm
     ·rw [a2] at b2;cases b2
    ·rcases g4 with ⟨b1,_⟩ | ⟨_,b2,_⟩ | ⟨_,_,b3⟩
     ·exact absurd a1 b1
     ·rw [a2] at b2;cases b2
     ·exact DrawR.uniq a3 b3

theorem iX (xs:List Nat) (k:Nat):∀ f i bs a,∃ m,(iF xs k f i bs a).2.2.2=bs.drop m
 | 0,_,bs,_=>⟨0,rfl⟩
 | f+1,i,bs,a=>by
  obtain ⟨m,hm⟩:=jU xs bs;unfold iF
  split
  ·exact ⟨0,rfl⟩
  ·split
   ·exact ⟨m,hm⟩
   ·split
    ·obtain ⟨m2,h2⟩:=iX xs k f i (dg xs bs) a;exact ⟨m+m2,by rw [h2,hm,List.drop_drop]⟩
    ·split
     ·obtain ⟨m2,h2⟩:=iX xs k f (i+1) (dg xs bs) (a ++ [de xs bs]);exact ⟨m+m2,by rw [h2,hm,List.drop_drop]⟩
     ·exact ⟨m,hm⟩

theorem fg (xs:List Nat) (k:Int) (bs:List Nat):∃ m,(dY xs k bs).2.2.2=bs.drop m:=by
 unfold dY
 split
 ·exact ⟨0,rfl⟩
 ·split
  ·exact ⟨0,rfl⟩
  ·exact iX _ _ _ _ _ _

theorem mz {bs:List Nat} {n:Nat} (hn:16≤n):dr bs n<2^n:=by
 have h1:bev bs%2^(n-2)<2^(n-2):=Nat.mod_lt _ (Nat.pow_pos (by omega));have h2:2^n=4*2^(n-2):=by
  rw [show n=(n-2)+2 by omega,Nat.pow_add];simp;omega
 have h3:2^(n-2)%2=0:=by
  rw [show n-2=(n-3)+1 by omega,Nat.pow_succ];omega
 unfold dr;generalize bev bs%2^(n-2)=x at *
 split
 ·next h=>omega
 ·omega

def xd (w:World) (b B n e r:Nat) (bs:List Nat) (q:Ending) (w':World):Prop:=∃ v P K E R,q=.returned (.tuple #[v,.int .i64 (K:Nat),.int .i64 (E:Nat)])∧DrawR n e r 100000 bs 1 (P,K,E,R)∧Row .u64 w' v P∧(∀ x,v.ownBlock=some x→w.heap.size≤x)∧ScrAt w' b B R∧(∃ m,R=bs.drop m)∧Kept (fun x=>x=b) w w'

theorem vD (b B:Nat) (bs:List Nat) (n e r:Nat) (hn:16≤n) (ae:n≤4096) (Z:3≤e) (ac:e%2≠0) (he:e<18446744073709551616) (av:1≤r) (aq:r≤100) (w:World) (h:ScrAt w b B bs) (hB:B≤w.heap.size) (O:Digs bs 256) (N:bs.length≤1000000) :
  Calls Tryz.prog 25 #[.pointer (some ⟨b,0,none⟩),.int .i64 (n:Nat),.int .u64 (e:Nat),.int .i64 (r:Nat)] w fun q w'=>xd w b B n e r bs q w':=by
 obtain ⟨z,hz⟩:∃ z,z=(n+7)/8:=⟨_,rfl⟩
 have au:((n:Int)+7).tdiv 8=(z:Int):=by rw [Int.tdiv_eq_ediv_of_nonneg (by omega)];omega
 have ao:((n:Int)+7)/8=(z:Int):=by omega
 have aw:z≤513:=by omega
 have aB:0<z:=by omega
 have g1:¬ (n:Int)<16:=by omega
 have g2:¬ (n:Int) > 4096:=by omega
 have ar:¬ (4096:Int)<(n:Int):=by omega
 have g3:¬ (e:Int)<3:=by omega
 have g4:¬ (e:Int)%2=0:=by omega
 have g5:¬ (r:Int)<1:=by omega
 have g6:¬ (r:Int) > 100:=by omega
 have aF:¬ (100:Int)<(r:Int):=by omega
 have L:=aa h;have ad:=aa O;have ag:=aa N;have HZ:=aa hz;have aA:b<w.heap.size:=h.lt;have HN:Hid (16≤n∧n≤4096):=⟨hn,ae⟩
 have HE:Hid (e<18446744073709551616):=he;clear h O N hz ac Z;go_enter Tryz.func25,Tryz.ntmps25;go_wp2_with fail;go_loopw [11] (fun kv wr=>∃ (k f m:Nat) (rest:List Nat),kv=.int .i64 (k:Int)∧k≤100001∧k+f=100001∧Hid (∀ o,DrawR n e r f rest k o→DrawR n e r 100000 bs 1 o)∧Hid (rest=bs.drop m)∧Hid (ScrAt wr b B rest)∧Hid (Kept (fun x=>x=b) w wr)) (fun kv _=>100001-(intOf kv).toNat)
 case atStart=>exact ⟨1,100000,0,bs,rfl,by omega,by omega,fun _ h=>h,rfl,L.out,ah _ _⟩
 case round=>
  clear L;obtain ⟨k,f,m,rest,rfl,hk,am,HD,HR,HS,HK⟩:=hrel;have ay:rest.length≤1000000:=by rw [HR.out,List.length_drop];have:=ag.out;omega
  have U:Digs rest 256:=by rw [HR.out];exact ad.out.drop _
  have aD:=HK.out.size;by_cases hk9:k≤100000
  ·have g7:(k:Int)≤100000:=by omega
   obtain ⟨f,rfl⟩:∃ f',f=f'+1:=⟨f-1,by omega⟩
   have J1:=lL b B rest (z:Int) wr HS.out (by omega);by_cases h1:rest.length<z
   ·have t1:aR rest (z:Int)=150:=by unfold aR;rw [if_neg (by omega),if_pos (by omega)]
    have t2:bf rest (z:Int)=[]:=by unfold bf;rw [if_neg (by omega)];exact List.drop_of_length_le (by show _≤((z:Int)).toNat;omega)
    rw [t1,t2] at J1;have HO:=aa (HD.out _ (.inl ⟨by rw [← HZ.out];exact h1,rfl⟩));clear t1 t2;go_wp2_with fail;refine J1.mono ?_;rintro q w1 ⟨u,rfl,hO,h2,k1⟩;have p:=aa h2;have s:=aa (HK.out.trans k1);obtain ⟨xo,xc,rfl⟩:=aV hO;clear J1 hO h2 k1;go_wp2_with fail;refine bodyPost_ret (v:=.tuple #[.slice none 0 0,.int .i64 0,.int .i64 150]) (by simp [results,Tryz.results25,go_sem]) rfl ?_;exact ⟨_,[],0,150,[],rfl,HO.out,Row.nil _ _,(fun x hx=>by cases hx),p.out,⟨bs.length,by simp⟩,s.out⟩
   ·have t1:aR rest (z:Int)=0:=by unfold aR;rw [if_neg (by omega),if_neg (by omega)]
    have t2:bf rest (z:Int)=rest.drop z:=by unfold bf;rw [if_neg (by omega)];rfl
    have t3:bG rest (z:Int)=rest.take z:=by unfold bG;rw [t1];rfl
    rw [t1,t2,t3] at J1;have g:(rest.take z).length=z:=by rw [List.length_take];omega
    have aC:=aa g;have H1:Hid (¬ rest.length<(n+7)/8):=by rw [← HZ.out];exact h1
    have S:=aa U;clear t1 t2 t3;go_wp2_with fail;refine J1.mono ?_;rintro q w1 ⟨u,rfl,hO,h2,k1⟩;have p:=aa h2;have s:=aa (HK.out.trans k1);have aE:=k1.size;have M:iJ (rest.take z) (n:Int)=0:=by
     unfold iJ;rw [if_neg];have:=HN.out;have:=HZ.out;rw [g];omega
    have J2:=xS u (rest.take z) (n:Int) (by omega) (by omega) 0 (a8 rest n) M.symm (by rw [if_pos rfl];unfold a8;rw [← HZ.out];rfl) w1 hO.row (S.out.take _) (by omega);obtain ⟨xo,xn,xc,rfl,V,_⟩:=hO.row.open;obtain rfl:z=xn:=by rw [← V.out,g]
    clear J1 hO h2 k1 M g U V;go_wp2_with fail;refine J2.mono ?_;rintro q w2 ⟨v2,rfl,a,I,k2⟩;have P:=aa (p.out.grew k2);have W:=aa (s.out.next k2 (fun _ _ f=>f.elim));have ax:=k2.size;have t:(a8 rest n).length=(n+63)/64:=af _ _ _;have d:Digs (a8 rest n):=ai (by omega) _ _;have l:val (a8 rest n)=dr (rest.take z) n:=by
     unfold a8;rw [ak,← HZ.out];refine al (Nat.lt_of_lt_of_le (mz HN.out.1) ?_);rw [show (18446744073709551616:Nat)=2^64 from rfl,← Nat.pow_mul];exact Nat.pow_le_pow_right (by omega) (by omega)
    obtain ⟨vo,vn,vc,rfl,y,ap,an,_⟩:=a.open;have X:vn≤100:=by rw [← y.out,t];have:=HN.out;omega
    have Q:Hid (∀ x,(Value.slice vo vn vc).ownBlock=some x→w.heap.size≤x):=fun x hx=>by
     have:=I x hx;omega
    have aj:=aa a;by_cases hg:fT (dr (rest.take z) n) e
    ·have J3:=pA vo vn vc (a8 rest n) e HE.out true (by rw [l];simp [hg]) w2 a d (by omega);have HG:Hid (fT (dr (rest.take ((n+7)/8)) n) e):=by rw [← HZ.out];exact hg
     have ab:=aa d;obtain ⟨is,ls,E,R,j⟩:∃ is ls E R,dY (a8 rest n) (r:Int) (rest.drop z)=(is,ls,E,R):=⟨_,_,_,_,rfl⟩
     obtain ⟨m2,A⟩:=fg (a8 rest n) (r:Int) (rest.drop z);rw [j] at A;have F:Hid (R=bs.drop (m+z+m2)):=by
      unfold Hid;have e1:R=(rest.drop z).drop m2:=A;rw [e1,HR.out,List.drop_drop,List.drop_drop,Nat.add_assoc]
     have D:Hid (dY (a8 rest n) (r:Int) (rest.drop ((n+7)/8))=(is,ls,E,R)):=by rw [← HZ.out];exact j
     have c:=aa j;clear J2 a I k2 t d l y hg A j;go_wp2_with fail;refine J3.mono ?_;rintro q w3 ⟨rfl,k3⟩;have i:=P.out.grew k3;have T:=aa (aj.out.grew k3);have C:=aa (W.out.next k3 (fun _ _ f=>f.elim));have az:=k3.size;have J4:=qK b B (rest.drop z) (a8 rest n) vo vn vc (r:Int) is ls E R c.out (by omega) (by omega) w3 i (by omega) (S.out.drop _) (by rw [List.length_drop];omega) T.out ab.out (by omega);clear J3 k3 i c;go_wp2_with fail;refine J4.mono ?_;rintro q w4 ⟨v4,rfl,J,h4,k4⟩;have G:=aa h4;have Y:=aa (T.out.kept k4 (fun x hx f=>by
      have f':x=b:=f;have:=Q.out x hx;omega))
     have H:=aa (C.out.trans k4);obtain ⟨yo,yc,rfl⟩:=J.slice;clear J4 J h4 k4;by_cases hE0:E=0
     ·subst hE0;cases is with
      | true=>
       have HO:=aa (HD.out _ (.inr (.inr ⟨H1.out,HG.out,_,_,_,_,D.out,.inr (.inl ⟨rfl,rfl,rfl⟩)⟩)));go_wp2_with fail;refine bodyPost_ret (v:=.tuple #[.slice vo vn vc,.int .i64 (k:Int),.int .i64 0]) (by simp [results,Tryz.results25,go_sem]) rfl ?_;exact ⟨_,_,k,0,R,rfl,HO.out,Y.out,Q.out,G.out,⟨_,F.out⟩,H.out⟩
      | false=>
       have HO:Hid (∀ o,DrawR n e r f R (k+1) o→DrawR n e r 100000 bs 1 o):=fun o ho=>HD.out _ (.inr (.inr ⟨H1.out,HG.out,_,_,_,_,D.out,.inr (.inr ⟨rfl,rfl,ho⟩)⟩))
       go_wp2_with fail;go_roundw
       case rel=>exact ⟨k+1,f,_,R,by go_num,by omega,by omega,HO.out,F.out,G.out,H.out⟩
       case measure=>simp [intOf];omega
     ·have g8:¬ (E:Int)=0:=by omega
      have HO:=aa (HD.out _ (.inr (.inr ⟨H1.out,HG.out,_,_,_,_,D.out,.inl ⟨hE0,rfl⟩⟩)));clear hE0;go_wp2_with fail;refine bodyPost_ret (v:=.tuple #[.slice none 0 0,.int .i64 0,.int .i64 (E:Nat)]) (by simp [results,Tryz.results25,go_sem]) rfl ?_;exact ⟨_,[],0,E,R,rfl,HO.out,Row.nil _ _,(fun x hx=>by cases hx),G.out,⟨_,F.out⟩,H.out⟩
    ·have J3:=pA vo vn vc (a8 rest n) e HE.out false (by rw [l];simp [hg]) w2 a d (by omega);have HO:Hid (∀ o,DrawR n e r f (rest.drop z) (k+1) o→DrawR n e r 100000 bs 1 o):=fun o ho=>HD.out _ (.inr (.inl ⟨H1.out,by rw [← HZ.out];exact hg,by rw [← HZ.out];exact ho⟩))
     clear J2 a I k2 t d l y hg;go_wp2_with fail;refine J3.mono ?_;rintro q w3 ⟨rfl,k3⟩;have i:=aa (P.out.grew k3);have C:=aa (W.out.next k3 (fun _ _ f=>f.elim));clear J3 k3;go_wp2_with fail;go_roundw
     case rel=>exact ⟨k+1,f,m+z,rest.drop z,by go_num,by omega,by omega,HO.out,by unfold Hid;rw [HR.out,List.drop_drop],i.out,C.out⟩
     case measure=>simp [intOf];omega
  ·have g7:¬ (k:Int)≤100000:=by omega
   obtain rfl:f=0:=by omega
   have HO:=aa (HD.out _ rfl);go_wp2_with fail;refine bodyPost_ret (v:=.tuple #[.slice none 0 0,.int .i64 0,.int .i64 180]) (by simp [results,Tryz.results25,go_sem]) rfl ?_;exact ⟨_,[],0,180,rest,rfl,HO.out,Row.nil _ _,(fun x hx=>by cases hx),HS.out,⟨_,HR.out⟩,HK.out⟩

theorem DrawR.less {n e r:Nat} (hn:16≤n):∀ {f:Nat} {bs:List Nat} {k:Nat} {P:List Nat} {K:Nat} {R:List Nat},DrawR n e r f bs k (P,K,0,R)→R.length<bs.length
 | 0,_,_,_,_,_,h=>by
  have:=congrArg (fun o=>o.2.2.1) h;simp at this
 | f+1,bs,k,P,K,R,h=>by
  have hz:0<(n+7)/8:=by omega
  rcases h with ⟨_,h2⟩ | ⟨h1,_,h3⟩ | ⟨h1,_,is,ls,E,rest,h3,h4⟩
  ·have:=congrArg (fun o=>o.2.2.1) h2;simp at this
  ·have:=DrawR.less hn h3;rw [List.length_drop] at this;omega
  ·obtain ⟨m,hm⟩:=fg (a8 bs n) (r:Int) (bs.drop ((n+7)/8));rw [h3] at hm;have a:rest=(bs.drop ((n+7)/8)).drop m:=hm;have hl:rest.length<bs.length:=by
    rw [a,List.length_drop,List.length_drop];omega
   rcases h4 with ⟨a1,a2⟩ | ⟨_,_,a3⟩ | ⟨_,_,a3⟩
   ·have e1:=congrArg (fun o=>o.2.2.1) a2;simp at e1;exact absurd e1.symm a1
   ·have e1:R=rest:=congrArg (fun o=>o.2.2.2) a3;rw [e1];exact hl
   ·have:=DrawR.less hn a3;omega

def SecR (n e r:Nat) (P:List Nat):Nat→List Nat→List Nat × List Nat × Nat × List Nat→Prop
 | 0,_,_=>False
 | f+1,bs,o=>∃ Q K E R,DrawR n e r 100000 bs 1 (Q,K,E,R)∧((E≠0∧o=([],[],E,R))∨(E=0∧P≠Q∧o=(P,Q,0,R))∨(E=0∧P=Q∧SecR n e r P f R o))

def PairR (n e r:Nat) (bs:List Nat) (o:List Nat × List Nat × Nat × List Nat):Prop:=
 ∃ P K E R,DrawR (n/2) e r 100000 bs 1 (P,K,E,R)∧((E≠0∧o=([],[],E,R))∨(E=0∧SecR (n/2) e r P (R.length+1) R o))

theorem SecR.uniq {n e r:Nat} {P:List Nat}:∀ {f:Nat} {bs:List Nat} {o o':List Nat × List Nat × Nat × List Nat},SecR n e r P f bs o→SecR n e r P f bs o'→o=o'
 | 0,_,_,_,h,_=>h.elim
 | f+1,bs,o,o',⟨Q,K,E,R,h1,h2⟩,⟨Q',K',E',R',g1,g2⟩=>by
  have hu:=h1.uniq g1;obtain ⟨rfl,rfl,rfl,rfl⟩:Q=Q'∧K=K'∧E=E'∧R=R':=by simpa using hu
  rcases h2 with ⟨a1,a2⟩ | ⟨a1,a2,a3⟩ | ⟨a1,a2,a3⟩
  ·rcases g2 with ⟨_,b2⟩ | ⟨b1,_⟩ | ⟨b1,_⟩
   ·exact a2.trans b2.symm
   ·exact absurd b1 a1
   ·exact absurd b1 a1
  ·rcases g2 with ⟨b1,_⟩ | ⟨_,_,b3⟩ | ⟨_,b2,_⟩
   ·exact absurd a1 b1
   ·exact a3.trans b3.symm
   ·exact absurd b2 a2
  ·rcases g2 with ⟨b1,_⟩ | ⟨_,b2,_⟩ | ⟨_,_,b3⟩
   ·exact absurd a1 b1
   ·exact absurd a2 b2
   ·exact SecR.uniq a3 b3

theorem PairR.uniq {n e r:Nat} {bs:List Nat} {o o':List Nat × List Nat × Nat × List Nat} (h:PairR n e r bs o) (g:PairR n e r bs o'):o=o':=by
 obtain ⟨P,K,E,R,h1,h2⟩:=h;obtain ⟨P',K',E',R',g1,g2⟩:=g;have hu:=h1.uniq g1;obtain ⟨rfl,rfl,rfl,rfl⟩:P=P'∧K=K'∧E=E'∧R=R':=by simpa using hu
 rcases h2 with ⟨a1,a2⟩ | ⟨a1,a2⟩
 ·rcases g2 with ⟨_,b2⟩ | ⟨b1,_⟩
  ·exact a2.trans b2.symm
  ·exact absurd b1 a1
 ·rcases g2 with ⟨b1,_⟩ | ⟨_,b2⟩
  ·exact absurd a1 b1
  ·exact a2.uniq b2

theorem nY (b:Nat) (n r:Int) (e:Nat) (he:e<18446744073709551616) (w:World) (a:n<32∨8192<n∨n%128≠0∨e<3∨e%2=0∨4294967296≤e∨r<1∨100<r) :
  Calls Tryz.prog 10 #[.pointer (some ⟨b,0,none⟩),.int .i64 n,.int .u64 (e:Nat),.int .i64 r] w fun q w'=>q=.returned (.tuple #[.slice none 0 0,.slice none 0 0,.int .i64 1])∧w'=w:=by
 by_cases h1:n<32
 ·clear a;go_enter Tryz.func10,Tryz.ntmps10;go_wp2_with fail;refine bodyPost_ret (v:=.tuple #[.slice none 0 0,.slice none 0 0,.int .i64 1]) (by simp [results,Tryz.results10,go_sem]) rfl ?_;exact ⟨rfl,rfl⟩
 ·have g1:¬ n<32:=h1;by_cases h2:8192<n
  ·have g2:n > 8192:=h2;clear a;go_enter Tryz.func10,Tryz.ntmps10;go_wp2_with fail;refine bodyPost_ret (v:=.tuple #[.slice none 0 0,.slice none 0 0,.int .i64 1]) (by simp [results,Tryz.results10,go_sem]) rfl ?_;exact ⟨rfl,rfl⟩
  ·have g2:¬ n > 8192:=h2;by_cases h3:n%128≠0
   ·have g3:¬ n.tmod 128=0:=by rw [Int.tmod_eq_emod_of_nonneg (by omega)];omega
    clear a;go_enter Tryz.func10,Tryz.ntmps10;go_wp2_with fail;refine bodyPost_ret (v:=.tuple #[.slice none 0 0,.slice none 0 0,.int .i64 1]) (by simp [results,Tryz.results10,go_sem]) rfl ?_;exact ⟨rfl,rfl⟩
   ·have g3:n.tmod 128=0:=by rw [Int.tmod_eq_emod_of_nonneg (by omega)];omega
    have d:n%128=0:=by omega
    by_cases h4:e<3
    ·have g4:(e:Int)<3:=by omega
     clear a;go_enter Tryz.func10,Tryz.ntmps10;go_wp2_with fail;refine bodyPost_ret (v:=.tuple #[.slice none 0 0,.slice none 0 0,.int .i64 1]) (by simp [results,Tryz.results10,go_sem]) rfl ?_;exact ⟨rfl,rfl⟩
    ·have g4:¬ (e:Int)<3:=by omega
     by_cases h5:e%2=0
     ·have g5:(e:Int)%2=0:=by omega
      clear a;go_enter Tryz.func10,Tryz.ntmps10;go_wp2_with fail;refine bodyPost_ret (v:=.tuple #[.slice none 0 0,.slice none 0 0,.int .i64 1]) (by simp [results,Tryz.results10,go_sem]) rfl ?_;exact ⟨rfl,rfl⟩
     ·have g5:¬ (e:Int)%2=0:=by omega
      by_cases h6:4294967296≤e
      ·have g6:(e:Int)≥4294967296:=by omega
       have c:(4294967296:Int)≤(e:Int):=by omega
       clear a;go_enter Tryz.func10,Tryz.ntmps10;go_wp2_with fail;refine bodyPost_ret (v:=.tuple #[.slice none 0 0,.slice none 0 0,.int .i64 1]) (by simp [results,Tryz.results10,go_sem]) rfl ?_;exact ⟨rfl,rfl⟩
      ·have g6:¬ (e:Int)≥4294967296:=by omega
       have c:¬ (4294967296:Int)≤(e:Int):=by omega
       by_cases h7:r<1
       ·clear a;go_enter Tryz.func10,Tryz.ntmps10;go_wp2_with fail;refine bodyPost_ret (v:=.tuple #[.slice none 0 0,.slice none 0 0,.int .i64 1]) (by simp [results,Tryz.results10,go_sem]) rfl ?_;exact ⟨rfl,rfl⟩
       ·skip
        have h8:100<r:=by omega
        have g8:r > 100:=h8;clear a;go_enter Tryz.func10,Tryz.ntmps10;go_wp2_with fail;refine bodyPost_ret (v:=.tuple #[.slice none 0 0,.slice none 0 0,.int .i64 1]) (by simp [results,Tryz.results10,go_sem]) rfl ?_;exact ⟨rfl,rfl⟩

def uR (w:World) (b B n e r:Nat) (bs:List Nat) (q:Ending) (w':World):Prop:=∃ u v P Q E R,q=.returned (.tuple #[u,v,.int .i64 (E:Nat)])∧PairR n e r bs (P,Q,E,R)∧Row .u64 w' u P∧Row .u64 w' v Q∧(∀ x,u.ownBlock=some x→w.heap.size≤x)∧(∀ x,v.ownBlock=some x→w.heap.size≤x)∧ScrAt w' b B R∧(∃ m,R=bs.drop m)∧Kept (fun x=>x=b) w w'

theorem yk (b B:Nat) (bs:List Nat) (n e r:Nat) (hn:32≤n) (ar:n≤8192) (aq:n%128=0) (S:3≤e) (V:e%2≠0) (he:e<4294967296) (g:1≤r) (c:r≤100) (w:World) (h:ScrAt w b B bs) (hB:B≤w.heap.size) (z:Digs bs 256) (y:bs.length≤1000000) :
  Calls Tryz.prog 10 #[.pointer (some ⟨b,0,none⟩),.int .i64 (n:Nat),.int .u64 (e:Nat),.int .i64 (r:Nat)] w fun q w'=>uR w b B n e r bs q w':=by
 obtain ⟨d,hd⟩:∃ d,d=n/2:=⟨_,rfl⟩
 have J:(n:Int).tdiv 2=(d:Int):=by rw [Int.tdiv_eq_ediv_of_nonneg (by omega)];omega
 have ai:(n:Int)/2=(d:Int):=by omega
 have g1:¬ (n:Int)<32:=by omega
 have g2:¬ (n:Int) > 8192:=by omega
 have O:¬ (8192:Int)<(n:Int):=by omega
 have g3:(n:Int).tmod 128=0:=by rw [Int.tmod_eq_emod_of_nonneg (by omega)];omega
 have ad:(n:Int)%128=0:=by omega
 have g4:¬ (e:Int)<3:=by omega
 have g5:¬ (e:Int)%2=0:=by omega
 have g6:¬ (e:Int)≥4294967296:=by omega
 have L:¬ (4294967296:Int)≤(e:Int):=by omega
 have g7:¬ (r:Int)<1:=by omega
 have g8:¬ (r:Int) > 100:=by omega
 have am:¬ (100:Int)<(r:Int):=by omega
 have JD:=aa fun cs W (hS:ScrAt W b B cs) (hBW:B≤W.heap.size) (hdc:Digs cs 256) (hlc:cs.length≤1000000)=>vD b B cs d e r (by omega) (by omega) S V (by omega) g c W hS hBW hdc hlc
 have J0:=JD.out bs w h hB z y;have ap:=aa z;have aw:=aa y;have HD:=aa hd;have s:Hid (16≤d):=by unfold Hid;omega
 have az:b<w.heap.size:=h.lt;clear h z y hd V S hn ar aq he g c;go_enter Tryz.func10,Tryz.ntmps10;go_wp2_with fail;refine J0.mono ?_;rintro q w1 ⟨u,P,K,E,R,rfl,af,g,T,aj,⟨m1,ak⟩,k1⟩;obtain ⟨uo,un,uc,rfl,_⟩:=g.open;have M:=aa g;have ag:=aa T;have l:=aa aj;have p:=aa k1;have C:=aa ak;have H:=aa af;have ao:=k1.size;clear J0 g T aj k1 ak af;by_cases hE:E=0
 ·subst hE;go_wp2_with fail;go_loopw [14] (fun _ wr=>∃ (f m:Nat) (rest:List Nat),Hid (rest.length<f)∧Hid (∀ o,SecR d e r P f rest o→SecR d e r P (R.length+1) R o)∧Hid (rest=bs.drop m)∧Hid (ScrAt wr b B rest)∧Hid (Row .u64 wr (.slice uo un uc) P)∧Hid (Kept (fun x=>x=b) w wr)) (fun _ wr=>fF b wr)
  case atStart=>exact ⟨R.length+1,m1,R,by unfold Hid;omega,fun _ h=>h,C.out,l.out,M.out,p.out⟩
  case round=>
   clear M l p C ao;obtain ⟨f,m,rest,HL,HC,HM,HS,HR,HK⟩:=hrel;have X:rest.length≤1000000:=by rw [HM.out,List.length_drop];have:=aw.out;omega
   have ac:Digs rest 256:=by rw [HM.out];exact ap.out.drop _
   have ay:=HK.out.size;obtain ⟨f,rfl⟩:∃ f',f=f'+1:=⟨f-1,by have:=HL.out;omega⟩
   have J1:=JD.out rest wr HS.out (by omega) ac X;clear X ac;go_wp2_with fail;refine J1.mono ?_;rintro q w2 ⟨v,Q,K2,E2,R2,rfl,Z,c,al,Y,⟨m2,U⟩,k2⟩;obtain ⟨vo,vn,vc,rfl,_⟩:=c.open;have ab:=aa c;have au:Hid (∀ x,(Value.slice vo vn vc).ownBlock=some x→w.heap.size≤x):=fun x hx=>by
    have:=al x hx;omega
   have j:=aa Y;have G:=aa (HK.out.trans k2);have D:=aa (HR.out.kept k2 (fun x hx f=>by
    have f':x=b:=f;have:=ag.out x hx;omega))
   have A:Hid (R2=bs.drop (m+m2)):=by unfold Hid;rw [U,HM.out,List.drop_drop]
   have k:=aa Z;clear J1 c al Y k2 U Z;by_cases hE2:E2=0
   ·subst hE2;have J2:=tJ _ _ P Q w2 D.out ab.out;by_cases hPQ:P=Q
    ·subst hPQ;rw [bd rfl] at J2;have a:=k.out.less s.out;have N:=aa a;have ax:Hid (fF b w2<fF b wr):=by unfold Hid;rw [j.out.len,HS.out.len];exact a
     have an:Hid (∀ o,SecR d e r P f R2 o→SecR d e r P (R.length+1) R o):=fun o ho=>HC.out o ⟨_,_,_,_,k.out,.inr (.inr ⟨rfl,rfl,ho⟩)⟩
     clear a;go_wp2_with fail;refine J2.mono ?_;rintro q w3 ⟨rfl,n3,rfl⟩;have k3:Kept ae w2 (w2.drewN n3):=(ah _ _).drewN n3;have i:=aa (j.out.grew k3);have F:=aa (D.out.grew k3);have t:=aa (G.out.drewN n3);have I:Hid (fF b (w2.drewN n3)<fF b wr):=by unfold Hid;rw [i.out.len,HS.out.len];exact N.out
     clear J2 k3;go_wp2_with fail;go_roundw
     case rel=>exact ⟨f,_,R2,by unfold Hid;have:=N.out;have:=HL.out;omega,an.out,A.out,i.out,F.out,t.out⟩
     case measure=>exact I.out
    ·rw [aF hPQ] at J2;have HO:Hid (PairR n e r bs (P,Q,0,R2)):=⟨_,_,_,_,by rw [← HD.out];exact H.out,.inr ⟨rfl,by rw [← HD.out];exact HC.out _ ⟨_,_,_,_,k.out,.inr (.inl ⟨rfl,hPQ,rfl⟩)⟩⟩⟩
     go_wp2_with fail;refine J2.mono ?_;rintro q w3 ⟨rfl,n3,rfl⟩;have k3:Kept ae w2 (w2.drewN n3):=(ah _ _).drewN n3;have i:=aa (j.out.grew k3);have F:=aa (D.out.grew k3);have av:=aa (ab.out.grew k3);have t:=aa (G.out.drewN n3);clear J2 k3;go_wp2_with fail;refine bodyPost_ret (v:=.tuple #[.slice uo un uc,.slice vo vn vc,.int .i64 0]) (by simp [results,Tryz.results10,go_sem]) rfl ?_;exact ⟨_,_,P,Q,0,R2,rfl,HO.out,F.out,av.out,ag.out,au.out,i.out,⟨_,A.out⟩,t.out⟩
   ·have g9:¬ (E2:Int)=0:=by omega
    clear g3 ad g4 g5 g6 L g7 g8 am g1 g2 O J ai;have HO:Hid (PairR n e r bs ([],[],E2,R2)):=⟨_,_,_,_,by rw [← HD.out];exact H.out,.inr ⟨rfl,by rw [← HD.out];exact HC.out _ ⟨_,_,_,_,k.out,.inl ⟨hE2,rfl⟩⟩⟩⟩
    clear hE2;go_wp2_with fail;refine bodyPost_ret (v:=.tuple #[.slice none 0 0,.slice none 0 0,.int .i64 (E2:Nat)]) (by simp [results,Tryz.results10,go_sem]) rfl ?_;exact ⟨_,_,[],[],E2,R2,rfl,HO.out,Row.nil _ _,Row.nil _ _,(fun x hx=>by cases hx),(fun x hx=>by cases hx),j.out,⟨_,A.out⟩,G.out⟩
 ·have g9:¬ (E:Int)=0:=by omega
  clear g3 ad g4 g5 g6 L g7 g8 am g1 g2 O J ai;have HO:Hid (PairR n e r bs ([],[],E,R)):=⟨_,_,_,_,by rw [← HD.out];exact H.out,.inl ⟨hE,rfl⟩⟩
  clear hE;go_wp2_with fail;refine bodyPost_ret (v:=.tuple #[.slice none 0 0,.slice none 0 0,.int .i64 (E:Nat)]) (by simp [results,Tryz.results10,go_sem]) rfl ?_;exact ⟨_,_,[],[],E,R,rfl,HO.out,Row.nil _ _,Row.nil _ _,(fun x hx=>by cases hx),(fun x hx=>by cases hx),l.out,⟨_,C.out⟩,p.out⟩

theorem DrawR.shape {n e r:Nat}:∀ {f:Nat} {bs:List Nat} {k:Nat} {P:List Nat} {K:Nat} {R:List Nat},DrawR n e r f bs k (P,K,0,R)→∃ cs,P=a8 cs n
 | 0,_,_,_,_,_,h=>by
  have:=congrArg (fun o=>o.2.2.1) h;simp at this
 | f+1,bs,k,P,K,R,h=>by
  rcases h with ⟨_,h⟩ | ⟨_,_,h⟩ | ⟨_,_,is,ls,E,rest,_,h⟩
  ·have:=congrArg (fun o=>o.2.2.1) h;simp at this
  ·exact DrawR.shape h
  ·rcases h with ⟨hE,h⟩ | ⟨_,_,h⟩ | ⟨_,_,h⟩
   ·have:=congrArg (fun o=>o.2.2.1) h;exact absurd this.symm hE
   ·exact ⟨bs,congrArg (fun o=>o.1) h⟩
   ·exact DrawR.shape h

theorem SecR.shape {n e r:Nat} {P:List Nat}:∀ {f:Nat} {bs:List Nat} {P' Q R:List Nat},SecR n e r P f bs (P',Q,0,R)→P'=P∧∃ cs,Q=a8 cs n
 | 0,_,_,_,_,h=>h.elim
 | f+1,bs,P',Q,R,⟨Q1,K,E,R1,h1,h2⟩=>by
  rcases h2 with ⟨hE,h⟩ | ⟨hE,_,h⟩ | ⟨_,_,h⟩
  ·have:=congrArg (fun o=>o.2.2.1) h;exact absurd this.symm hE
  ·subst hE;obtain ⟨cs,hc⟩:=h1.shape;exact ⟨congrArg (fun o=>o.1) h,cs,(congrArg (fun o=>o.2.1) h).trans hc⟩
  ·exact SecR.shape h

theorem PairR.shape {n e r:Nat} {bs P Q R:List Nat} (h:PairR n e r bs (P,Q,0,R)):(∃ cs,P=a8 cs (n/2))∧∃ cs,Q=a8 cs (n/2):=by
 obtain ⟨P1,K,E,R1,h1,h2⟩:=h;rcases h2 with ⟨hE,h⟩ | ⟨hE,h⟩
 ·have:=congrArg (fun o=>o.2.2.1) h;exact absurd this.symm hE
 ·subst hE;obtain ⟨cs,hc⟩:=h1.shape;obtain ⟨e1,h3⟩:=h.shape;exact ⟨⟨cs,e1.trans hc⟩,h3⟩

theorem jT (cs:List Nat) (n:Nat):Digs (a8 cs n):=ai (by omega) _ _

theorem kD (cs:List Nat) (n:Nat):(a8 cs n).length=(n+63)/64:=af _ _ _

theorem iB {w3:World} {p:Nat} {a0 a1 a2 a3 a4 a5 a6 a7:Value} {t:TypeId} (a:w3.heap[p]? = some (.cells #[a0,a1,a2,a3,a4,a5,a6,a7] t (0,0))) (x0 x1 x2 x3 x4 x5 x6 x7:Value) :
  (ff w3 p x0 x1 x2 x3 x4 x5 x6 x7).heap[p]? = some (.cells #[x0,x1,x2,x3,x4,x5,x6,x7] t (0,0))∧Kept (fun q=>q=p) w3 (ff w3 p x0 x1 x2 x3 x4 x5 x6 x7):=by
 unfold ff;refine ⟨?_,?_⟩
 ·have h0:=heap_setCell_same w3 p 0 _ _ x0 a;have h1:=heap_setCell_same _ p 1 _ _ x1 h0;have h2:=heap_setCell_same _ p 2 _ _ x2 h1;have h3:=heap_setCell_same _ p 3 _ _ x3 h2;have h4:=heap_setCell_same _ p 4 _ _ x4 h3;have h5:=heap_setCell_same _ p 5 _ _ x5 h4;have h6:=heap_setCell_same _ p 6 _ _ x6 h5;have h7:=heap_setCell_same _ p 7 _ _ x7 h6;simpa using h7
 ·exact ((((((((ah (fun q=>q=p) w3).setCell ⟨p,0,none⟩ (fun _=>rfl) _).setCell ⟨p,1,none⟩ (fun _=>rfl) _).setCell ⟨p,2,none⟩ (fun _=>rfl) _).setCell ⟨p,3,none⟩ (fun _=>rfl) _).setCell ⟨p,4,none⟩ (fun _=>rfl) _).setCell ⟨p,5,none⟩ (fun _=>rfl) _).setCell ⟨p,6,none⟩ (fun _=>rfl) _).setCell ⟨p,7,none⟩ (fun _=>rfl) _

theorem Kept.trans2 {S T:Nat→Prop} {a b c:World} (h:Kept S a b) (k:Kept T b c):Kept (fun x=>S x∨T x) a c:=(h.mono (fun _ _ e=>.inl e)).next k (fun _ _ e=>.inr e)

theorem KeyAt.kept9 {S:Nat→Prop} {w w':World} {P Q e B:Nat} {kv:Array Value} (h:KeyAt w P Q e kv) (hf:fL B kv) (k:Kept S w w') (hs:∀ x,B<x→¬ S x):KeyAt w' P Q e kv:=by
 obtain ⟨vn,vd,vp,vq,b,c,a,d,u,rfl,h0,h1,h2,h3,h4,h5,h6,h7,h8,h9,f⟩:=h;have kk:∀ (v:Value) (zs:List Nat),v ∈ #[vn,.int .u64 (e:Nat),vd,vp,vq,b,c,a].toList→Row .u64 w v zs→Row .u64 w' v zs:=fun v zs hv hr=>hr.kept k (fun x hx=>hs x (hf v hv x hx))
 exact ⟨vn,vd,vp,vq,b,c,a,d,u,rfl,kk _ _ (by simp) h0,h1,h2,kk _ _ (by simp) h3,kk _ _ (by simp) h4,kk _ _ (by simp) h5,kk _ _ (by simp) h6,kk _ _ (by simp) h7,h8,h9,kk _ _ (by simp) f⟩

structure KS where
 no:Option Addr
 nl:Nat
 nc:Nat
 en:Nat
 dO:Option Addr
 dl:Nat
 dc:Nat
 po:Option Addr
 pl:Nat
 pc:Nat
 qo:Option Addr
 ql:Nat
 qc:Nat
 dpo:Option Addr
 dpl:Nat
 dpc:Nat
 dqo:Option Addr
 dql:Nat
 dqc:Nat
 qio:Option Addr
 qil:Nat
 qic:Nat

def KS.v (t:KS):Array Value:=#[.slice t.no t.nl t.nc,.int .u64 ((t.en:Nat):Int),.slice t.dO t.dl t.dc,.slice t.po t.pl t.pc,.slice t.qo t.ql t.qc,.slice t.dpo t.dpl t.dpc,.slice t.dqo t.dql t.dqc,.slice t.qio t.qil t.qic]

structure KL where
 n:List Nat
 d:List Nat
 p:List Nat
 q:List Nat
 dp:List Nat
 dq:List Nat
 qi:List Nat

structure KS.Rows (w:World) (t:KS) (l:KL):Prop where
 n:Row .u64 w (.slice t.no t.nl t.nc) l.n
 d:Row .u64 w (.slice t.dO t.dl t.dc) l.d
 p:Row .u64 w (.slice t.po t.pl t.pc) l.p
 q:Row .u64 w (.slice t.qo t.ql t.qc) l.q
 dp:Row .u64 w (.slice t.dpo t.dpl t.dpc) l.dp
 dq:Row .u64 w (.slice t.dqo t.dql t.dqc) l.dq
 qi:Row .u64 w (.slice t.qio t.qil t.qic) l.qi

def KeySays (L M P Q e E en:Nat) (l:KL):Prop:=
 (E=0∧dX L M P Q e∧en=e∧∃ d u,xL P Q e d u l.n l.d l.p l.q l.dp l.dq l.qi)∨(E=190∧¬ dX L M P Q e∧en=0∧l=⟨[],[],[],[],[],[],[]⟩)

theorem KeySays.uniq {L M P Q e E E' en a:Nat} {l l':KL} (h:KeySays L M P Q e E en l) (h':KeySays L M P Q e E' a l'):E'=E∧a=en∧l'=l:=by
 rcases h with ⟨rfl,hok,rfl,d,u,h1⟩ | ⟨rfl,hno,rfl,rfl⟩
 ·rcases h' with ⟨rfl,_,rfl,d',u',h2⟩ | ⟨_,hno,_⟩
  ·have hd:d'=d:=pM (Nat.Coprime.symm hok.2.2.2.2.2) h2.1 h1.1 h2.2.1 h1.2.1;have hu:u'=u:=pM hok.2.2.2.1 h2.2.2.1 h1.2.2.1 h2.2.2.2.1 h1.2.2.2.1;subst hd hu;obtain ⟨_,_,_,_,a1,a2,a3,a4,a5,a6,a7⟩:=h1;obtain ⟨_,_,_,_,b1,b2,b3,b4,b5,b6,b7⟩:=h2;refine ⟨rfl,rfl,?_⟩;cases l
   cases l'
   simp only at a1 a2 a3 a4 a5 a6 a7 b1 b2 b3 b4 b5 b6 b7;rw [a1,a2,a3,a4,a5,a6,a7,b1,b2,b3,b4,b5,b6,b7]
  ·exact absurd hok hno
 ·rcases h' with ⟨_,hok,_⟩ | ⟨rfl,_,rfl,rfl⟩
  ·exact absurd hok hno
  ·exact ⟨rfl,rfl,rfl⟩

theorem yu {k:IntKind} {w W:World} {ao:Option Addr} {n cap:Nat} {zs:List Nat} (h:Row k w (.slice ao n cap) zs) (kk:Kept ae w W) (hp:0<(zs.map fun z:Nat=>Value.int k (z:Int)).length):∃ ad,ao=some ad∧∀ j u,(zs.map fun z:Nat=>Value.int k (z:Int))[j]? = some u→W.cell? (ad.add j)=some u:=by
 rw [List.length_map] at hp;obtain ⟨c,n',a,e,hL,_,_,_,hn⟩:=h.open;cases e
 obtain ⟨b,off,rfl,_⟩:=hn 0 (by have:=hL.out;omega);exact ⟨_,rfl,mX h kk⟩

open Go.RowKit Go.Shelf

def yL {α:Type} (Sb:Nat→Prop) (I:List α→World→Prop) (Ix:Code→List α→World→Prop) (s:List α) (W:World):Exit→Act→World→Prop
 | .normal,_,W'=>Kept Sb W W'∧I s W'
 | .ret,_,W'=>Kept Sb W W'∧Ix .ret s W'
 | .exit i,_,W'=>Kept Sb W W'∧Ix (.exit i) s W'
 | .goto t,_,W'=>Kept Sb W W'∧Ix (.goto t) s W'
 | .panic _,_,_=>False
 | .outgrown,_,_=>False

theorem gQ {W:World} {B l:Nat} (o:Obj) (h:B≤l):Below B W (W.putObj l o):=
 ⟨rfl,rfl,rfl,by simp,fun _ hk=>World.putObj_heap_other (by omega)⟩

theorem dC (W:World) (l:Nat) (o:Obj):Kept (fun b=>b=l) W (W.putObj l o):=
 ⟨rfl,rfl,rfl,by simp,fun _ _ hk=>World.putObj_heap_other hk⟩

theorem iL {k:IntKind} {W:World} {l:Nat} {o:Obj} {v:Value} {zs:List Nat} (o':Obj) (h:Row k W v zs) (hl:W.heap[l]? = some o) (ho:o.isCells=false):Row k (W.putObj l o') v zs:=by
 obtain ⟨ao,cap,rfl,h1,h2,h3,h4⟩:=h;refine ⟨ao,cap,rfl,h1,h2,h3,fun i hi=>?_⟩;obtain ⟨b,off,rfl,hc⟩:=h4 i hi;exact ⟨b,off,rfl,cell_kept hc (grownBy_putObj' W l o') (fun r e=>by cases e;exact ⟨o,hl,ho⟩)⟩

theorem bk {w w':World} {b:Nat} {t:TypeId} {v:Value} (h:Boxed w b t v) (k:Kept ae w w'):Boxed w' b t v:=(k.block _ h.lt (fun f=>f)).trans h

theorem aG {S:Nat→Prop} {w w':World} {b:Nat} {t:TypeId} {v:Value} (h:Boxed w b t v) (k:Kept S w w') (hs:¬ S b):Boxed w' b t v:=(k.block _ h.lt hs).trans h

def Books (d:Nat) (r:Loop) (W:World):Prop:=W.heap[d+1]? = some (.loop r)∧W.heap[d]? = some (.deferred (some []))

theorem Books.lt {d:Nat} {r:Loop} {A:World} (h:Books d r A):d+1<A.heap.size:=(Array.getElem?_eq_some_iff.1 h.1).1

theorem Books.put {d:Nat} {r:Loop} {A:World} (h:Books d r A) (r':Loop):Books d r' (A.putObj (d+1) (.loop r')):=
 ⟨World.putObj_heap_same h.lt,(World.putObj_heap_other (by omega)).trans h.2⟩

theorem Books.kept {d:Nat} {r:Loop} {A C:World} {Sb:Nat→Prop} (h:Books d r A) (k:Kept Sb A C) (hs:∀ b,Sb b→b<d):Books d r C:=by
 have hl:=h.lt;exact ⟨(k.block _ hl (fun e=>by have:=hs _ e;omega)).trans h.1,(k.block _ (by omega) (fun e=>by have:=hs _ e;omega)).trans h.2⟩

end Go.Proofs.YtcemlfokmjjiaaaGreatDoor
