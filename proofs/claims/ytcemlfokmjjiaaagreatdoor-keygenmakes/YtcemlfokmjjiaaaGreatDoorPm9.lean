/- Put together of: Prm5 Key7 Key8. -/
import Derived.Test.YtcemlfokmjjiaaaGreatDoorPm6
import Derived.Test.YtcemlfokmjjiaaaGreatDoorPm8

namespace Go.Proofs.YtcemlfokmjjiaaaGreatDoor
set_option maxRecDepth 100000
set_option maxHeartbeats 4000000
open Go.RowKit

def Bases (w:World) (base:Nat) (out:Value) (L:Nat) (acc:List (List Nat)):Prop:=(∀ x ∈ acc,x.length=L)∧∃ A C,Grows w base out L acc.length A C (fun j=>acc.getD j (List.replicate L 0))

theorem Bases.grew {w w':World} {base:Nat} {b:Value} {L:Nat} {a:List (List Nat)} (h:Bases w base b L a) (k:Kept af w w'):Bases w' base b L a:=by
 obtain ⟨h1,A,C,h2⟩:=h;exact ⟨h1,A,C,h2.grew k⟩

theorem Bases.nil (w:World) (base L:Nat):Bases w base (.slice none 0 0) L []:=⟨(fun x hx=>by cases hx),fun _=>none,fun _=>0,Grows.nil _ _ _ _ _ _⟩

theorem Bases.base {w:World} {base base':Nat} {b:Value} {L:Nat} {a:List (List Nat)} (h:Bases w base b L a) (hb:base'≤base):Bases w base' b L a:=by
 obtain ⟨h1,A,C,h2⟩:=h;exact ⟨h1,A,C,h2.base hb⟩

theorem Bases.kept {w w':World} {base b:Nat} {c:Value} {L:Nat} {a:List (List Nat)} (h:Bases w base c L a) (k:Kept (fun x=>x=b) w w') (hb:b<base) (f:∀ v zs,Row .u64 w v zs→zs≠[]→∀ x,v.ownBlock=some x→x≠b):Bases w' base c L a:=by
 obtain ⟨h1,A,C,h2,h3⟩:=h;refine ⟨h1,A,C,k.own h2 (fun x hx e=>?_),fun j hj=>⟨?_,(h3 j hj).2⟩⟩
 ·have:=(World.ownsRow.lt h2 x hx).1;omega
 ·refine (h3 j hj).1.kept' k (fun d x hx e=>?_);exact f _ _ (h3 j hj).1 d x hx e

theorem Bases.push {W w4:World} {base:Nat} {c:Value} {L g cap:Nat} {a:List (List Nat)} {x:List Nat} {yo:Option Addr} {yc:Nat} (hL:0<L) (h1:∀ x ∈ a,x.length=L) {A:Nat→Option Addr} {C:Nat→Nat} (h2:Grows W base c L a.length A C (fun j=>a.getD j (List.replicate L 0))) (hx:x.length=L)
  (hy:Row .u64 W (.slice yo L yc) x) (d:∀ b,(Value.slice yo L yc).ownBlock=some b→c.ownBlock≠some b)
  (ho:w4.ownsRow base 32 1 (.slice (some ⟨g,0,none⟩) (a.length+1) cap) (a.length+1) (((List.range a.length).map fun j=>.slice (A j) L (C j)) ++ [.slice yo L yc])) (hg:W.grownBy w4 c.ownBlock) (f:c.ownBlock=some g∨g=W.heap.size) :
  Bases w4 base (.slice (some ⟨g,0,none⟩) (a.length+1) cap) L (a ++ [x]):=by
 refine ⟨fun z hz=>?_,fun j=>if j=a.length then yo else A j,fun j=>if j=a.length then yc else C j,?_⟩
 ·rcases List.mem_append.1 hz with h | h
  ·exact h1 z h
  ·rw [List.mem_singleton.1 h];exact hx
 ·have k:∀ z:List Nat,z.length=L→z≠[]:=fun z hz e=>by subst e;simp at hz;omega
  have i:Grows W base c L a.length A C (fun j=>(a ++ [x]).getD j (List.replicate L 0)):=⟨h2.1,fun j hj=>by
   have:=h2.2 j hj;dsimp only;rw [List.getD_eq_getElem?_getD,List.getElem?_append_left hj,← List.getD_eq_getElem?_getD];exact this⟩
  have:=i.push (fun j=>k _ (by
   rw [List.getD_eq_getElem?_getD];by_cases hj:j<(a ++ [x]).length
   ·rw [List.getElem?_eq_getElem hj,Option.getD_some];rcases List.mem_append.1 (List.getElem_mem hj) with h | h
    ·exact h1 _ h
    ·rw [List.mem_singleton.1 h];exact hx
   ·rw [List.getElem?_eq_none (by omega),Option.getD_none,List.length_replicate])) (yo:=yo) (yc:=yc) (by
    rw [List.getD_eq_getElem?_getD,List.getElem?_append_right (leR _),Nat.sub_self];exact hy) d ho hg f
  rw [List.length_append];exact this

theorem ri (b B:Nat) (bs xs:List Nat) (ao:Option Addr) (L cap:Nat) (k:Int) (r1:Bool) (r2:List (List Nat)) (r3:Nat) (r4:List Nat) (o:eE xs k bs=(r1,r2,r3,r4)) (bi:-9223372036854775808≤k) (bw:k≤9223372036854775807) (w:World) (h:ScrAt w b B bs) (hB:B≤w.heap.size) (aX:Digs bs 256) (bG:bs.length≤1000000) (hu:Row .u64 w (.slice ao L cap) xs) (D:Digs xs) (aG:L≤1000000) :
  Calls Tryz.prog 45 #[.pointer (some ⟨b,0,none⟩),.slice ao L cap,.int .i64 k] w fun e w'=>∃ v',e=.returned (.tuple #[.bool r1,v',.int .i64 (r3:Int)])∧Bases w' w.heap.size v' L r2∧ScrAt w' b B r4∧Kept (fun x=>x=b) w w':=by
 obtain ⟨i0,bn,bb,bl,br⟩:=info_parts Tryz.infoN32;obtain ⟨_,_,_,e1,hL,_,_,_,_⟩:=hu.open;cases e1
 have hO:=uC ao L cap xs _ rfl w hu D aG;have JX:Hid (∀ W,Kept af w W→Calls Tryz.prog 17 #[.slice ao L cap] W fun r w'=>∃ v',r=.returned v'∧IsBig w' v' (val xs)∧(∀ b,v'.ownBlock=some b→W.heap.size≤b)∧Kept af W w'):=fun W k=>rOf _ xs W (hu.grew k) D (by rw [hL.out];omega)
 have HS:=aa h;have bq:b<w.heap.size:=h.lt;unfold eE at o;have HL:=aa hL;clear h hL;obtain ⟨O,ay⟩:∃ O,O=gQ (val xs):=⟨_,rfl⟩
 rw [← ay] at hO o;have HO:=aa ay;clear ay;by_cases hO0:O=0
 ·subst hO0;rw [if_neg (by omega)] at o;by_cases hkb:k<0∨100<k
  ·rw [if_pos hkb] at o;cases o
   by_cases hkn:k<0
   ·clear hkb;go_enter Tryz.func45,Tryz.ntmps45;go_wp2_with fail;refine hO.mono ?_;rintro e w1 ⟨rfl,k1⟩;clear hO;go_wp2_with fail;exact bodyPost_ret (v:=.tuple #[.bool false,.slice none 0 0,.int .i64 1]) (by simp [results,Tryz.results45,go_sem]) rfl ⟨_,rfl,Bases.nil _ _ _,HS.out.grew k1,k1.any⟩
   ·have bC:100<k:=by omega
    clear hkb;go_enter Tryz.func45,Tryz.ntmps45;go_wp2_with fail;refine hO.mono ?_;rintro e w1 ⟨rfl,k1⟩;clear hO;go_wp2_with fail;exact bodyPost_ret (v:=.tuple #[.bool false,.slice none 0 0,.int .i64 1]) (by simp [results,Tryz.results45,go_sem]) rfl ⟨_,rfl,Bases.nil _ _ _,HS.out.grew k1,k1.any⟩
  ·rw [if_neg hkb] at o;obtain ⟨n,rfl⟩:∃ n:Nat,k=(n:Int):=⟨k.toNat,by omega⟩
   rw [Int.toNat_natCast] at o;have hn:n≤100:=by omega
   obtain ⟨aO,bp,nw,bo,aT⟩:=l9 HO.out.symm;have be:aF (val xs)≤260:=by
    have:aF (val xs)≤2*nw:=(aI _ _).2 (by rw [Nat.pow_mul];exact aT);omega
   have aq:xs≠[]:=fun e=>by subst e;simp [val] at aO
   have bu:0<L:=by
    rcases Nat.eq_zero_or_pos L with e | e
    ·exact absurd (List.length_eq_zero_iff.1 (HL.out.out.trans e)) aq
    ·exact e
   have HU:=aa hu;have aU:=aa (dJ HS.out hu aq);clear hkb bi bw aT bo hu;obtain ⟨X,hX⟩:∃ X,X=val xs:=⟨_,rfl⟩
   rw [← hX] at JX aO bp be;have N:=aa hX;clear hX;go_enter Tryz.func45,Tryz.ntmps45;go_wp2_with fail;refine hO.mono ?_;rintro e w1 ⟨rfl,k1⟩;have h1:=JX.out _ k1;clear hO;go_wp2_with fail;refine h1.mono ?_;rintro e w2 ⟨v2,rfl,aZ,a9,k2⟩;have K2:=k1.trans k2;have h2:=bY 1 (by omega) w2;clear h1;go_wp2_with fail;refine h2.mono ?_;rintro e w3 ⟨v3,rfl,aY,_,k3⟩;have K3:=K2.trans k3;have h3:=kK v2 v3 X 1 w3 (aZ.grew k3) aY (by omega);clear h2;go_wp2_with fail;refine h3.mono ?_;rintro e w4 ⟨v4,rfl,aQ,a0,k4⟩;have q:=aa (K3.trans k4);have ba:=aa aQ;have Y:Hid (∀ x,v4.ownBlock=some x→w.heap.size≤x):=fun x hx=>Nat.le_trans K3.size (a0 x hx)
   have bm:=aa (HS.out.grew q.out);have aV:=aa (HU.out.grew q.out);have bt:=aa o;have bk:=aa aX;clear h3 aZ aY aQ a9 a0 k1 k2 k3 k4 K2 K3 o aX HU HS JX;go_wp2_with fail;go_loopw [12,13] (fun ov iv wr=>∃ (cs:List Nat) (l:List (List Nat)) (f:Nat),iv=.int .i64 (l.length:Int)∧l.length≤n∧cs.length<f∧cs.length≤bs.length∧Hid (Digs cs 256)∧Hid (ScrAt wr b B cs)∧Hid (Bases wr w4.heap.size ov L l)∧Hid (Kept (fun x=>x=b) w4 wr)∧Hid (iZ xs n f l.length cs l=(r1,r2,r3,r4))) (fun _ _ wr=>gC b wr)
   case atStart=>exact ⟨bs,[],bs.length+1,rfl,Nat.zero_le _,by omega,leR _,bk.out,bm.out,Bases.nil _ _ _,ah _ _,bt.out⟩
   case round=>
    obtain ⟨cs,l,f,rfl,bc,bF,bB,az,F,ap,G,heq⟩:=hrel;obtain ⟨g,rfl⟩:∃ g,f=g+1:=⟨f-1,by omega⟩
    have H:=aa F.out.len;have c:=heq.out;unfold iZ at c;generalize ab:l.length=i at *;have d:=aa ab;clear ab;by_cases hin:n≤i
    ·obtain rfl:i=n:=by omega
     rw [if_pos (leR _)] at c;simp only [Prod.mk.injEq] at c;obtain ⟨rfl,rfl,rfl,rfl⟩:=c;go_wp2_with fail;go_ret3
     exact ⟨_,rfl,ap.out.base q.out.size,F.out,q.out.any.trans G.out⟩
    ·have bD:(i:Int)<(n:Int):=by omega
     rw [if_neg hin] at c;have hr:Row .u64 wr (.slice ao L cap) xs:=aV.out.kept' G.out (fun _ x hx e=>aU.out x hx e);by_cases h300:L≤300
     ·by_cases hE0:cf xs cs=0
      ·have p:=nI b B cs xs (.slice ao L cap) wr F.out az.out (by omega) hr D (by rw [HL.out.out];exact h300) (by rw [← N.out];omega);rw [hE0] at p;rw [if_neg (by omega)] at c;have hlt:=nX hE0;have ad:=qj hE0;have a1:Digs (dz xs cs):=by unfold dz;rw [if_pos hE0];exact aj (by omega) _ _
       have av:Hid (Digs (dD xs cs) 256):=by
        obtain ⟨m,hm⟩:=j7 xs cs;unfold Hid;rw [hm];exact az.out.drop m
       rw [HL.out.out] at ad;have V:=qx D hE0;rw [← N.out] at V;generalize fq xs cs=kk at *;generalize dz xs cs=x at *;generalize dD xs cs=cs' at *;clear hE0 heq;obtain ⟨a,ha⟩:∃ a,a=val x:=⟨_,rfl⟩
       rw [← ha] at V c;rw [← N.out] at c;have aL:=aa ha;clear ha;have a6:IsBig wr v4 (X-1):=ba.out.kept G.out (fun y hy e=>by have:=Y.out y hy;omega);have ar:Hid (∀ y,u12.ownBlock=some y→y<wr.heap.size):=fun y hy=>by
        obtain ⟨_,_,_,bj⟩:=ap.out;exact (World.ownsRow.lt bj.1 y hy).2
       have aJ:=aa (fun v zs (h:Row .u64 wr v zs) aq=>dJ F.out h aq);go_wp2_with fail;refine p.mono ?_;rintro e w5 ⟨u,rfl,S,aW,T,k5⟩;obtain ⟨uo,uc,rfl⟩:=lv S ad;have am:=aa (ap.out.kept k5 (Nat.lt_of_lt_of_le bq q.out.size) aJ.out);have aN:IsBig w5 v4 (X-1):=a6.kept k5 (fun y hy e=>by have:=Y.out y hy;omega);have K5:=aa (G.out.trans k5);have al:=aa T;have aP:=aa S;have h5:=rOf _ x w5 S a1 (by rw [ad];omega);rw [← aL.out] at h5;clear p a6 T S hr ap F G;go_wp2_with fail;refine h5.mono ?_;rintro e w6 ⟨v6,rfl,aw,_,k6⟩;have h6:=bY 1 (by omega) w6;clear h5;go_wp2_with fail;refine h6.mono ?_
       rintro e w7 ⟨v7,rfl,a2,_,k7⟩;have h7:=fw v6 v7 a 1 w7 (aw.grew k7) a2;have an:=k6.trans k7;have aD:=aN.grew an;have I:=aw.grew k7;clear h6 aw a2 k6 k7 aN;by_cases ha1:a=1
       ·rw [if_pos (.inl ha1)] at c;rw [dy ha1] at h7;go_wp2_with fail;refine h7.mono ?_;rintro e w8 ⟨rfl,m8,rfl⟩;have kd:=an.trans ((ah af w7).drewN m8);have s:=al.out.grew kd;have ai:=am.out.grew kd;have E:=K5.out.trans kd.any;clear h7 aD I;go_wp2_with fail;go_roundw
        case rel=>exact ⟨cs',l,g,by rw [d.out],by rw [d.out];omega,by omega,by omega,av.out,s,ai,E,by unfold Hid;rw [d.out];exact c⟩
        case measure=>rw [H.out,(show ScrAt _ b B cs' from s).len];exact hlt
       ·have bd:=ia ha1;generalize aH a 1=c7 at *;go_wp2_with fail;refine h7.mono ?_;rintro e bH ⟨rfl,m8,rfl⟩;have kd:=(ah af w7).drewN m8;obtain ⟨w8,a5⟩:∃ w8,w8=w7.drewN m8:=⟨_,rfl⟩
        rw [← a5] at kd ⊢;have aM:=an.trans kd;have h8:=fw v6 v4 a (X-1) w8 (I.grew kd) (aD.grew kd);clear h7 aD I kd an a5;by_cases haX:a=X-1
        ·rw [if_pos (.inr haX)] at c;rw [dy haX] at h8;go_wp2_with fail;refine h8.mono ?_;rintro e w9 ⟨rfl,m9,rfl⟩;have kd:=aM.trans ((ah af w8).drewN m9);have s:=al.out.grew kd;have ai:=am.out.grew kd;have E:=K5.out.trans kd.any;clear h8;go_wp2_with fail;go_roundw
         case rel=>exact ⟨cs',l,g,by rw [d.out],by rw [d.out];omega,by omega,by omega,av.out,s,ai,E,by unfold Hid;rw [d.out];exact c⟩
         case measure=>rw [H.out,(show ScrAt _ b B cs' from s).len];exact hlt
        ·have a8:=ia haX;rw [if_neg (by omega)] at c;generalize aH a (X-1)=c8 at *;go_wp2_with fail;refine h8.mono ?_;rintro e bA ⟨rfl,m9,rfl⟩;have kd:=aM.trans ((ah af w8).drewN m9);obtain ⟨w9,aR⟩:∃ w9,w9=w8.drewN m9:=⟨_,rfl⟩
         rw [← aR] at kd ⊢;have s:=al.out.grew kd;have ai:=am.out.grew kd;have E:=K5.out.trans kd.any;have RU:=aP.out.grew kd;have U:∀ y,(Value.slice uo L uc).ownBlock=some y→wr.heap.size≤y:=aW;clear h8 aR al am K5 aP aM;obtain ⟨ab,GA,GC,hG⟩:=ai;have ax:=hG.grew ((ah af w9).alloc (.cells #[.slice uo L uc] 32));have P:=World.ownsRow.lt hG.1;have au:=ax.1;have bx:w4.heap.size≤w9.heap.size:=E.size;have bh:wr.heap.size≤w9.heap.size:=Nat.le_trans k5.size kd.size;have C:∀ y,u12.ownBlock=some y→y<wr.heap.size:=ar.out;have aE:=aa (RU.grew ((ah af w9).alloc (.cells #[.slice uo L uc] 32)));have aK:x≠[]:=fun e=>by subst e;simp at ad;omega
         rw [d.out] at au;have ac:=aa E;have Z:=aa s;have q7:(c7 == 0)=false:=by simpa using bd
         have q8:(c8 == 0)=false:=by simpa using a8
         rw [q7];go_wp2_with (at_builtin;refine wpList_append_lies _ rfl _ _ 86 rfl w4.heap.size 32 i0 _ 1 24 Tryz.underlying86 bn bb bl br rfl (by omega) _ _ _ rfl au ⟨w9.heap.size,0,none⟩ 1 1 [.slice uo L uc] rfl rfl (dC w9 _ _) (by simp [Value.oneCell']) (by omega) (by unfold maxLen;omega) (by omega) (by simp;omega) (w9.heap.size+1) (by simp) ?_;intro gg c' Q ak hg a4 bz);have ae:(w9.alloc (.cells #[.slice uo L uc] 32)).grownBy Q u12.ownBlock:=hg;have J:u12.ownBlock=some gg∨gg=(w9.alloc (.cells #[.slice uo L uc] 32)).heap.size:=(show u12.ownBlock=some gg∨gg=w9.heap.size+1 from a4).imp id (fun h=>by simpa using h)
         have z:Q.ownsRow w4.heap.size 32 1 (.slice (some ⟨gg,0,none⟩) (l.length+1) c') (l.length+1) (((List.range l.length).map fun j=>.slice (GA j) L (GC j)) ++ [.slice uo L uc]):=by rw [d.out];exact ak
         have aA:∀ y,(Value.slice uo L uc).ownBlock=some y→u12.ownBlock≠some y:=fun y hy e=>by have:=U y hy;have:=C y e;omega
         have t:=aa (Bases.push bu ab ax ad aE.out aA z ae J);have aB:Hid (Kept (fun x=>x=b) w4 Q):=(ac.out.alloc _).grown ae (fun y hy hlt=>by have:=(P y hy).1;omega);have ag:Kept (fun y=>u12.ownBlock=some y) (w9.alloc (.cells #[.slice uo L uc] 32)) Q:=(ah _ _).grown ae (fun y e _=>e);have A:=aa ((Z.out.grew ((ah af w9).alloc (.cells #[.slice uo L uc] 32))).kept ag (fun y hy e=>by have:=(P y e).1;have:=q.out.size;omega));have a3:Row .u64 Q (.slice ao L cap) xs:=aV.out.kept' aB.out (fun _ y hy e=>aU.out y hy e);have a7:=(eZ (n:=i+1) (cap:=c') aE.out aK aA ae J).1
         have R:=r8 ao uo L L cap uc xs x 0 (eJ X a) (by
          unfold xm;rw [← N.out,← aL.out,show gQ X=0 by rw [N.out];exact HO.out.symm,if_neg (by omega),if_neg (by omega)]) (by rw [jG,← N.out,← aL.out];simp) Q a3 a7 D a1 aG aG
         clear hg a4 ak ae J z aA ag a3 a7 ax hG P au RU s E aE ac Z U C ab;cases hsb:eJ X a
         ·rw [hsb] at R;rw [hsb,if_neg (by decide)] at c;simp only [Prod.mk.injEq] at c;obtain ⟨rfl,rfl,rfl,rfl⟩:=c;refine R.mono ?_;rintro e bf ⟨rfl,M⟩;have BF:=aa ((t.out.grew M).base q.out.size);have SF:=aa (A.out.grew M);have KF:=aa (q.out.any.trans (aB.out.trans M.any));clear R;go_wp2_with fail;go_ret3
          refine ⟨_,rfl,?_,SF.out,KF.out⟩;have:=BF.out;rw [d.out] at this;exact this
         ·rw [hsb] at R;rw [hsb,if_pos rfl] at c;refine R.mono ?_;rintro e bf ⟨rfl,M⟩;have BF:=aa (t.out.grew M);have SF:=aa (A.out.grew M);have KF:=aa (aB.out.trans M.any);have HQ:=aa c;rw [d.out] at BF;clear R c;go_wp2_with fail;go_roundw
          case rel=>exact ⟨cs',l ++ [x],g,by rw [List.length_append,d.out];go_num,by rw [List.length_append,d.out];simp;omega,by omega,by omega,av.out,SF.out,BF.out,KF.out,by unfold Hid;rw [List.length_append,d.out];exact HQ.out⟩
          case measure=>rw [H.out,SF.out.len];exact hlt
      ·have p:=nI b B cs xs (.slice ao L cap) wr F.out az.out (by omega) hr D (by rw [HL.out.out];exact h300) (by rw [← N.out];omega);rw [if_pos hE0] at c;simp only [Prod.mk.injEq] at c;obtain ⟨rfl,rfl,rfl,rfl⟩:=c;have bE:¬ ((cf xs cs:Nat):Int)=0:=by omega
       generalize hEE:cf xs cs=EE at *;have bg:=aa hEE;clear hEE;generalize fq xs cs=kk at *;go_wp2_with fail;refine p.mono ?_;rintro e w5 ⟨u,rfl,S,aW,T,k5⟩;obtain ⟨uo,un,uc,rfl,_,_,_,_,_⟩:=S.open;have aC:=aa (q.out.any.trans (G.out.trans k5));clear p;go_wp2_with fail;go_ret3
       exact ⟨_,by rw [bg.out];rfl,Bases.nil _ _ _,T,aC.out⟩
     ·have p:=mP b B cs xs (.slice ao L cap) wr F.out hr D (by rw [HL.out.out];omega) (.inl (by rw [HL.out.out];omega));have aS:cf xs cs=2:=by unfold cf;rw [if_pos (by rw [HL.out.out];omega)]
      have bv:dD xs cs=cs:=by unfold dD;rw [if_pos (.inl (by rw [HL.out.out];omega))]
      rw [if_pos (by omega),aS,bv] at c;simp only [Prod.mk.injEq] at c;obtain ⟨rfl,rfl,rfl,rfl⟩:=c;rw [aS] at p;go_wp2_with fail;refine p.mono ?_;rintro e w5 ⟨rfl,T,k5⟩;have aC:=aa (q.out.any.trans (G.out.trans k5.any));clear p;go_wp2_with fail;go_ret3
      exact ⟨_,rfl,Bases.nil _ _ _,T,aC.out⟩
 ·rw [if_pos hO0] at o;simp only [Prod.mk.injEq] at o;obtain ⟨rfl,rfl,rfl,rfl⟩:=o;have g0:¬ (O:Int)=0:=by omega
  go_enter Tryz.func45,Tryz.ntmps45;go_wp2_with fail;refine hO.mono ?_;rintro e w1 ⟨rfl,k1⟩;clear hO;go_wp2_with fail;exact bodyPost_ret (v:=.tuple #[.bool false,.slice none 0 0,.int .i64 (O:Int)]) (by simp [results,Tryz.results45,go_sem]) rfl ⟨_,rfl,Bases.nil _ _ _,HS.out.grew k1,k1.any⟩

theorem Bases.slice {w:World} {base:Nat} {b:Value} {L:Nat} {a:List (List Nat)} (h:Bases w base b L a):∃ ao cap,b=.slice ao a.length cap:=by
 obtain ⟨_,A,C,h2,_⟩:=h;exact bh h2

def bw (bs:List Nat) (n:Nat):List Nat:=ai (dL (bs.take ((n+7)/8)) n) ((n+63)/64)

def DrawR (n e r:Nat):Nat→List Nat→Nat→List Nat × Nat × Nat × List Nat→Prop
 | 0,bs,_,o=>o=([],0,180,bs)
 | f+1,bs,k,o=>(bs.length<(n+7)/8∧o=([],0,150,[])) ∨
  (¬ bs.length<(n+7)/8∧¬ gM (dL (bs.take ((n+7)/8)) n) e∧DrawR n e r f (bs.drop ((n+7)/8)) (k+1) o) ∨
  (¬ bs.length<(n+7)/8∧gM (dL (bs.take ((n+7)/8)) n) e∧∃ is ls E rest,eE (bw bs n) (r:Int) (bs.drop ((n+7)/8))=(is,ls,E,rest) ∧
   ((E≠0∧o=([],0,E,rest))∨(E=0∧is=true∧o=(bw bs n,k,0,rest))∨(E=0∧is=false∧DrawR n e r f rest (k+1) o)))

theorem DrawR.uniq {n e r:Nat}:∀ {f:Nat} {bs:List Nat} {k:Nat} {o o':List Nat × Nat × Nat × List Nat},DrawR n e r f bs k o→DrawR n e r f bs k o'→o=o'
 | 0,_,_,_,_,h,h'=>h.trans h'.symm
 | f+1,bs,k,o,o',h,h'=>by
  rcases h with ⟨h1,h2⟩ | ⟨h1,h2,h3⟩ | ⟨h1,h2,is,ls,E,rest,h3,h4⟩
  ·rcases h' with ⟨g1,g2⟩ | ⟨g1,_⟩ | ⟨g1,_⟩
   ·exact h2.trans g2.symm
   ·exact absurd h1 g1
   ·exact absurd h1 g1
  ·rcases h' with ⟨g1,_⟩ | ⟨_,_,g3⟩ | ⟨_,g2,_⟩
   ·exact absurd g1 h1
   ·exact DrawR.uniq h3 g3
   ·exact absurd g2 h2
  ·rcases h' with ⟨g1,_⟩ | ⟨_,g2,_⟩ | ⟨_,_,is',ls',E',rest',g3,g4⟩
   ·exact absurd g1 h1
   ·exact absurd h2 g2
   ·rw [h3] at g3;obtain ⟨rfl,rfl,rfl,rfl⟩:is=is'∧ls=ls'∧E=E'∧rest=rest':=by simpa using g3
    rcases h4 with ⟨a1,a2⟩ | ⟨a1,a2,a3⟩ | ⟨a1,a2,a3⟩
    ·rcases g4 with ⟨_,b2⟩ | ⟨b1,_⟩ | ⟨b1,_⟩
     ·exact a2.trans b2.symm
     ·exact absurd b1 a1
     ·exact absurd b1 a1
    ·rcases g4 with ⟨b1,_⟩ | ⟨_,_,b3⟩ | ⟨_,b2,_⟩
     ·exact absurd a1 b1
     ·exact a3.trans b3.symm
     ·rw [a2] at b2;cases b2
    ·rcases g4 with ⟨b1,_⟩ | ⟨_,b2,_⟩ | ⟨_,_,b3⟩
     ·exact absurd a1 b1
     ·rw [a2] at b2;cases b2
     ·exact DrawR.uniq a3 b3

theorem jk (xs:List Nat) (k:Nat):∀ f i bs a,∃ m,(iZ xs k f i bs a).2.2.2=bs.drop m
 | 0,_,bs,_=>⟨0,rfl⟩
 | f+1,i,bs,a=>by
  obtain ⟨m,hm⟩:=j7 xs bs;unfold iZ
  split
  ·exact ⟨0,rfl⟩
  ·split
   ·exact ⟨m,hm⟩
   ·split
    ·obtain ⟨m2,h2⟩:=jk xs k f i (dD xs bs) a;exact ⟨m+m2,by rw [h2,hm,List.drop_drop]⟩
    ·split
     ·obtain ⟨m2,h2⟩:=jk xs k f (i+1) (dD xs bs) (a ++ [dz xs bs]);exact ⟨m+m2,by rw [h2,hm,List.drop_drop]⟩
     ·exact ⟨m,hm⟩

theorem fC (xs:List Nat) (k:Int) (bs:List Nat):∃ m,(eE xs k bs).2.2.2=bs.drop m:=by
 unfold eE
 split
 ·exact ⟨0,rfl⟩
 ·split
  ·exact ⟨0,rfl⟩
  ·exact jk _ _ _ _ _ _

theorem ox {bs:List Nat} {n:Nat} (hn:16≤n):dL bs n<2^n:=by
 have h1:bev bs%2^(n-2)<2^(n-2):=Nat.mod_lt _ (Nat.pow_pos (by omega));have h2:2^n=4*2^(n-2):=by
  rw [show n=(n-2)+2 by omega,Nat.pow_add];simp;omega
 have h3:2^(n-2)%2=0:=by
  rw [show n-2=(n-3)+1 by omega,Nat.pow_succ];omega
 unfold dL;generalize bev bs%2^(n-2)=x at *
 split
 ·next h=>omega
 ·omega

def xO (w:World) (b B n e r:Nat) (bs:List Nat) (q:Ending) (w':World):Prop:=∃ v P K E R,q=.returned (.tuple #[v,.int .i64 (K:Nat),.int .i64 (E:Nat)])∧DrawR n e r 100000 bs 1 (P,K,E,R)∧Row .u64 w' v P∧(∀ x,v.ownBlock=some x→w.heap.size≤x)∧ScrAt w' b B R∧(∃ m,R=bs.drop m)∧Kept (fun x=>x=b) w w'

theorem xW (b B:Nat) (bs:List Nat) (n e r:Nat) (hn:16≤n) (Y:n≤4096) (ad:3≤e) (X:e%2≠0) (he:e<18446744073709551616) (aA:1≤r) (au:r≤100) (w:World) (h:ScrAt w b B bs) (hB:B≤w.heap.size) (L:Digs bs 256) (V:bs.length≤1000000) :
  Calls Tryz.prog 25 #[.pointer (some ⟨b,0,none⟩),.int .i64 (n:Nat),.int .u64 (e:Nat),.int .i64 (r:Nat)] w fun q w'=>xO w b B n e r bs q w':=by
 obtain ⟨z,hz⟩:∃ z,z=(n+7)/8:=⟨_,rfl⟩
 have ak:((n:Int)+7).tdiv 8=(z:Int):=by rw [Int.tdiv_eq_ediv_of_nonneg (by omega)];omega
 have aB:((n:Int)+7)/8=(z:Int):=by omega
 have av:z≤513:=by omega
 have aq:0<z:=by omega
 have g1:¬ (n:Int)<16:=by omega
 have g2:¬ (n:Int) > 4096:=by omega
 have az:¬ (4096:Int)<(n:Int):=by omega
 have g3:¬ (e:Int)<3:=by omega
 have g4:¬ (e:Int)%2=0:=by omega
 have g5:¬ (r:Int)<1:=by omega
 have g6:¬ (r:Int) > 100:=by omega
 have ax:¬ (100:Int)<(r:Int):=by omega
 have P:=aa h;have ai:=aa L;have ab:=aa V;have HZ:=aa hz;have aC:b<w.heap.size:=h.lt;have HN:Hid (16≤n∧n≤4096):=⟨hn,Y⟩
 have HE:Hid (e<18446744073709551616):=he;clear h L V hz X ad;go_enter Tryz.func25,Tryz.ntmps25;go_wp2_with fail;go_loopw [11] (fun kv wr=>∃ (k f m:Nat) (rest:List Nat),kv=.int .i64 (k:Int)∧k≤100001∧k+f=100001∧Hid (∀ o,DrawR n e r f rest k o→DrawR n e r 100000 bs 1 o)∧Hid (rest=bs.drop m)∧Hid (ScrAt wr b B rest)∧Hid (Kept (fun x=>x=b) w wr)) (fun kv _=>100001-(intOf kv).toNat)
 case atStart=>exact ⟨1,100000,0,bs,rfl,by omega,by omega,fun _ h=>h,rfl,P.out,ah _ _⟩
 case round=>
  clear P;obtain ⟨k,f,m,rest,rfl,hk,aF,HD,HR,HS,HK⟩:=hrel;have aE:rest.length≤1000000:=by rw [HR.out,List.length_drop];have:=ab.out;omega
  have J:Digs rest 256:=by rw [HR.out];exact ai.out.drop _
  have aD:=HK.out.size;by_cases hk9:k≤100000
  ·have g7:(k:Int)≤100000:=by omega
   obtain ⟨f,rfl⟩:∃ f',f=f'+1:=⟨f-1,by omega⟩
   have J1:=mf b B rest (z:Int) wr HS.out (by omega);by_cases h1:rest.length<z
   ·have t1:aY rest (z:Int)=150:=by unfold aY;rw [if_neg (by omega),if_pos (by omega)]
    have t2:bG rest (z:Int)=[]:=by unfold bG;rw [if_neg (by omega)];exact List.drop_of_length_le (by show _≤((z:Int)).toNat;omega)
    rw [t1,t2] at J1;have HO:=aa (HD.out _ (.inl ⟨by rw [← HZ.out];exact h1,rfl⟩));clear t1 t2;go_wp2_with fail;refine J1.mono ?_;rintro q w1 ⟨u,rfl,hO,h2,k1⟩;have A:=aa h2;have y:=aa (HK.out.trans k1);obtain ⟨xo,xc,rfl⟩:=bh hO;clear J1 hO h2 k1;go_wp2_with fail;refine bodyPost_ret (v:=.tuple #[.slice none 0 0,.int .i64 0,.int .i64 150]) (by simp [results,Tryz.results25,go_sem]) rfl ?_;exact ⟨_,[],0,150,[],rfl,HO.out,Row.nil _ _,(fun x hx=>by cases hx),A.out,⟨bs.length,by simp⟩,y.out⟩
   ·have t1:aY rest (z:Int)=0:=by unfold aY;rw [if_neg (by omega),if_neg (by omega)]
    have t2:bG rest (z:Int)=rest.drop z:=by unfold bG;rw [if_neg (by omega)];rfl
    have t3:cj rest (z:Int)=rest.take z:=by unfold cj;rw [t1];rfl
    rw [t1,t2,t3] at J1;have g:(rest.take z).length=z:=by rw [List.length_take];omega
    have an:=aa g;have H1:Hid (¬ rest.length<(n+7)/8):=by rw [← HZ.out];exact h1
    have W:=aa J;clear t1 t2 t3;go_wp2_with fail;refine J1.mono ?_;rintro q w1 ⟨u,rfl,hO,h2,k1⟩;have A:=aa h2;have y:=aa (HK.out.trans k1);have aw:=k1.size;have N:i9 (rest.take z) (n:Int)=0:=by
     unfold i9;rw [if_neg];have:=HN.out;have:=HZ.out;rw [g];omega
    have J2:=xr u (rest.take z) (n:Int) (by omega) (by omega) 0 (bw rest n) N.symm (by rw [if_pos rfl];unfold bw;rw [← HZ.out];rfl) w1 hO.row (W.out.take _) (by omega);obtain ⟨xo,xn,xc,rfl,M,_⟩:=hO.row.open;obtain rfl:z=xn:=by rw [← M.out,g]
    clear J1 hO h2 k1 N g J M;go_wp2_with fail;refine J2.mono ?_;rintro q w2 ⟨v2,rfl,a,G,k2⟩;have T:=aa (A.out.grew k2);have S:=aa (y.out.next k2 (fun _ _ f=>f.elim));have ao:=k2.size;have s:(bw rest n).length=(n+63)/64:=ag _ _ _;have c:Digs (bw rest n):=aj (by omega) _ _;have j:val (bw rest n)=dL (rest.take z) n:=by
     unfold bw;rw [al,← HZ.out];refine am (Nat.lt_of_lt_of_le (ox HN.out.1) ?_);rw [show (18446744073709551616:Nat)=2^64 from rfl,← Nat.pow_mul];exact Nat.pow_le_pow_right (by omega) (by omega)
    obtain ⟨vo,vn,vc,rfl,I,ar,ay,_⟩:=a.open;have Z:vn≤100:=by rw [← I.out,s];have:=HN.out;omega
    have U:Hid (∀ x,(Value.slice vo vn vc).ownBlock=some x→w.heap.size≤x):=fun x hx=>by
     have:=G x hx;omega
    have af:=aa a;by_cases hg:gM (dL (rest.take z) n) e
    ·have J3:=pI vo vn vc (bw rest n) e HE.out true (by rw [j];simp [hg]) w2 a c (by omega);have HG:Hid (gM (dL (rest.take ((n+7)/8)) n) e):=by rw [← HZ.out];exact hg
     have ac:=aa c;obtain ⟨is,ls,E,R,l⟩:∃ is ls E R,eE (bw rest n) (r:Int) (rest.drop z)=(is,ls,E,R):=⟨_,_,_,_,rfl⟩
     obtain ⟨m2,t⟩:=fC (bw rest n) (r:Int) (rest.drop z);rw [l] at t;have D:Hid (R=bs.drop (m+z+m2)):=by
      unfold Hid;have e1:R=(rest.drop z).drop m2:=t;rw [e1,HR.out,List.drop_drop,List.drop_drop,Nat.add_assoc]
     have H:Hid (eE (bw rest n) (r:Int) (rest.drop ((n+7)/8))=(is,ls,E,R)):=by rw [← HZ.out];exact l
     have d:=aa l;clear J2 a G k2 s c j I hg t l;go_wp2_with fail;refine J3.mono ?_;rintro q w3 ⟨rfl,k3⟩;have i:=T.out.grew k3;have Q:=aa (af.out.grew k3);have F:=aa (S.out.next k3 (fun _ _ f=>f.elim));have ap:=k3.size;have J4:=ri b B (rest.drop z) (bw rest n) vo vn vc (r:Int) is ls E R d.out (by omega) (by omega) w3 i (by omega) (W.out.drop _) (by rw [List.length_drop];omega) Q.out ac.out (by omega);clear J3 k3 i d;go_wp2_with fail;refine J4.mono ?_;rintro q w4 ⟨v4,rfl,O,h4,k4⟩;have p:=aa h4;have ae:=aa (Q.out.kept k4 (fun x hx f=>by
      have f':x=b:=f;have:=U.out x hx;omega))
     have C:=aa (F.out.trans k4);obtain ⟨yo,yc,rfl⟩:=O.slice;clear J4 O h4 k4;by_cases hE0:E=0
     ·subst hE0;cases is with
      | true=>
       have HO:=aa (HD.out _ (.inr (.inr ⟨H1.out,HG.out,_,_,_,_,H.out,.inr (.inl ⟨rfl,rfl,rfl⟩)⟩)));go_wp2_with fail;refine bodyPost_ret (v:=.tuple #[.slice vo vn vc,.int .i64 (k:Int),.int .i64 0]) (by simp [results,Tryz.results25,go_sem]) rfl ?_;exact ⟨_,_,k,0,R,rfl,HO.out,ae.out,U.out,p.out,⟨_,D.out⟩,C.out⟩
      | false=>
       have HO:Hid (∀ o,DrawR n e r f R (k+1) o→DrawR n e r 100000 bs 1 o):=fun o ho=>HD.out _ (.inr (.inr ⟨H1.out,HG.out,_,_,_,_,H.out,.inr (.inr ⟨rfl,rfl,ho⟩)⟩))
       go_wp2_with fail;go_roundw
       case rel=>exact ⟨k+1,f,_,R,by go_num,by omega,by omega,HO.out,D.out,p.out,C.out⟩
       case measure=>simp [intOf];omega
     ·have g8:¬ (E:Int)=0:=by omega
      have HO:=aa (HD.out _ (.inr (.inr ⟨H1.out,HG.out,_,_,_,_,H.out,.inl ⟨hE0,rfl⟩⟩)));clear hE0;go_wp2_with fail;refine bodyPost_ret (v:=.tuple #[.slice none 0 0,.int .i64 0,.int .i64 (E:Nat)]) (by simp [results,Tryz.results25,go_sem]) rfl ?_;exact ⟨_,[],0,E,R,rfl,HO.out,Row.nil _ _,(fun x hx=>by cases hx),p.out,⟨_,D.out⟩,C.out⟩
    ·have J3:=pI vo vn vc (bw rest n) e HE.out false (by rw [j];simp [hg]) w2 a c (by omega);have HO:Hid (∀ o,DrawR n e r f (rest.drop z) (k+1) o→DrawR n e r 100000 bs 1 o):=fun o ho=>HD.out _ (.inr (.inl ⟨H1.out,by rw [← HZ.out];exact hg,by rw [← HZ.out];exact ho⟩))
     clear J2 a G k2 s c j I hg;go_wp2_with fail;refine J3.mono ?_;rintro q w3 ⟨rfl,k3⟩;have i:=aa (T.out.grew k3);have F:=aa (S.out.next k3 (fun _ _ f=>f.elim));clear J3 k3;go_wp2_with fail;go_roundw
     case rel=>exact ⟨k+1,f,m+z,rest.drop z,by go_num,by omega,by omega,HO.out,by unfold Hid;rw [HR.out,List.drop_drop],i.out,F.out⟩
     case measure=>simp [intOf];omega
  ·have g7:¬ (k:Int)≤100000:=by omega
   obtain rfl:f=0:=by omega
   have HO:=aa (HD.out _ rfl);go_wp2_with fail;refine bodyPost_ret (v:=.tuple #[.slice none 0 0,.int .i64 0,.int .i64 180]) (by simp [results,Tryz.results25,go_sem]) rfl ?_;exact ⟨_,[],0,180,rest,rfl,HO.out,Row.nil _ _,(fun x hx=>by cases hx),HS.out,⟨_,HR.out⟩,HK.out⟩

theorem DrawR.less {n e r:Nat} (hn:16≤n):∀ {f:Nat} {bs:List Nat} {k:Nat} {P:List Nat} {K:Nat} {R:List Nat},DrawR n e r f bs k (P,K,0,R)→R.length<bs.length
 | 0,_,_,_,_,_,h=>by
  have:=congrArg (fun o=>o.2.2.1) h;simp at this
 | f+1,bs,k,P,K,R,h=>by
  have hz:0<(n+7)/8:=by omega
  rcases h with ⟨_,h2⟩ | ⟨h1,_,h3⟩ | ⟨h1,_,is,ls,E,rest,h3,h4⟩
  ·have:=congrArg (fun o=>o.2.2.1) h2;simp at this
  ·have:=DrawR.less hn h3;rw [List.length_drop] at this;omega
  ·obtain ⟨m,hm⟩:=fC (bw bs n) (r:Int) (bs.drop ((n+7)/8));rw [h3] at hm;have a:rest=(bs.drop ((n+7)/8)).drop m:=hm;have hl:rest.length<bs.length:=by
    rw [a,List.length_drop,List.length_drop];omega
   rcases h4 with ⟨a1,a2⟩ | ⟨_,_,a3⟩ | ⟨_,_,a3⟩
   ·have e1:=congrArg (fun o=>o.2.2.1) a2;simp at e1;exact absurd e1.symm a1
   ·have e1:R=rest:=congrArg (fun o=>o.2.2.2) a3;rw [e1];exact hl
   ·have:=DrawR.less hn a3;omega

def SecR (n e r:Nat) (P:List Nat):Nat→List Nat→List Nat × List Nat × Nat × List Nat→Prop
 | 0,_,_=>False
 | f+1,bs,o=>∃ Q K E R,DrawR n e r 100000 bs 1 (Q,K,E,R)∧((E≠0∧o=([],[],E,R))∨(E=0∧P≠Q∧o=(P,Q,0,R))∨(E=0∧P=Q∧SecR n e r P f R o))

def PairR (n e r:Nat) (bs:List Nat) (o:List Nat × List Nat × Nat × List Nat):Prop:=
 ∃ P K E R,DrawR (n/2) e r 100000 bs 1 (P,K,E,R)∧((E≠0∧o=([],[],E,R))∨(E=0∧SecR (n/2) e r P (R.length+1) R o))

theorem SecR.uniq {n e r:Nat} {P:List Nat}:∀ {f:Nat} {bs:List Nat} {o o':List Nat × List Nat × Nat × List Nat},SecR n e r P f bs o→SecR n e r P f bs o'→o=o'
 | 0,_,_,_,h,_=>h.elim
 | f+1,bs,o,o',⟨Q,K,E,R,h1,h2⟩,⟨Q',K',E',R',g1,g2⟩=>by
  have hu:=h1.uniq g1;obtain ⟨rfl,rfl,rfl,rfl⟩:Q=Q'∧K=K'∧E=E'∧R=R':=by simpa using hu
  rcases h2 with ⟨a1,a2⟩ | ⟨a1,a2,a3⟩ | ⟨a1,a2,a3⟩
  ·rcases g2 with ⟨_,b2⟩ | ⟨b1,_⟩ | ⟨b1,_⟩
   ·exact a2.trans b2.symm
   ·exact absurd b1 a1
   ·exact absurd b1 a1
  ·rcases g2 with ⟨b1,_⟩ | ⟨_,_,b3⟩ | ⟨_,b2,_⟩
   ·exact absurd a1 b1
   ·exact a3.trans b3.symm
   ·exact absurd b2 a2
  ·rcases g2 with ⟨b1,_⟩ | ⟨_,b2,_⟩ | ⟨_,_,b3⟩
   ·exact absurd a1 b1
   ·exact absurd a2 b2
   ·exact SecR.uniq a3 b3

theorem PairR.uniq {n e r:Nat} {bs:List Nat} {o o':List Nat × List Nat × Nat × List Nat} (h:PairR n e r bs o) (g:PairR n e r bs o'):o=o':=by
 obtain ⟨P,K,E,R,h1,h2⟩:=h;obtain ⟨P',K',E',R',g1,g2⟩:=g;have hu:=h1.uniq g1;obtain ⟨rfl,rfl,rfl,rfl⟩:P=P'∧K=K'∧E=E'∧R=R':=by simpa using hu
 rcases h2 with ⟨a1,a2⟩ | ⟨a1,a2⟩
 ·rcases g2 with ⟨_,b2⟩ | ⟨b1,_⟩
  ·exact a2.trans b2.symm
  ·exact absurd b1 a1
 ·rcases g2 with ⟨b1,_⟩ | ⟨_,b2⟩
  ·exact absurd a1 b1
  ·exact a2.uniq b2

theorem oT (b:Nat) (n r:Int) (e:Nat) (he:e<18446744073709551616) (w:World) (a:n<32∨8192<n∨n%128≠0∨e<3∨e%2=0∨4294967296≤e∨r<1∨100<r) :
  Calls Tryz.prog 10 #[.pointer (some ⟨b,0,none⟩),.int .i64 n,.int .u64 (e:Nat),.int .i64 r] w fun q w'=>q=.returned (.tuple #[.slice none 0 0,.slice none 0 0,.int .i64 1])∧w'=w:=by
 by_cases h1:n<32
 ·clear a;go_enter Tryz.func10,Tryz.ntmps10;go_wp2_with fail;refine bodyPost_ret (v:=.tuple #[.slice none 0 0,.slice none 0 0,.int .i64 1]) (by simp [results,Tryz.results10,go_sem]) rfl ?_;exact ⟨rfl,rfl⟩
 ·have g1:¬ n<32:=h1;by_cases h2:8192<n
  ·have g2:n > 8192:=h2;clear a;go_enter Tryz.func10,Tryz.ntmps10;go_wp2_with fail;refine bodyPost_ret (v:=.tuple #[.slice none 0 0,.slice none 0 0,.int .i64 1]) (by simp [results,Tryz.results10,go_sem]) rfl ?_;exact ⟨rfl,rfl⟩
  ·have g2:¬ n > 8192:=h2;by_cases h3:n%128≠0
   ·have g3:¬ n.tmod 128=0:=by rw [Int.tmod_eq_emod_of_nonneg (by omega)];omega
    clear a;go_enter Tryz.func10,Tryz.ntmps10;go_wp2_with fail;refine bodyPost_ret (v:=.tuple #[.slice none 0 0,.slice none 0 0,.int .i64 1]) (by simp [results,Tryz.results10,go_sem]) rfl ?_;exact ⟨rfl,rfl⟩
   ·have g3:n.tmod 128=0:=by rw [Int.tmod_eq_emod_of_nonneg (by omega)];omega
    have d:n%128=0:=by omega
    by_cases h4:e<3
    ·have g4:(e:Int)<3:=by omega
     clear a;go_enter Tryz.func10,Tryz.ntmps10;go_wp2_with fail;refine bodyPost_ret (v:=.tuple #[.slice none 0 0,.slice none 0 0,.int .i64 1]) (by simp [results,Tryz.results10,go_sem]) rfl ?_;exact ⟨rfl,rfl⟩
    ·have g4:¬ (e:Int)<3:=by omega
     by_cases h5:e%2=0
     ·have g5:(e:Int)%2=0:=by omega
      clear a;go_enter Tryz.func10,Tryz.ntmps10;go_wp2_with fail;refine bodyPost_ret (v:=.tuple #[.slice none 0 0,.slice none 0 0,.int .i64 1]) (by simp [results,Tryz.results10,go_sem]) rfl ?_;exact ⟨rfl,rfl⟩
     ·have g5:¬ (e:Int)%2=0:=by omega
      by_cases h6:4294967296≤e
      ·have g6:(e:Int)≥4294967296:=by omega
       have c:(4294967296:Int)≤(e:Int):=by omega
       clear a;go_enter Tryz.func10,Tryz.ntmps10;go_wp2_with fail;refine bodyPost_ret (v:=.tuple #[.slice none 0 0,.slice none 0 0,.int .i64 1]) (by simp [results,Tryz.results10,go_sem]) rfl ?_;exact ⟨rfl,rfl⟩
      ·have g6:¬ (e:Int)≥4294967296:=by omega
       have c:¬ (4294967296:Int)≤(e:Int):=by omega
       by_cases h7:r<1
       ·clear a;go_enter Tryz.func10,Tryz.ntmps10;go_wp2_with fail;refine bodyPost_ret (v:=.tuple #[.slice none 0 0,.slice none 0 0,.int .i64 1]) (by simp [results,Tryz.results10,go_sem]) rfl ?_;exact ⟨rfl,rfl⟩
       ·skip
        have h8:100<r:=by omega
        have g8:r > 100:=h8;clear a;go_enter Tryz.func10,Tryz.ntmps10;go_wp2_with fail;refine bodyPost_ret (v:=.tuple #[.slice none 0 0,.slice none 0 0,.int .i64 1]) (by simp [results,Tryz.results10,go_sem]) rfl ?_;exact ⟨rfl,rfl⟩

def vZ (w:World) (b B n e r:Nat) (bs:List Nat) (q:Ending) (w':World):Prop:=∃ u v P Q E R,q=.returned (.tuple #[u,v,.int .i64 (E:Nat)])∧PairR n e r bs (P,Q,E,R)∧Row .u64 w' u P∧Row .u64 w' v Q∧(∀ x,u.ownBlock=some x→w.heap.size≤x)∧(∀ x,v.ownBlock=some x→w.heap.size≤x)∧ScrAt w' b B R∧(∃ m,R=bs.drop m)∧Kept (fun x=>x=b) w w'

theorem yT (b B:Nat) (bs:List Nat) (n e r:Nat) (hn:32≤n) (aw:n≤8192) (au:n%128=0) (ac:3≤e) (J:e%2≠0) (he:e<4294967296) (g:1≤r) (c:r≤100) (w:World) (h:ScrAt w b B bs) (hB:B≤w.heap.size) (l:Digs bs 256) (I:bs.length≤1000000) :
  Calls Tryz.prog 10 #[.pointer (some ⟨b,0,none⟩),.int .i64 (n:Nat),.int .u64 (e:Nat),.int .i64 (r:Nat)] w fun q w'=>vZ w b B n e r bs q w':=by
 obtain ⟨d,hd⟩:∃ d,d=n/2:=⟨_,rfl⟩
 have ab:(n:Int).tdiv 2=(d:Int):=by rw [Int.tdiv_eq_ediv_of_nonneg (by omega)];omega
 have U:(n:Int)/2=(d:Int):=by omega
 have g1:¬ (n:Int)<32:=by omega
 have g2:¬ (n:Int) > 8192:=by omega
 have ad:¬ (8192:Int)<(n:Int):=by omega
 have g3:(n:Int).tmod 128=0:=by rw [Int.tmod_eq_emod_of_nonneg (by omega)];omega
 have ae:(n:Int)%128=0:=by omega
 have g4:¬ (e:Int)<3:=by omega
 have g5:¬ (e:Int)%2=0:=by omega
 have g6:¬ (e:Int)≥4294967296:=by omega
 have ak:¬ (4294967296:Int)≤(e:Int):=by omega
 have g7:¬ (r:Int)<1:=by omega
 have g8:¬ (r:Int) > 100:=by omega
 have al:¬ (100:Int)<(r:Int):=by omega
 have JD:=aa fun cs W (hS:ScrAt W b B cs) (hBW:B≤W.heap.size) (hdc:Digs cs 256) (hlc:cs.length≤1000000)=>xW b B cs d e r (by omega) (by omega) ac J (by omega) g c W hS hBW hdc hlc
 have J0:=JD.out bs w h hB l I;have av:=aa l;have ao:=aa I;have HD:=aa hd;have t:Hid (16≤d):=by unfold Hid;omega
 have ax:b<w.heap.size:=h.lt;clear h l I hd J ac hn aw au he g c;go_enter Tryz.func10,Tryz.ntmps10;go_wp2_with fail;refine J0.mono ?_;rintro q w1 ⟨u,P,K,E,R,rfl,am,g,X,Z,⟨m1,V⟩,k1⟩;obtain ⟨uo,un,uc,rfl,_⟩:=g.open;have N:=aa g;have S:=aa X;have A:=aa Z;have z:=aa k1;have D:=aa V;have p:=aa am;have an:=k1.size;clear J0 g X Z k1 V am;by_cases hE:E=0
 ·subst hE;go_wp2_with fail;go_loopw [14] (fun _ wr=>∃ (f m:Nat) (rest:List Nat),Hid (rest.length<f)∧Hid (∀ o,SecR d e r P f rest o→SecR d e r P (R.length+1) R o)∧Hid (rest=bs.drop m)∧Hid (ScrAt wr b B rest)∧Hid (Row .u64 wr (.slice uo un uc) P)∧Hid (Kept (fun x=>x=b) w wr)) (fun _ wr=>gC b wr)
  case atStart=>exact ⟨R.length+1,m1,R,by unfold Hid;omega,fun _ h=>h,D.out,A.out,N.out,z.out⟩
  case round=>
   clear N A z D an;obtain ⟨f,m,rest,HL,HC,HM,HS,HR,HK⟩:=hrel;have aj:rest.length≤1000000:=by rw [HM.out,List.length_drop];have:=ao.out;omega
   have L:Digs rest 256:=by rw [HM.out];exact av.out.drop _
   have ay:=HK.out.size;obtain ⟨f,rfl⟩:∃ f',f=f'+1:=⟨f-1,by have:=HL.out;omega⟩
   have J1:=JD.out rest wr HS.out (by omega) L aj;clear aj L;go_wp2_with fail;refine J1.mono ?_;rintro q w2 ⟨v,Q,K2,E2,R2,rfl,ai,c,ag,O,⟨m2,T⟩,k2⟩;obtain ⟨vo,vn,vc,rfl,_⟩:=c.open;have Y:=aa c;have ar:Hid (∀ x,(Value.slice vo vn vc).ownBlock=some x→w.heap.size≤x):=fun x hx=>by
    have:=ag x hx;omega
   have k:=aa O;have F:=aa (HK.out.trans k2);have G:=aa (HR.out.kept k2 (fun x hx f=>by
    have f':x=b:=f;have:=S.out x hx;omega))
   have C:Hid (R2=bs.drop (m+m2)):=by unfold Hid;rw [T,HM.out,List.drop_drop]
   have i:=aa ai;clear J1 c ag O k2 T ai;by_cases hE2:E2=0
   ·subst hE2;have J2:=jA _ _ P Q w2 G.out Y.out;by_cases hPQ:P=Q
    ·subst hPQ;rw [aQ rfl] at J2;have a:=i.out.less t.out;have M:=aa a;have az:Hid (gC b w2<gC b wr):=by unfold Hid;rw [k.out.len,HS.out.len];exact a
     have ap:Hid (∀ o,SecR d e r P f R2 o→SecR d e r P (R.length+1) R o):=fun o ho=>HC.out o ⟨_,_,_,_,i.out,.inr (.inr ⟨rfl,rfl,ho⟩)⟩
     clear a;go_wp2_with fail;refine J2.mono ?_;rintro q w3 ⟨rfl,n3,rfl⟩;have k3:Kept af w2 (w2.drewN n3):=(ah _ _).drewN n3;have j:=aa (k.out.grew k3);have s:=aa (G.out.grew k3);have H:=aa (F.out.drewN n3);have y:Hid (gC b (w2.drewN n3)<gC b wr):=by unfold Hid;rw [j.out.len,HS.out.len];exact M.out
     clear J2 k3;go_wp2_with fail;go_roundw
     case rel=>exact ⟨f,_,R2,by unfold Hid;have:=M.out;have:=HL.out;omega,ap.out,C.out,j.out,s.out,H.out⟩
     case measure=>exact y.out
    ·rw [aD hPQ] at J2;have HO:Hid (PairR n e r bs (P,Q,0,R2)):=⟨_,_,_,_,by rw [← HD.out];exact p.out,.inr ⟨rfl,by rw [← HD.out];exact HC.out _ ⟨_,_,_,_,i.out,.inr (.inl ⟨rfl,hPQ,rfl⟩)⟩⟩⟩
     go_wp2_with fail;refine J2.mono ?_;rintro q w3 ⟨rfl,n3,rfl⟩;have k3:Kept af w2 (w2.drewN n3):=(ah _ _).drewN n3;have j:=aa (k.out.grew k3);have s:=aa (G.out.grew k3);have aq:=aa (Y.out.grew k3);have H:=aa (F.out.drewN n3);clear J2 k3;go_wp2_with fail;refine bodyPost_ret (v:=.tuple #[.slice uo un uc,.slice vo vn vc,.int .i64 0]) (by simp [results,Tryz.results10,go_sem]) rfl ?_;exact ⟨_,_,P,Q,0,R2,rfl,HO.out,s.out,aq.out,S.out,ar.out,j.out,⟨_,C.out⟩,H.out⟩
   ·have g9:¬ (E2:Int)=0:=by omega
    clear g3 ae g4 g5 g6 ak g7 g8 al g1 g2 ad ab U;have HO:Hid (PairR n e r bs ([],[],E2,R2)):=⟨_,_,_,_,by rw [← HD.out];exact p.out,.inr ⟨rfl,by rw [← HD.out];exact HC.out _ ⟨_,_,_,_,i.out,.inl ⟨hE2,rfl⟩⟩⟩⟩
    clear hE2;go_wp2_with fail;refine bodyPost_ret (v:=.tuple #[.slice none 0 0,.slice none 0 0,.int .i64 (E2:Nat)]) (by simp [results,Tryz.results10,go_sem]) rfl ?_;exact ⟨_,_,[],[],E2,R2,rfl,HO.out,Row.nil _ _,Row.nil _ _,(fun x hx=>by cases hx),(fun x hx=>by cases hx),k.out,⟨_,C.out⟩,F.out⟩
 ·have g9:¬ (E:Int)=0:=by omega
  clear g3 ae g4 g5 g6 ak g7 g8 al g1 g2 ad ab U;have HO:Hid (PairR n e r bs ([],[],E,R)):=⟨_,_,_,_,by rw [← HD.out];exact p.out,.inl ⟨hE,rfl⟩⟩
  clear hE;go_wp2_with fail;refine bodyPost_ret (v:=.tuple #[.slice none 0 0,.slice none 0 0,.int .i64 (E:Nat)]) (by simp [results,Tryz.results10,go_sem]) rfl ?_;exact ⟨_,_,[],[],E,R,rfl,HO.out,Row.nil _ _,Row.nil _ _,(fun x hx=>by cases hx),(fun x hx=>by cases hx),A.out,⟨_,D.out⟩,z.out⟩

end Go.Proofs.YtcemlfokmjjiaaaGreatDoor
