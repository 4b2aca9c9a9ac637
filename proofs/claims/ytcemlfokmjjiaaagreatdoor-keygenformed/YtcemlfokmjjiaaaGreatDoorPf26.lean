/- Put together of: Ivn9 Pri2 Seq5 Pri3 Pri0. -/
import Derived.Test.YtcemlfokmjjiaaaGreatDoorPf25

namespace Go.Proofs.YtcemlfokmjjiaaaGreatDoor
set_option maxRecDepth 100000
set_option maxHeartbeats 4000000
open Go.RowKit

def yQ (w:World):Value→Nat
 | .slice (some a) n _=>val ((List.range n).map fun i=>cellN w ⟨a.block,a.off+i,none⟩)
 | _=>0

theorem Row.num {w:World} {v:Value} {ds:List Nat} (h1:Row .u64 w v ds):yQ w v=val ds:=by
 obtain ⟨ao,cap,rfl,_,_,_,hc⟩:=h1;cases ao with
 | none=>
  have:ds=[]:=by
   rcases ds with _ | ⟨d,r⟩
   ·rfl
   ·obtain ⟨b,off,e,_⟩:=hc 0 (by simp);cases e
  subst this;rfl
 | some a=>
  show val ((List.range ds.length).map fun i=>cellN w ⟨a.block,a.off+i,none⟩)=_
  congr 1
  refine List.ext_getElem (by simp) (fun i h1 h2=>?_);obtain ⟨b,off,e,c⟩:=hc i h2;cases e
  rw [List.getElem_map,List.getElem_range];unfold cellN;rw [c,List.getD_eq_getElem?_getD,List.getElem?_eq_getElem h2];simp

theorem xO {xs:List Nat} {m:Nat} (hm:m≤xs.length) (h:val xs<18446744073709551616^m):val (xs.take m)=val xs:=by
 have e:=aw 18446744073709551616 xs m hm;rcases Nat.eq_zero_or_pos (val (xs.drop m)) with h0 | h0
 ·rw [h0] at e;omega
 ·have:=Nat.mul_le_mul_left (18446744073709551616^m) h0;omega

theorem Bj (ao:Option Addr) (n cap:Nat) (xs:List Nat) (w:World) (h:Row .u64 w (.slice ao n cap) xs) (hd:Digs xs) (hl:n≤300) :
  Calls Tryz.prog 149 #[.slice ao n cap] w fun e w'=>∃ (g:Option Addr) (m a:Nat) (ys:List Nat),e=.returned (.slice g m a)∧m≤n∧Row .u64 w (.slice g m a) ys∧Digs ys∧val ys=val xs∧w'=w:=by
 have hB:=dG _ xs w h hd (by obtain ⟨_,_,_,e,h',_⟩:=h.open;cases e;rw [h'.out];omega);obtain ⟨_,_,_,e1,hL,k,o,l,_⟩:=h.open;cases e1
 obtain ⟨m,hm⟩:∃ m,m=aj (val xs):=⟨_,rfl⟩
 have f:m≤n:=by
  rw [hm,← hL.out];exact (am _ _).2 (aq (by omega) hd)
 have d:=gM (val xs);rw [← hm] at d;have i:au (val xs)≤64*n:=by
  rw [aA,← B64,← hL.out];exact aq (by omega) hd
 have hv:val (xs.take m)=val xs:=xO (by rw [hL.out];exact f) ((am _ _).1 (by omega));have c:=aa (h.cut (m:=m) (by rw [hL.out];exact f));have HD:=aa (hd.take m);have HV:=aa hv;obtain ⟨b,hb⟩:∃ b,b=au (val xs):=⟨_,rfl⟩
 rw [← hb] at hB d i;have g1:((b:Int)+64-1)/64=(m:Int):=by omega
 have g2:(m:Int)≤(cap:Int):=by omega
 have g0:(0:Int)≤(m:Int):=Int.natCast_nonneg _;have j:n≤cap:=k;clear hv d hb h hd hL hm;go_enter Tryz.func149,Tryz.ntmps149;go_wp2_with fail;refine hB.mono ?_;rintro e w1 ⟨rfl,rfl⟩;clear hB;go_wp2_with fail;go_ret;exact ⟨_,_,_,_,rfl,f,c.out,HD.out,HV.out,rfl⟩

theorem nd {A C n:Nat} (hA:A<18446744073709551616^n) (hC:C<18446744073709551616^n):Nat.gcd A C<18446744073709551616^n:=by
 rcases Nat.eq_zero_or_pos A with h | h
 ·rw [h,Nat.gcd_zero_left];exact hC
 ·exact Nat.lt_of_le_of_lt (Nat.gcd_le_left _ h) hA

theorem vw {V n:Nat} (h:V<18446744073709551616^n) (hn:n≤300):aU V (n:Int)=0∧bj V (n:Int)=digs V n:=by
 have hw:=(am V n).2 h;have e:aU V (n:Int)=0:=by
  unfold aU;rw [if_neg (by omega),if_neg (by omega)]
 exact ⟨e,by unfold bj;rw [if_pos e];rfl⟩

theorem kf (ao bo:Option Addr) (L M cap c:Nat) (xs ys:List Nat) (E:Nat) (hE:E=if gC L M=true then 0 else 2) (RL:List Nat) (g:RL=if E=0 then digs (Nat.gcd (val xs) (val ys)) (max L M) else []) (w:World) (hu:Row .u64 w (.slice ao L cap) xs) (hv:Row .u64 w (.slice bo M c) ys) (k:Digs xs) (j:Digs ys) :
  Calls Tryz.prog 106 #[.slice ao L cap,.slice bo M c] w fun e w'=>∃ v',e=.returned (.tuple #[v',.int .i64 (E:Nat)])∧Row .u64 w' v' RL∧Kept af w w':=by
 have lx:xs.length=L:=by obtain ⟨_,_,_,e,h,_⟩:=hu.open;cases e;exact h.out
 have ly:ys.length=M:=by obtain ⟨_,_,_,e,h,_⟩:=hv.open;cases e;exact h.out
 have R:max (L:Int) (M:Int)=((max L M:Nat):Int):=by omega
 by_cases hok:L≤300∧M≤300
 ·rw [if_pos (by unfold gC;exact aT hok)] at hE;subst hE;rw [if_pos rfl] at g;have hA:val xs<18446744073709551616^max L M:=Nat.lt_of_lt_of_le (aq (by omega) k) (Nat.pow_le_pow_right (by omega) (by omega));have hC:val ys<18446744073709551616^max L M:=Nat.lt_of_lt_of_le (aq (by omega) j) (Nat.pow_le_pow_right (by omega) (by omega));have hG:=nd hA hC;have Q:max L M≤300:=by omega
  obtain ⟨r1,r2⟩:=vw hG Q;have g1:¬ ((max L M:Nat):Int) > 300:=by omega
  have HU:=aa hu;have HV:=aa hv;have HX:=aa k;have HY:=aa j;have B:=aa g;have v:=aa r1;have C:=aa r2;obtain ⟨G,q⟩:∃ G,G=Nat.gcd (val xs) (val ys):=⟨_,rfl⟩
  rw [← q] at v C B;have A:=aa q.symm;generalize max L M=N at *;clear hu hv k j g r1 r2 hG hA hC q lx ly;go_enter Tryz.func106,Tryz.ntmps106;go_wp2_with fail;go_loopw [0,1] (fun a b wr=>∃ (ao bo:Option Addr) (L M cap c:Nat) (xs ys:List Nat),a=.slice ao L cap∧b=.slice bo M c∧L≤300∧M≤300∧Hid (Row .u64 wr (.slice ao L cap) xs)∧Hid (Row .u64 wr (.slice bo M c) ys)∧Hid (Digs xs)∧Hid (Digs ys)∧Hid (Nat.gcd (val xs) (val ys)=G)∧Hid (Kept af w wr)) (fun _ b wr=>yQ wr b)
  case atStart=>exact ⟨ao,bo,L,M,cap,c,xs,ys,rfl,rfl,hok.1,hok.2,HU.out,HV.out,HX.out,HY.out,A.out,ai _ _⟩
  case round=>
   clear HU HV HX HY A hok;obtain ⟨ao,bo,L,M,cap,c,xs,ys,rfl,rfl,hL,hM,HU,HV,HX,HY,HG,HK⟩:=hrel;have ly:ys.length=M:=by obtain ⟨_,_,_,e,h,_⟩:=HV.out.open;cases e;exact h.out
   have hB:=dG _ ys wr HV.out HY.out (by rw [ly];omega);have d:=HV.out.num;by_cases h0:val ys=0
   ·have f:au (val ys)=0:=by rw [h0];rfl
    rw [f] at hB;have o:=HG.out;rw [h0,Nat.gcd_zero_right] at o;have r:=qg _ xs (N:Int) wr HU.out HX.out;rw [o,v.out,C.out] at r;have O:=aa HK.out;clear d f o h0 ly;go_wp2_with fail;refine hB.mono ?_;rintro e w1 ⟨rfl,rfl⟩;clear hB;go_wp2_with fail;refine r.mono ?_;rintro e w2 ⟨v2,rfl,i,k2⟩;go_wp2_with fail;go_ret2;refine ⟨_,by first | rfl | trivial,?_,O.out.trans k2⟩;rw [B.out];exact i
   ·obtain ⟨E,hE⟩:∃ E,E=iz (val ys) L M:=⟨_,rfl⟩
    obtain ⟨e1,_,e3⟩:=eE (X:=val xs) (Y:=val ys) (L:=L) (M:=M) ⟨hL,hM⟩ h0;have hQ:=ph ao bo L M cap c xs ys 0 e1.symm wr HU.out HV.out HX.out HY.out;rw [e3] at hQ;have H:0<au (val ys):=by
     rcases Nat.eq_zero_or_pos (au (val ys)) with h | h
     ·have:=(aA (val ys) 0).1 (by omega);rw [Nat.pow_zero] at this;omega
     ·exact h
    obtain ⟨bl,f⟩:∃ bl,bl=au (val ys):=⟨_,rfl⟩
    rw [← f] at hB H;have gb:(bl:Int) > 0:=by omega
    have hlt:val xs%val ys<val ys:=Nat.mod_lt _ (by omega);have W:val ys<18446744073709551616^M:=by rw [← ly];exact aq (by omega) HY.out
    have l:Hid (val (digs (val xs%val ys) M)=val xs%val ys):=by
     unfold Hid;rw [ak,al (by omega)]
    have U:Hid (Nat.gcd (val ys) (val xs%val ys)=G):=by
     unfold Hid;rw [← HG.out,Nat.gcd_comm (val ys),← Nat.gcd_rec,Nat.gcd_comm]
    have J:=aa hlt;have m:=aa d;clear hE e1 e3 f hlt W h0 HG d ly;go_wp2_with fail;refine hB.mono ?_;rintro e w1 ⟨rfl,rfl⟩;clear hB;go_wp2_with fail;refine hQ.mono ?_;rintro e w2 ⟨v1,v2,rfl,S,i,k2⟩;obtain ⟨ro,rn,rc,rfl,t,_⟩:=i.open;have P:rn=M:=by rw [← t.out,ag]
    subst P;have D:=Bj ro rn rc _ w2 i (ah (by omega) _ _) hM;clear hQ S t;go_wp2_with fail;refine D.mono ?_;rintro e w3 ⟨I,m',p,zs,rfl,Z,z,s,n,rfl⟩;rw [l.out] at n;have x:=aa z;have F:=aa s;have y:=aa n;have T:=aa (HV.out.grew k2);have V:=aa (HK.out.trans k2);clear D i z s n k2;go_wp2_with fail;go_roundw
    case rel=>exact ⟨bo,I,rn,m',c,p,ys,zs,rfl,rfl,hM,by omega,T.out,x.out,HY.out,F.out,by unfold Hid;rw [y.out];exact U.out,V.out⟩
    case measure=>rw [x.out.num,y.out,m.out];exact J.out
 ·rw [if_neg (by unfold gC;simpa using hok)] at hE;subst hE;rw [if_neg (by omega)] at g;subst g;have g1:((max L M:Nat):Int) > 300:=by omega
  clear hu hv k j lx ly;generalize max L M=N at *;go_enter Tryz.func106,Tryz.ntmps106;go_wp2;go_ret2;exact ⟨_,rfl,Row.nil _ _,ai _ _⟩

theorem mD (V:Nat):au V=1↔V=1:=by
 have h1:=aA V 1;have h0:=aA V 0;rw [Nat.pow_one] at h1;rw [Nat.pow_zero] at h0;omega

theorem vD (ao bo:Option Addr) (L M cap c:Nat) (xs ys:List Nat) (R:Bool) (hR:R=decide (gC L M=true∧Nat.gcd (val xs) (val ys)=1)) (w:World) (hu:Row .u64 w (.slice ao L cap) xs) (hv:Row .u64 w (.slice bo M c) ys) (b:Digs xs) (a:Digs ys) :
  Calls Tryz.prog 81 #[.slice ao L cap,.slice bo M c] w fun e w'=>e=.returned (.bool R)∧Kept af w w':=by
 have lx:xs.length=L:=by obtain ⟨_,_,_,e,h,_⟩:=hu.open;cases e;exact h.out
 have ly:ys.length=M:=by obtain ⟨_,_,_,e,h,_⟩:=hv.open;cases e;exact h.out
 by_cases hok:gC L M=true
 ·have hD:=kf ao bo L M cap c xs ys 0 (by rw [if_pos hok]) _ rfl w hu hv b a;rw [if_pos rfl] at hD;have g:L≤300∧M≤300:=by unfold gC at hok;simpa using hok
  have hA:val xs<18446744073709551616^max L M:=Nat.lt_of_lt_of_le (aq (by omega) b) (Nat.pow_le_pow_right (by omega) (by omega));have hC:val ys<18446744073709551616^max L M:=Nat.lt_of_lt_of_le (aq (by omega) a) (Nat.pow_le_pow_right (by omega) (by omega));have hG:=nd hA hC;obtain ⟨G,d⟩:∃ G,G=Nat.gcd (val xs) (val ys):=⟨_,rfl⟩
  rw [← d] at hD hG;have HR:Hid (R=decide ((au G:Int)=1)):=by
   unfold Hid;rw [hR];refine decide_eq_decide.2 ⟨fun h=>?_,fun h=>⟨hok,by rw [← d];exact (mD G).1 (by omega)⟩⟩;have:=(mD G).2 (by rw [d];exact h.2);omega
  have JB:Hid (∀ W v,Row .u64 W v (digs G (max L M))→Calls Tryz.prog 91 #[v] W fun r w'=>r=.returned (.int .i64 (au G:Nat))∧w'=W):=fun W v h=>by
   have:=dG v _ W h (ah (by omega) _ _) (by rw [ag];omega);rw [ak,al hG] at this;exact this
  clear hu hv b a lx ly hR hok hA hC hG d;generalize au G=bl at *;go_enter Tryz.func81,Tryz.ntmps81;go_wp2_with fail;refine hD.mono ?_;rintro e w1 ⟨v1,rfl,f,k1⟩;have hB:=JB.out w1 v1 f;clear hD;go_wp2_with fail;refine hB.mono ?_;rintro e w2 ⟨rfl,rfl⟩;go_wp2_with fail;go_ret;rw [HR.out];exact ⟨by first | rfl | simp,k1⟩
 ·have hD:=kf ao bo L M cap c xs ys 2 (by rw [if_neg hok]) _ rfl w hu hv b a;have HR:Hid (R=false):=by
   unfold Hid;rw [hR];exact aC (fun h=>hok h.1)
  clear hu hv b a lx ly hR hok;go_enter Tryz.func81,Tryz.ntmps81;go_wp2_with fail;refine hD.mono ?_;rintro e w1 ⟨v1,rfl,f,k1⟩;clear hD;go_wp2_with fail;go_ret;rw [HR.out];exact ⟨by first | rfl | simp,k1⟩

theorem uM {X n:Nat} (hX:X<18446744073709551616^n) (h0:X≠0):cS X 1 n%18446744073709551616^n=X-1:=by
 unfold cS;rw [if_neg (by omega),al (by omega)]

theorem yZ (ao:Option Addr) (L cap:Nat) (xs:List Nat) (e:Nat) (he:e<18446744073709551616) (R:Bool) (hR:R=true↔fd (val xs) e) (w:World) (hu:Row .u64 w (.slice ao L cap) xs) (a:Digs xs) (y:L≤999999) :
  Calls Tryz.prog 41 #[.slice ao L cap,.int .u64 (e:Nat)] w fun r w'=>r=.returned (.bool R)∧Kept af w w':=by
 obtain ⟨_,_,_,e1,hL,-,-,-,-⟩:=hu.open;cases e1
 have HU:=aa hu;have HR:=aa hR;have HF:Hid (¬ fd (val xs) e→R=false):=fun h=>by
  cases h2:R with
  | false=>rfl
  | true=>exact absurd (HR.out.1 h2) h
 have hX:val xs<18446744073709551616^L:=by rw [← hL.out];exact aq (by omega) a
 by_cases a2:e=0
 ·have HT:=aa (HF.out (fun h=>h.2.1 a2));subst a2;clear hu a hL hR hX;go_enter Tryz.func41,Tryz.ntmps41;go_wp2_with fail;go_ret;exact ⟨by rw [HT.out];rfl,ai _ _⟩
 have q2:((e:Int) == 0)=false:=by simp;omega
 have z:¬ (e:Int)=0:=by omega
 by_cases a3:jP (val xs)
 ·have J1:=pO ao L cap xs true (by simp [a3]) w hu a (by omega);have f:val xs≠0:=fun h=>by rw [h] at a3;exact absurd a3 (by unfold jP;intro h;exact absurd h.1 (by omega))
  have v:L≠0:=fun h=>by
   rw [h] at hX;simp at hX;exact f hX
  have JW:=aa fun W (x:Nat) (hx:x<18446744073709551616)=>ll x hx 1 W
  have p:dg 1=1:=rfl;rw [p] at JW;have v1:val (digs 1 1)=1:=rfl;have HD:=aa a;have n:Hid (xs.length=L):=hL;have m:=aa f;have HX:=aa hX;have t:=aa a3;have j2:=JW.out;clear hu a hL hR hX f a3;go_enter Tryz.func41,Tryz.ntmps41;go_wp2_with fail;refine J1.mono ?_;rintro r w1 ⟨rfl,k1⟩;have J2:=JW.out w1 1 (by omega);clear J1 j2;go_wp2_with fail;refine J2.mono ?_;rintro r w2 ⟨u2,rfl,r2,k2⟩;have K2:=aa (k1.trans k2);have J3:=pd none (.slice ao L cap) u2 xs _ w2 (TrRoom.none w2 1 (by omega)) (RowT.none (HU.out.grew K2.out)) (RowT.none r2) HD.out (ah (by omega) _ _) (by rw [n.out];omega) (by rw [ag];omega)
  rw [v1,ag,n.out,Nat.max_eq_left (by omega)] at J3;obtain ⟨uo,un,uc,rfl,_⟩:=r2.open;clear J2 r2 k1 k2;go_wp2_with fail;refine J3.mono ?_;rintro r w3 ⟨u3,rfl,h3,o3,d3⟩;have k3:=d3.none.2;have K3:=aa (K2.out.trans k3);have r3:Row .u64 w3 u3 (digs (cS (val xs) 1 L) L):=Row.of_own (base:=w2.heap.size) (e:=23) (by rw [ag];exact h3);obtain ⟨xo,xn,xc,rfl,o,_⟩:=r3.open;have g:xn=L:=by rw [← o.out,ag]
  subst g;have j:val (digs (cS (val xs) 1 xn) xn)=val xs-1:=by
   rw [ak];exact uM HX.out m.out
  obtain ⟨rr,c⟩:∃ rr,rr=(val xs-1)%e:=⟨_,rfl⟩
  have k:rr<18446744073709551616:=by rw [c];exact Nat.lt_of_lt_of_le (Nat.mod_lt _ (by omega)) (by omega)
  have J4:=um xo xn xc _ e rr 0 he (by rw [if_neg a2,j,c]) (by rw [if_neg a2]) w3 r3 (ah (by omega) _ _) (by omega);have s:=aa c;clear J3 h3 d3 k3 r3 o j c;go_wp2_with fail;refine J4.mono ?_;rintro r w4 ⟨rfl,k4⟩;have K4:=aa (K3.out.trans k4);have J5:=JW.out w4 rr k;clear J4 k4;go_wp2_with fail;refine J5.mono ?_;rintro r w5 ⟨u5,rfl,r5,k5⟩;obtain ⟨yo,yn,yc,rfl,i,_⟩:=r5.open;have K5:=aa (K4.out.trans k5);have J6:=JW.out w5 e he;have R5:=aa r5;have q:Hid (yn=1):=by have:=i.out;rw [ag] at this;exact this.symm
  clear J5 k5 r5 i;go_wp2_with fail;refine J6.mono ?_;rintro r w6 ⟨u6,rfl,r6,k6⟩;obtain ⟨zo,zn,zc,rfl,l,_⟩:=r6.open;have K6:=aa (K5.out.trans k6);have b:zn=1:=by have:=l.out;rw [ag] at this;exact this.symm
  have d:∀ x,x<18446744073709551616→val (digs x 1)=x:=fun x hx=>by rw [ak,Nat.pow_one];exact al hx
  have J7:=vD yo zo yn zn yc zc _ _ R (by
   have hg:Nat.gcd rr e=Nat.gcd (val xs-1) e:=by
    rw [s.out,Nat.gcd_comm (val xs-1) e,Nat.gcd_rec e]
   have ho:gC yn zn=true:=by rw [q.out,b];rfl
   rw [d _ k,d _ he];cases hRb:R with
   | true=>exact (aT ⟨ho,hg.trans (HR.out.1 hRb).2.2.2⟩).symm
   | false=>exact (aC fun h=>by
     have:=HR.out.2 ⟨m.out,a2,t.out,hg.symm.trans h.2⟩;rw [hRb] at this;cases this).symm) w6 (R5.out.grew k6) r6 (ah (by omega) _ _) (ah (by omega) _ _)
  clear J6 k6 r6 l b d;go_wp2_with fail;refine J7.mono ?_;rintro r w7 ⟨rfl,k7⟩;clear J7;go_wp2_with fail;go_ret;exact ⟨rfl,K6.out.trans k7⟩
 ·have HT:=aa (HF.out (fun h=>a3 h.2.2.1));have J1:=pO ao L cap xs false (by simp [a3]) w hu a (by omega);clear hu a hL hR hX;go_enter Tryz.func41,Tryz.ntmps41;go_wp2_with fail;refine J1.mono ?_;rintro r w1 ⟨rfl,k1⟩;go_wp2_with fail;go_ret;exact ⟨by rw [HT.out];rfl,k1⟩

open Go.RowKit Go.Shelf

def pr (P:Program) (l:Nat) (R:Ending→World→Prop):Exit→Act→World→Prop
 | .normal,_,w=>∃ v w',(Instr.endRound l none).run P w=.ok v w'∧R (.returned v) w'
 | .ret,_,w=>∃ v w',(Instr.endRound l (some .ret)).run P w=.ok v w'∧R (.returned v) w'
 | .exit _,_,_=>False
 | .goto _,_,_=>False
 | .panic ch,a,w=>a.defers=[]∧R (.panicked ch) w
 | .outgrown,_,_=>False

theorem oj {P:Program} {n l:Nat} {f:FuncId} {fn:Func} {tmps:Array Value} {assign body:Code} {w:World} {R:Ending→World→Prop} (hf:P.funcs[f]? = some fn)
  (h:assign.wpIn (Fence.wide.inRound l) n P (Exit.then (fun a₁ w₁=>∃ w₂,(Instr.beginRound l).run P w₁=.ok () w₂∧body.wpIn (Fence.wide.inRound l) n P (pr P l R) a₁ w₂) (fun _ _ _=>False))
   { tmps:=tmps,defers:=[] } w) :
  RoundIn Fence.wide n P l f tmps assign body w R:=by
 refine ⟨trivial,fun c cs hr=>?_⟩
 let b:Frame:={ (default:Frame) with fn:=f,kind:=.normal,roundOf:=some l }
 have p:Frame.round l f tmps assign body .normal=b.atR { tmps:=tmps,defers:=[] } [.code assign,.beginRound,.code body]:=by
  simp [Frame.round,Frame.atR,b]
 have j:(Fence.wide.inRound l).room ((c :: cs).length+1+n):=hr;have m:(Fence.wide.inRound l).fn b.fn:=trivial;obtain ⟨e,a₁,w₁,hq,d⟩:=h b [.beginRound,.code body] (c :: cs) rfl m j;rw [← p] at d;cases e with
 | normal=>
  obtain ⟨w₂,q,k⟩:=hq;have s1:StepsIn (Machine.fenced P (Fence.wide.inRound l)) P (lone (b.atR a₁ [.beginRound,.code body]) (c :: cs) w₁) (lone (b.atR a₁ [.code body]) (c :: cs) w₂):=
   .one (fenced_calm (fr:=b.atR a₁ [.beginRound,.code body]) m j rfl) (stepR_beginRound rfl q)
  obtain ⟨e₂,a₂,w₃,i,a⟩:=k b [] (c :: cs) rfl m j;cases e₂ with
  | normal=>
   obtain ⟨v,w₄,g,hR⟩:=i;exact ⟨.returned v,w₄,hR,(StepsIn.trans d s1).trans (StepsIn.trans a (.one (fenced_calm (fr:=b.atR a₂ []) m j rfl) (stepR_round_end rfl rfl g)))⟩
  | ret=>
   obtain ⟨v,w₄,g,hR⟩:=i;obtain ⟨k₁,hs⟩:=a.2 rfl;exact ⟨.returned v,w₄,hR,(StepsIn.trans d s1).trans (StepsIn.trans hs (.one (fenced_calm (fr:=b.atR a₂ (.code .ret :: k₁)) m j rfl) (stepR_round_ret rfl rfl g)))⟩
  | exit id=>exact i.elim
  | goto t=>exact i.elim
  | panic ch=>
   obtain ⟨hd,hR⟩:=i;obtain ⟨o,hs⟩:=a;exact ⟨.panicked ch,w₃,hR,(StepsIn.trans d s1).trans (StepsIn.trans hs (.one (fenced_wide P _) (step_leave_panicked ⟨rfl,hd,fn,hf⟩)))⟩
  | outgrown=>exact i.elim
 | exit id=>exact hq.elim
 | goto t=>exact hq.elim
 | ret=>exact hq.elim
 | panic chain=>exact hq.elim
 | outgrown=>exact hq.elim

def wpF (f:FuncId) (P:Program) (c:Code) (Q:Exit→Act→World→Prop) (a:Act) (w:World):Prop:=
 ∀ (b:Frame) (k:List Item) (cs:List Frame),b.roundOf=none→b.fn=f →
  ∃ e a' w',Q e a' w'∧ArrivesIn (Machine.fenced P Fence.wide) P (lone (b.atR a (.code c :: k)) cs w) b k cs e a' w'

theorem ew {f:FuncId} {P:Program} {n:Nat} {x y:Code} {Q:Exit→Act→World→Prop} {a:Act} {w:World} (h:∀ K:Act→World→Prop,(∀ a w,wpF f P y Q a w→K a w)→x.wpIn Fence.wide n P (Exit.then K Q) a w):wpF f P (Code.seq x y) Q a w:=by
 intro b k cs g hb;have h0:(lone (b.atR a (.code (.seq x y) :: k)) cs w).fenced P Fence.wide:=fenced_wide P _;obtain ⟨e,a₁,w₁,hq,c⟩:=h _ (fun _ _ h=>h) b (.code y :: k) cs g trivial (room_wide _);cases e with
 | normal=>
  obtain ⟨e₂,a₂,w₂,i,d⟩:=hq b k cs g hb;exact ⟨e₂,a₂,w₂,i,.of_steps (.head h0 stepR_seq c) d⟩
 | exit id=>exact ⟨_,a₁,w₁,hq,.of_steps (.one h0 stepR_seq) (.pass (x:=.code y) rfl (fun _ _=>.inl (by simp)) c)⟩
 | goto l=>exact ⟨_,a₁,w₁,hq,.of_steps (.one h0 stepR_seq) (.pass (x:=.code y) rfl (fun _ _=>.inl (by simp)) c)⟩
 | ret=>exact ⟨_,a₁,w₁,hq,.of_steps (.one h0 stepR_seq) (.pass (x:=.code y) rfl (fun _ _=>.inl (by simp)) c)⟩
 | panic ch=>exact ⟨_,a₁,w₁,hq,.of_steps (.one h0 stepR_seq) (.pass (x:=.code y) rfl (fun _ _=>.inl (by simp)) c)⟩
 | outgrown=>exact ⟨_,a₁,w₁,hq,.of_steps (.one h0 stepR_seq) (.pass (x:=.code y) rfl (fun _ _=>.inl (by simp)) c)⟩

theorem rx {f:FuncId} {P:Program} {id:Nat} {c:Code} {Q:Exit→Act→World→Prop} {a:Act} {w:World} (h:wpF f P c (fun e a w=>match e with | .normal=>Q .normal a w | .ret=>Q .ret a w | .panic ch=>Q (.panic ch) a w | _=>False) a w):wpF f P (Code.block id c) Q a w:=by
 intro b k cs g hb;have h0:(lone (b.atR a (.code (.block id c) :: k)) cs w).fenced P Fence.wide:=fenced_wide P _;obtain ⟨e,a₁,w₁,hq,d⟩:=h b (.inBlock id :: k) cs g hb;cases e with
 | normal=>exact ⟨.normal,a₁,w₁,hq,.head h0 stepR_block (StepsIn.trans d (.one (fenced_wide P _) stepR_inBlock))⟩
 | exit id'=>exact hq.elim
 | goto l=>exact hq.elim
 | ret=>exact ⟨_,a₁,w₁,hq,.of_steps (.one h0 stepR_block) d⟩
 | panic ch=>exact ⟨_,a₁,w₁,hq,.of_steps (.one h0 stepR_block) d⟩
 | outgrown=>exact hq.elim

theorem kx {f:FuncId} {P:Program} {n:Nat} {g:Operand} {ps:Array Tmp} {assign body:Code} {Q:Exit→Act→World→Prop} {a:Act} {w:World}
  (h:∃ (l:Nat) (o:List Deferred) (w₁:World) (d:Deferred) (y:World) (gf:FuncId) (args:Array Value) (w₂:World),
   (Instr.enterLoop f a.tmps ps assign body none).run P w=.ok (l,o) w₁ ∧
   (resolve a.eval (rangeCall g l) 0).run P w₁=.ok d y ∧
   (invoke d.target d.args).run P y=.ok (.enter gf args) w₂ ∧
   CallsIn Fence.wide (n-1) P gf args w₂ (rangePost Fence.wide n P l Q { a with defers:=o ++ a.defers })) :
  wpF f P (Code.rangeFunc g ps assign body) Q a w:=by
 intro b k cs z hb;subst hb;obtain ⟨l,o,w₁,d,y,f,args,w₂,he,x,hinv,hF,q⟩:=h;rw [← z] at he;have h0:(lone (b.atR a (.code (.rangeFunc g ps assign body) :: k)) cs w).fenced P Fence.wide:=fenced_wide P _;have j:=stepR_rangeFunc (P:=P) (b:=b) (a:=a) (k:=k) (cs:=cs) (w:=w) he x hinv;obtain ⟨e,w₃,fr,hR,i,B,m⟩:=q (b.atR { a with defers:=o ++ a.defers } (.inRangeFunc l :: k) :: cs) (room_wide _);cases e with
 | outgrown=>
  obtain ⟨a₀,w₀,hq⟩:=hR;exact ⟨.outgrown,a₀,w₀,hq,.inr (Outgrown.of_steps (.one j) i)⟩
 | returned v=>
  obtain ⟨r,w₄,s,hj⟩:=hR;have p:StepsIn (Machine.fenced P Fence.wide) P (lone (b.atR a (.code (.rangeFunc g ps assign body) :: k)) cs w) (lone (b.atR { a with defers:=o ++ a.defers } ((r.map Item.code).toList ++ k)) cs w₄):=by
   refine .head h0 j (StepsIn.trans i (.head (fenced_wide P _) ?_ (.one (fenced_wide P _) (stepR_endRangeFunc s))));rw [← finish_atR_inRangeFunc l v];exact step_leave_returned m
  cases r with
  | none=>exact ⟨.normal,_,w₄,hj,p⟩
  | some c=>
   obtain ⟨e',A,w₅,hq,t⟩:=hj b k cs z trivial (room_wide _);exact ⟨e',A,w₅,hq,.of_steps p t⟩
 | panicked chain=>
  refine ⟨.panic chain,_,w₃,hR,.inRangeFunc l :: k,.head h0 j (StepsIn.trans i (.one (fenced_wide P _) ?_))⟩;rw [← Frame.raise_atR];exact step_leave_panicked m

theorem dV {P:Program} {n:Nat} {f:FuncId} {fn:Func} {c:Code} {args:Array Value} {w:World} {R:Ending→World→Prop}
  (hf:P.funcs[f]? = some fn) (hb:fn.body=some c)
  (h:wpF f P c (bodyPostM Fence.wide n P fn R) { tmps:=args ++ Array.replicate (fn.ntmps-args.size) undef,defers:=[] } w):CallsIn Fence.wide n P f args w R:=by
 refine ⟨trivial,fun cs hr=>?_⟩
 let b:Frame:={ (default:Frame) with fn:=f,kind:=.normal,roundOf:=none }
 have d:Frame.enter P f args .normal =
   b.atR { tmps:=args ++ Array.replicate (fn.ntmps-args.size) undef,defers:=[] } [.code c]:=by
  simp [Frame.enter,Frame.atR,hf,hb,b]
 obtain ⟨e,a',w',hq,a⟩:=h b [] cs rfl rfl;rw [← d] at a;cases e with
 | normal=>
  obtain ⟨e',j,k,hR,hs,i,hl⟩:=leaves_stepsInM a'.defers .returning w' { b.atR a' [] with mode:=.returning } cs rfl rfl rfl hf rfl trivial hr hq;exact ⟨e',j,k,hR,ComesIn.of_steps (StepsIn.trans a (.one (fenced_calm (fr:=b.atR a' []) (F:=Fence.wide) trivial hr rfl) (stepR_end rfl))) hs,i,hl⟩
 | ret=>
  obtain ⟨g,m⟩:=a.1 rfl;obtain ⟨e',j,k,hR,hs,i,hl⟩:=leaves_stepsInM a'.defers .returning w' { b.atR a' g with mode:=.returning } cs rfl rfl rfl hf rfl trivial hr hq;exact ⟨e',j,k,hR,ComesIn.of_steps m hs,i,hl⟩
 | panic chain=>
  obtain ⟨g,m⟩:=a;obtain ⟨e',j,k,hR,hs,i,hl⟩:=leaves_stepsInM a'.defers (.panicking chain) w' { b.atR a' g with mode:=.panicking chain } cs rfl rfl rfl hf rfl trivial hr hq;exact ⟨e',j,k,hR,ComesIn.of_steps m hs,i,hl⟩
 | exit id=>exact hq.elim
 | goto l=>exact hq.elim
 | outgrown=>exact ⟨.outgrown,w',b,hq,a.resolve_left (by simp [b]),rfl,trivial⟩

def A5 {σ α:Type} (n:Nat) (P:Program) (g:Nat) (lb:Array Value) (encs:α→Array Value) (X:σ→α→World→Prop) (St:σ→World→Prop) (Nx:σ→σ→Prop) (En:σ→List PanicEntry→World→Prop) (T:Nat→Prop) (s₀:σ) (w:World):Prop:=
 ∀ (l:Nat) (J Jx:World→Prop) (Jp:List PanicEntry→World→Prop) (W:World),Kept af w W→l=w.heap.size+1→W.heap.size=w.heap.size+2 →
  (∀ A C,J A→Kept (fun x=>T x∨W.heap.size≤x) A C→J C) →
  (∀ s x A,J A→X s x A→YieldAt Fence.wide (n-1) P l (encs x) A fun e C=>
   (e=.returned (.bool true)∧J C∧(∃ s',Nx s s'∧St s' C)∧Kept (fun b=>T b∨b=l∨b+1=l) A C)∨(e=.returned (.bool false)∧Jx C)∨∃ ch,e=.panicked ch∧Jp ch C) →
  J W→St s₀ W →
  CallsIn Fence.wide n P g (#[.func (.yield l) #[] #[]] ++ lb) W fun e C=>((∃ v,e=.returned v)∧Jx C)∨∃ ch,e=.panicked ch∧(Jp ch C∨∃ s,En s ch C∧J C)

def BC {σ:Type} (T Sb:Nat→Prop) (Nx:σ→Prop) (St:σ→World→Prop) (Ix:World→Prop) (Ip:List PanicEntry→World→Prop) (W:World):Exit→Act→World→Prop
 | .normal,_,W'=>Kept T W W'∧∃ s',Nx s'∧St s' W'
 | .ret,_,W'=>Kept Sb W W'∧Ix W'
 | .exit _,_,_=>False
 | .goto _,_,_=>False
 | .panic ch,a,W'=>a.defers=[]∧Kept Sb W W'∧Ip ch W'
 | .outgrown,_,_=>False

def uB (B:Nat) (J:World→Prop):Prop:=∀ A l o o',J A→B≤l→A.heap[l]? = some o→o.isCells=false→J (A.putObj l o')

theorem qu {σ α:Type} {P:Program} {n:Nat} {g:Operand} {ps:Array Tmp} {assign body:Code} {Q:Exit→Act→World→Prop} {a:Act} {w:World} {f:FuncId} {fn:Func} (hf:P.funcs[f]? = some fn) {gf:Nat} {lb:Array Value}
  (hg:a.eval g=.func (.func gf) #[] lb) (eg:∀ args w,(callFunc gf args).run P w=.ok (.enter gf args) w)
  {q:α→Array Value} {X:σ→α→World→Prop} {St:σ→World→Prop} {Nx:σ→σ→Prop} {En:σ→List PanicEntry→World→Prop} {T Sb:Nat→Prop} {s₀:σ} (F:A5 (n-1) P gf lb q X St Nx En T s₀ w) (ac:∀ x,(q x).size=ps.size) (hT:∀ b,T b→b<w.heap.size) (hSb:∀ b,Sb b→b<w.heap.size)
  (hX:∀ s x A l o o',X s x A→A.heap[l]? = some o→o.isCells=false→X s x (A.putObj l o'))
  (I Ix:World→Prop) (Ip:List PanicEntry→World→Prop) (hI:∀ A C,I A→Kept (fun x=>T x∨w.heap.size≤x) A C→I C) (M:uB w.heap.size Ix) (R:∀ s,uB w.heap.size (St s)) (h0:I w) (U:∀ W,Kept af w W→St s₀ W) (a₁:α→Act)
  (m:∀ (l:Nat) (x:α) (W:World) (K:Act→World→Prop),K (a₁ x) W→assign.wpIn (Fence.wide.inRound l) (n-1-1) P (Exit.then K (fun _ _ _=>False)) { tmps:=(ps.zip (q x)).foldl (fun t (p,v)=>t.setIfInBounds p v) a.tmps,defers:=[] } W)
  (hbody:∀ (l:Nat) (s:σ) (x:α) (W:World),w.heap.size≤W.heap.size→I W→X s x W→body.wpIn (Fence.wide.inRound l) (n-1-1) P (BC T Sb (Nx s) St Ix Ip W) (a₁ x) W)
  (hstop:∀ (D:Nat) (W:World),w.heap.size≤D→Ix W→W.heap[D]? = some (.deferred (some []))→Q .ret { a with defers:={ target:=.collected D,args:=#[] } :: a.defers } W)
  (hpan:∀ (D:Nat) (ch:List PanicEntry) (W:World),w.heap.size≤D→(Ip ch W∨∃ s,En s ch W∧I W)→W.heap[D]? = some (.deferred (some []))→Q (.panic ch) { a with defers:={ target:=.collected D,args:=#[] } :: a.defers } W) :
  wpF f P (Code.rangeFunc g ps assign body) Q a w:=by
 refine kx (n:=n) ?_;obtain ⟨c,d⟩:∃ c:LoopState→Option Code→Loop,c=fun st pe=>{ state:=st,pending:=pe,fn:=f,tmps:=a.tmps,params:=ps,assign,body,defers:=w.heap.size }:=⟨_,rfl⟩
 obtain ⟨W1,E⟩:∃ W1,W1=(w.alloc (.deferred (some []))).alloc (.loop (c .ready none)):=⟨_,rfl⟩
 have N:W1.heap.size=w.heap.size+2:=by rw [E];simp
 have B:Kept af w W1:=by rw [E];exact ((ai _ w).alloc _).alloc _
 have ad:Books w.heap.size (c .ready none) W1:=by
  rw [E];refine ⟨?_,(Below.heap_alloc _ _ _ (by simp)).trans (World.alloc_heap_new w _)⟩;have:=World.alloc_heap_new (w.alloc (.deferred (some []))) (.loop (c .ready none))
  rwa [World.size_alloc] at this
 refine ⟨w.heap.size+1,[{ target:=.collected w.heap.size,args:=#[] }],W1,{ target:=.fn (.func gf) lb,args:=#[.func (.yield (w.heap.size+1)) #[] #[]] },W1,gf,#[.func (.yield (w.heap.size+1)) #[] #[]] ++ lb,W1,?_,?_,?_,?_⟩
 ·rw [E,d];exact run_enterLoop_outer _ _ _ _ _
 ·simp only [resolve,hg];simp [go_sem]
 ·simp [invoke,go_sem,eg]
 ·have y:∀ (j:Option Code) (A:World),Books w.heap.size (c .busy none) A→∃ C,(Instr.endRound (w.heap.size+1) j).run P A=.ok (.bool j.isNone) C∧Books w.heap.size (c (if j.isNone then .ready else .done) j) C∧Below w.heap.size A C∧Kept (fun b=>b=w.heap.size+1) A C∧∃ o',C=A.putObj (w.heap.size+1) o':=fun j A hb=>by
   refine ⟨_,run_endRound (P:=P) j hb.1,?_,gV _ (by omega),dF _ _ _,_,rfl⟩;have:=hb.put { c .busy none with state:=if j.isNone then .ready else .done,pending:=j };rw [d] at this ⊢;exact this
  have G:∀ {r:Loop},∀ A C,(I A∧Books w.heap.size r A)→Kept (fun x=>T x∨W1.heap.size≤x) A C→I C∧Books w.heap.size r C:=fun A C h k=>by
   rw [N] at k;refine ⟨hI A C h.1 (k.mono (fun x _ e=>?_)),?_⟩
   ·rcases e with e | e
    ·exact .inl e
    ·exact .inr (by omega)
   ·have hl:=h.2.lt;refine ⟨(k.block _ (by omega) ?_).trans h.2.1,(k.block _ (by omega) ?_).trans h.2.2⟩
    all_goals
     rintro (e | e)
     ·have:=hT _ e;omega
     ·omega
  refine (F (w.heap.size+1) (fun A=>(I A∧w.heap.size≤A.heap.size)∧Books w.heap.size (c .ready none) A) (fun A=>Ix A∧Books w.heap.size (c .done (some .ret)) A) (fun ch A=>Ip ch A∧A.heap[w.heap.size]? = some (.deferred (some []))) W1 B rfl N (fun A C h k=>by obtain ⟨h1,h2⟩:=G A C ⟨h.1.1,h.2⟩ k;exact ⟨⟨h1,Nat.le_trans h.1.2 k.size⟩,h2⟩) ?_ ⟨⟨hI _ _ h0 (gG (fi B (leR _))),B.size⟩,ad⟩ (U _ B)).mono ?_
  ·rintro s x A ⟨⟨hi,hz⟩,hb⟩ hx;have hy:=run_yield (P:=P) (args:=q x) hb.1 (by rw [d];exact ac x);rw [d] at hy;refine ⟨f,_,assign,body,hy,oj hf (m _ x A _ ⟨_,run_beginRound hb.1 (by rw [d]),?_⟩)⟩;have V:=hb.put { c .ready none with state:=.busy };have ag:=hX s x A _ _ (.loop { c .ready none with state:=.busy }) hx hb.1 rfl;have Y:=hI _ _ hi (gG (gV (W:=A) (l:=w.heap.size+1) (.loop { c .ready none with state:=.busy }) (by omega)));have L:=dF A (w.heap.size+1) (.loop { c .ready none with state:=.busy });have Z:w.heap.size≤(A.putObj (w.heap.size+1) (.loop { c .ready none with state:=.busy })).heap.size:=Nat.le_trans hz L.size
   have H:∀ (S:Nat→Prop) C,(∀ b,S b→b<w.heap.size)→Kept S (A.putObj (w.heap.size+1) (.loop { c .ready none with state:=.busy })) C→Books w.heap.size (c .busy none) C:=fun S C hS k=>by
    have:=V.kept k hS;rw [d] at this ⊢;exact this
   refine wpIn_mono (hbody _ s x _ Z Y ag) ?_;generalize A.putObj (w.heap.size+1) (.loop { c .ready none with state:=.busy })=A2 at *;rintro e a3 C hp;cases e with
   | normal=>
    obtain ⟨k,s',ab,ae⟩:=hp;have z:=H T C hT k;obtain ⟨C',hr,J,aj,O,o',rfl⟩:=y none C z;have kk:=((L.mono (fun _ _ e=>.inr (.inl e))).next k (fun _ _ e=>.inl e)).next O (fun _ _ e=>.inr (.inl e)) (S:=fun b=>T b∨b=w.heap.size+1∨b+1=w.heap.size+1)
    refine ⟨_,_,hr,.inl ⟨rfl,⟨⟨hI _ _ hi (kk.mono (fun x _ e=>?_)),Nat.le_trans hz kk.size⟩,J⟩,⟨s',ab,R s' _ _ _ o' ae (by omega) z.1 rfl⟩,kk⟩⟩;rcases e with e | e | e
    ·exact .inl e
    ·exact .inr (by omega)
    ·exact .inr (by omega)
   | ret=>
    obtain ⟨k,ah⟩:=hp;have z:=H Sb C hSb k;obtain ⟨C',hr,J,_,_,o',rfl⟩:=y (some .ret) C z;exact ⟨_,_,hr,.inr (.inl ⟨rfl,M _ _ _ o' ah (by omega) z.1 rfl,J⟩)⟩
   | exit i=>exact hp.elim
   | goto t=>exact hp.elim
   | panic ch=>
    obtain ⟨hd,k,aa⟩:=hp;exact ⟨hd,.inr (.inr ⟨ch,rfl,aa,(H Sb C hSb k).2⟩)⟩
   | outgrown=>exact hp.elim
  ·rintro e C (⟨⟨v,rfl⟩,hi,hb⟩ | ⟨ch,rfl,hh⟩)
   ·refine ⟨_,_,run_endLoop (P:=P) hb.1 (by rw [d];simp),?_⟩;rw [d] at hb ⊢;refine wpIn_ret ?_;exact hstop _ _ (leR _) (M _ _ _ _ hi (by omega) hb.1 rfl) ((World.putObj_heap_other (by omega)).trans hb.2)
   ·refine hpan _ ch C (leR _) ?_ ?_
    ·rcases hh with hh | ⟨s,h1,h2⟩
     ·exact .inl hh.1
     ·exact .inr ⟨s,h1,h2.1.1⟩
    ·rcases hh with hh | ⟨s,h1,h2⟩
     ·exact hh.2
     ·exact h2.2.2

theorem oN (p:Addr) (w:World) :
  CallsD Tryz.prog 70 #[.pointer (some p)] .returning w fun e u' w'=>e=.returned (.tuple #[])∧u'=.returning∧w'=w:=by
 refine callsD_of_wpS Tryz.func70 rfl fun c₀ cs hu=>?_
 apply wpS_seq;apply wpS_region;simp [wpOpsS,go_sem,recoverD,hu,Tryz.ntmps70,Exit.thenS];apply wpS_seq;apply wpS_seq;apply wpS_region;simp [wpOpsS,go_sem,Exit.thenS];refine wpS_cond (t:=true) (by simp [Act.eval,Array.replicate]) ?_;simp only [if_true];refine wpS_of_wp (wp_ret ?_);cases c₀
 simp_all [bodyPostS,results,Tryz.results70,Exit.thenS]

theorem AW (p:Addr) (x n:Int) (a:List PanicEntry) (w:World) (hc:w.cell? p=some (.int .i64 x)) (hz:w.frozen? p=false) :
  CallsD Tryz.prog 70 #[.pointer (some p)] (.panicking (refusal n :: a)) w fun e u' w'=>
   e=.returned (.tuple #[])∧u'=.panicking ({ refusal n with recovered:=true } :: a)∧w'=w.setCell p (.int .i64 n):=by
 refine callsD_of_wpS Tryz.func70 rfl fun c₀ cs hu=>?_
 apply wpS_seq;apply wpS_region;simp [wpOpsS,go_sem,recoverD,hu,Tryz.ntmps70,Exit.thenS];apply wpS_seq;apply wpS_seq;apply wpS_region;simp [wpOpsS,go_sem,Exit.thenS];refine wpS_cond (t:=false) (by simp [Act.eval,Array.replicate]) ?_;simp only [Bool.false_eq_true,if_false];refine wpS_of_wp (wp_skip ?_);simp only [Exit.thenS];refine wpS_of_wp ?_;have c:∀ w:World,(Instr.typeAssert (.iface 33 (.int .i64 n)) 20 33 true).run Tryz.prog w=.ok (.tuple #[.int .i64 n,.bool true]) w:=fun w=>by kernel_rfl
 have b:∀ (x:Bool) (w:World),(Op.unary .not (.bool x)).run Tryz.prog w=.ok (.bool (!x)) w:=fun _ _=>rfl
 have e:(#[Value.pointer (some p)] ++ ((((Array.replicate 15 undef).setIfInBounds 3 (Value.iface 33 (Value.int IntKind.i64 n))).setIfInBounds 0 (Value.iface 33 (Value.int IntKind.i64 n))).setIfInBounds 4 (Value.iface 33 (Value.int IntKind.i64 n))).setIfInBounds 5 (Value.bool false):Array Value)=#[.pointer (some p),.iface 33 (.int .i64 n),undef,undef,.iface 33 (.int .i64 n),.iface 33 (.int .i64 n),.bool false,undef,undef,undef,undef,undef,undef,undef,undef,undef]:=rfl;rw [e];clear e;go_wp2;simp [bodyPostS,results,Tryz.results70]

theorem uA (f:Nat) (cap:Array Value) (w:World) (Q:Int→World→Prop) (he:∀ args w,(callFunc f args).run Tryz.prog w=.ok (.enter f args) w)
  (h:Calls Tryz.prog f cap (w.alloc (.cells #[.int .i64 0] 33)) fun e w'=>w'.heap[w.heap.size]? = some (.cells #[.int .i64 0] 33 (0,0)) ∧
   ((e=.returned (.tuple #[])∧Q 0 w')∨∃ n,e=.panicked [refusal n]∧Q n w')) :
  Calls Tryz.prog 36 #[.func (.func f) #[] cap] w fun e w'=>∃ n w1,e=.returned (.int .i64 n)∧(Q n w1∧w1.heap[w.heap.size]? = some (.cells #[.int .i64 0] 33 (0,0)))∧w'=w1.setCell ⟨w.heap.size,0,none⟩ (.int .i64 n):=by
 have c:=eR;go_enter_defers Tryz.func36,Tryz.ntmps36
 go_wp2_with fail;refine h.mono ?_;rintro e w1 ⟨hb,(⟨rfl,hq⟩ | ⟨n,rfl,hq⟩)⟩
 ·have hc:w1.cell? ⟨w.heap.size,0,none⟩=some (.int .i64 0):=by simp [World.cell?,hb]
  have hz:w1.frozen? ⟨w.heap.size,0,none⟩=false:=by simp [World.frozen?,hb]
  clear h;go_wp2_with fail;refine leaves_cons (f:=70) (args:=#[.pointer (some ⟨w.heap.size,0,none⟩)]) (by simp) (by simp [go_sem]) ?_;refine (oN ⟨w.heap.size,0,none⟩ _).mono ?_;rintro e u' b ⟨rfl,rfl,rfl⟩;have a:(w1.setCell ⟨w.heap.size,0,none⟩ (.int .i64 0)).cell? ⟨w.heap.size,0,none⟩=some (.int .i64 0):=World.cell?_setCell_same' _ _ _ (by rw [hc];rfl);simp [Leaves,settle,results,Tryz.results36,go_sem,a];exact ⟨_,⟨hq,hb⟩,rfl⟩
 ·have hc:w1.cell? ⟨w.heap.size,0,none⟩=some (.int .i64 0):=by simp [World.cell?,hb]
  have hz:w1.frozen? ⟨w.heap.size,0,none⟩=false:=by simp [World.frozen?,hb]
  clear h;refine leaves_cons (f:=70) (args:=#[.pointer (some ⟨w.heap.size,0,none⟩)]) (by simp) (by simp [go_sem]) ?_;refine (AW ⟨w.heap.size,0,none⟩ 0 n [] _ hc hz).mono ?_;rintro e u' b ⟨rfl,rfl,rfl⟩;have a:(w1.setCell ⟨w.heap.size,0,none⟩ (.int .i64 n)).cell? ⟨w.heap.size,0,none⟩=some (.int .i64 n):=World.cell?_setCell_same' _ _ _ (by rw [hc];rfl);simp [Leaves,settle,results,Tryz.results36,go_sem,a];exact ⟨_,⟨hq,hb⟩,rfl⟩

theorem eZ (n:Int) (w:World):Calls Tryz.prog 38 #[.bool false,.int .i64 n] w fun e w'=>e=.returned (.tuple #[])∧w'=w:=by
 go_enter Tryz.func38,Tryz.ntmps38;go_wp2;go_end0
 exact ⟨rfl,rfl⟩

theorem fW (n:Int) (w:World):Calls Tryz.prog 38 #[.bool true,.int .i64 n] w fun e w'=>e=.panicked [refusal n]∧w'=w:=by
 go_enter Tryz.func38,Tryz.ntmps38;go_wp2;exact ⟨rfl,rfl,rfl⟩

theorem zu (ao:Option Addr) (n cap:Nat) (w:World):Calls Tryz.prog 72 #[.slice ao n cap,.int .i64 0] w fun e w'=>e=.returned (.slice ao n cap)∧w'=w:=by
 have hR:=eZ 0 w;go_enter Tryz.func72,Tryz.ntmps72;go_wp2_with fail;refine hR.mono ?_;rintro e w' ⟨rfl,rfl⟩;go_wp2;go_ret;exact ⟨rfl,rfl⟩

theorem yI (ao:Option Addr) (n cap:Nat) (E:Nat) (hE:E≠0) (w:World):Calls Tryz.prog 72 #[.slice ao n cap,.int .i64 (E:Nat)] w fun e w'=>e=.panicked [refusal (E:Nat)]∧w'=w:=by
 have hR:=fW (E:Nat) w;have a:¬ (E:Int)=0:=by omega
 have hb:((E:Int) != 0)=true:=by simp;omega
 go_enter Tryz.func72,Tryz.ntmps72;go_wp2_with fail;try rw [hb]
 refine hR.mono ?_;rintro e w' ⟨rfl,rfl⟩;exact ⟨rfl,rfl,rfl⟩

theorem AS (ao:Option Addr) (n cap:Nat) (w:World):Calls Tryz.prog 75 #[.slice ao n cap,.int .i64 0] w fun e w'=>e=.returned (.slice ao n cap)∧w'=w:=by
 have hR:=eZ 0 w;go_enter Tryz.func75,Tryz.ntmps75;go_wp2_with fail;refine hR.mono ?_;rintro e w' ⟨rfl,rfl⟩;go_wp2;go_ret;exact ⟨rfl,rfl⟩

theorem AG (r:Bool) (w:World):Calls Tryz.prog 83 #[.bool r,.int .i64 0] w fun e w'=>e=.returned (.bool r)∧w'=w:=by
 have hR:=eZ 0 w;go_enter Tryz.func83,Tryz.ntmps83;go_wp2_with fail;refine hR.mono ?_;rintro e w' ⟨rfl,rfl⟩;go_wp2;go_ret;exact ⟨rfl,rfl⟩

theorem xF (r:Bool) (E:Nat) (hE:E≠0) (w:World):Calls Tryz.prog 83 #[.bool r,.int .i64 (E:Nat)] w fun e w'=>e=.panicked [refusal (E:Nat)]∧w'=w:=by
 have hR:=fW (E:Nat) w;have a:¬ (E:Int)=0:=by omega
 have hb:((E:Int) != 0)=true:=by simp;omega
 go_enter Tryz.func83,Tryz.ntmps83;go_wp2_with fail;try rw [hb]
 refine hR.mono ?_;rintro e w' ⟨rfl,rfl⟩;exact ⟨rfl,rfl,rfl⟩

theorem xE (co p:Option Addr) (L cap B:Nat) (k:Int) (xs cs:List Nat) (r1:Bool) (r2:List (List Nat)) (r3:Nat) (r4:List Nat) (h:f8 xs k cs=(r1,r2,r3,r4)) (g:-9223372036854775808≤k) (d:k≤9223372036854775807) (w:World)
  (hu:Row .u64 w (.slice co L cap) xs) (hd:Digs xs) (hL:L≤1000000) (hs:Lsc w p B cs) (hB:B≤w.heap.size) (f:Digs cs 256) :
  Calls Tryz.prog 42 #[.pointer p,.slice co L cap,.int .i64 k] w fun e w'=>((r3=0∧e=.returned (.bool r1))∨(r3≠0∧e=.panicked [refusal (r3:Nat)]))∧Lsc w' p B r4∧Kept (ofP p) w w':=by
 have J:=vZ co p L cap B k xs cs r1 r2 r3 r4 h g d w hu hd hL hs hB f;clear h g d hu hd hL hs hB f;by_cases hr:r3=0
 ·subst hr;go_enter Tryz.func42,Tryz.ntmps42;go_wp2_with fail;refine J.mono ?_;rintro e w1 ⟨v,rfl,b,a,kk⟩;obtain ⟨vo,vc,rfl⟩:=b.slice;have J2:=AG r1 w1;have c:=aa a;have HK:=aa kk;clear J b a kk;go_wp2_with fail;refine J2.mono ?_;rintro e w2 ⟨rfl,rfl⟩;clear J2;go_wp2_with fail;go_ret;exact ⟨.inl ⟨trivial,rfl⟩,c.out,HK.out⟩
 ·have HR:=aa hr;go_enter Tryz.func42,Tryz.ntmps42;go_wp2_with fail;refine J.mono ?_;rintro e w1 ⟨v,rfl,b,a,kk⟩;obtain ⟨vo,vc,rfl⟩:=b.slice;have J2:=xF r1 r3 HR.out w1;have c:=aa a;have HK:=aa kk;clear J b a kk;go_wp2_with fail;refine J2.mono ?_;rintro e w2 ⟨rfl,rfl⟩;exact ⟨rfl,.inr ⟨HR.out,rfl⟩,c.out,HK.out⟩

theorem zx (p:Option Addr) (t:Int) (w:World) :
  Calls Tryz.prog 40 #[.pointer p,.int .i64 t] w fun e w'=>e=.returned (.func (.func 71) #[] #[.pointer (some ⟨w.heap.size,0,none⟩),.pointer (some ⟨w.heap.size+1,0,none⟩)]) ∧
   Boxed w' w.heap.size 26 (.pointer p)∧Boxed w' (w.heap.size+1) 3 (.int .i64 t)∧Kept af w w'∧w'.heap.size=w.heap.size+2:=by
 have c:=eR;have b0:=(Boxed.new w 26 (.pointer p)).alloc (.cells #[.int .i64 t] 3);have b1:=Boxed.new (w.alloc (.cells #[.pointer p] 26)) 3 (.int .i64 t);simp only [World.size_alloc] at b1;have a:=aa b0;have b:=aa b1;clear b0 b1;go_enter Tryz.func40,Tryz.ntmps40;go_wp2_with fail;go_ret;exact ⟨rfl,a.out,b.out,((ai af w).alloc _).alloc _,by simp⟩

theorem oe {B V n:Nat} {l:List Nat} (hl:l.length=n) (h:∀ i,i<n→l.getD i 0=dig V i B):l=digs V n B:=by
 refine List.ext_getElem? fun i=>?_
 by_cases hi:i<n
 ·have h1:=h i hi;have h2:=de B V n i hi;rw [List.getD_eq_getElem?_getD,List.getElem?_eq_getElem (by omega)] at h1;rw [List.getD_eq_getElem?_getD,List.getElem?_eq_getElem (by rw [ag];omega)] at h2;rw [List.getElem?_eq_getElem (by omega),List.getElem?_eq_getElem (by rw [ag];omega)];simp only [Option.getD_some] at h1 h2;rw [h1,h2]
 ·rw [List.getElem?_eq_none (by omega),List.getElem?_eq_none (by rw [ag];omega)]

theorem eG (Y j i:Nat):(dig Y j).testBit i=(decide (i<64) && Y.testBit (64*j+i)):=by
 unfold dig;rw [show (18446744073709551616:Nat)=2^64 from rfl,← Nat.pow_mul,Nat.testBit_mod_two_pow,Nat.testBit_div_two_pow,Nat.add_comm i]

theorem mO {l:List Nat} {j i d:Nat} (hj:j<l.length):(l.set j d).getD i 0=if i=j then d else l.getD i 0:=by
 rw [List.getD_eq_getElem?_getD,List.getElem?_set,List.getD_eq_getElem?_getD];by_cases h:j=i
 ·subst h;simp [hj]
 ·rw [if_neg h,if_neg (fun e=>h e.symm)]

theorem xW (Y p L:Nat) (hp:p/64<L):(digs Y L).set (p/64) (dig Y (p/64) ||| 2^(p%64))=digs (Y ||| 2^p) L:=by
 refine oe (by rw [List.length_set,ag]) fun i hi=>?_
 rw [mO (by rw [ag];exact hp),de _ _ _ _ hi];have hb:∀ t,t<64→((2^p).testBit (64*i+t)=decide (i=p/64∧t=p%64)):=fun t ht=>by
  rw [Nat.testBit_two_pow];exact decide_eq_decide.2 ⟨fun h=>by omega,fun h=>by omega⟩
 refine Nat.eq_of_testBit_eq fun t=>?_
 rw [eG,Nat.testBit_or];by_cases ht:t<64
 ·rw [hb t ht]
  split
  ·next h=>
   subst h;rw [Nat.testBit_or,eG,Nat.testBit_two_pow];by_cases h2:t=p%64
   ·subst h2;have h4:p%64<64:=Nat.mod_lt _ (by omega);simp [h4]
   ·have h3:¬ p%64=t:=fun e=>h2 e.symm
    simp [ht,h2,h3]
  ·next h=>
   rw [eG];simp [ht,h]
 ·split
  ·next h=>
   subst h;rw [Nat.testBit_or,eG,Nat.testBit_two_pow];simp [ht];omega
  ·next h=>
   rw [eG];simp [ht]

theorem tR (X n L:Nat) (h1:64*L<n+64) (h2:n≤64*L) (hL:1≤L) :
  (digs X L).set (L-1) (dig X (L-1) &&& 18446744073709551615/2^(64*L-n))=digs (X%2^n) L:=by
 have hy:18446744073709551615/2^(64*L-n)=2^(64-(64*L-n))-1:=by
  have hs:64*L-n<64:=by omega
  generalize 64*L-n=s at hs;have e:(18446744073709551615:Nat)=2^s*(2^(64-s)-1)+(2^s-1):=by
   have e1:2^s*2^(64-s)=18446744073709551616:=by
    rw [← Nat.pow_add,show s+(64-s)=64 by omega]
   have p1:0<2^s:=Nat.pow_pos (by omega);have p2:0<2^(64-s):=Nat.pow_pos (by omega);rw [Nat.mul_sub,e1,Nat.mul_one];have:2^s≤2^64:=Nat.pow_le_pow_right (by omega) (by omega);have:(2:Nat)^64=18446744073709551616:=rfl;omega
  have p1:0<2^s:=Nat.pow_pos (by omega);rw [e,Nat.mul_add_div p1,Nat.div_eq_of_lt (by omega),Nat.add_zero]
 rw [hy];refine oe (by rw [List.length_set,ag]) fun i hi=>?_
 rw [mO (by rw [ag];omega),de _ _ _ _ hi];refine Nat.eq_of_testBit_eq fun t=>?_
 rw [eG,Nat.testBit_mod_two_pow]
 split
 ·next h=>
  subst h;rw [Nat.and_two_pow_sub_one_eq_mod,Nat.testBit_mod_two_pow,eG];by_cases ht:t<64
  ·have e:decide (t<64-(64*L-n))=decide (64*(L-1)+t<n):=decide_eq_decide.2 ⟨fun h=>by omega,fun h=>by omega⟩;rw [e];simp [ht]
  ·simp [ht]
 ·next h=>
  rw [eG];by_cases ht:t<64
  ·have e:64*i+t<n:=by omega
   simp [ht,e]
  ·simp [ht]

theorem An (x:Nat):x ||| 1=x+(if x%2=0 then 1 else 0):=by
 have e1:x=2^1*(x/2) ||| x%2:=by
  rw [← Nat.two_pow_add_eq_or_of_lt (by omega)];omega
 have e2:(x%2) ||| 1=1:=by
  rcases Nat.mod_two_eq_zero_or_one x with h | h <;> rw [h] <;> rfl
 rw [show x ||| 1=(2^1*(x/2) ||| x%2) ||| 1 by rw [← e1],Nat.or_assoc,e2,← Nat.two_pow_add_eq_or_of_lt (by omega)]
 split <;> omega

theorem rH (bs:List Nat) (n:Nat) (hn:16≤n):bev bs%2^n ||| 2^(n-1) ||| 2^(n-2) ||| 1=dr bs n:=by
 unfold dr;generalize bev bs=X;obtain ⟨m,rfl⟩:∃ m,n=m+2:=⟨n-2,by omega⟩
 rw [show m+2-1=m+1 by omega,show m+2-2=m by omega];have hr:X%2^m<2^m:=Nat.mod_lt _ (Nat.pow_pos (by omega));have e:X%2^(m+2) ||| 2^(m+1) ||| 2^m=2^m*3+X%2^m:=by
  refine Nat.eq_of_testBit_eq fun j=>?_
  rw [Nat.testBit_two_pow_mul_add _ hr,Nat.testBit_or,Nat.testBit_or,Nat.testBit_mod_two_pow,Nat.testBit_two_pow,Nat.testBit_two_pow,Nat.testBit_mod_two_pow];by_cases h1:j<m
  ·have a1:¬ m+1=j:=by omega
   have a2:¬ m=j:=by omega
   have a3:j<m+2:=by omega
   simp [h1,a1,a2,a3]
  ·rw [if_neg h1];by_cases h2:j=m
   ·subst h2;simp
   ·by_cases h3:j=m+1
    ·subst h3;rw [show m+1-m=1 by omega];simp
     decide
    ·have a1:¬ m+1=j:=fun e=>h3 e.symm
     have a2:¬ m=j:=fun e=>h2 e.symm
     have a3:¬ j<m+2:=by omega
     have a4:Nat.testBit 3 (j-m)=false:=Nat.testBit_lt_two_pow (by
      have:2^2≤2^(j-m):=Nat.pow_le_pow_right (by omega) (by omega);omega)
     simp [a1,a2,a3,a4]
 rw [e,An];have h2:2^m%2=0:=by
  rw [show m=(m-1)+1 by omega,Nat.pow_succ];omega
 generalize X%2^m=r at *
 split
 ·next h=>rw [if_pos (by omega)];omega
 ·next h=>rw [if_neg (by omega)];omega

end Go.Proofs.YtcemlfokmjjiaaaGreatDoor
