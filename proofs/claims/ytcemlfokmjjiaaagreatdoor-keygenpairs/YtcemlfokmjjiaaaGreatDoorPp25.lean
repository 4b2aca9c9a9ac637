/- Put together of: Ivn9 Pri2 Seq5 Pri3 Pri0. -/
import Derived.Test.YtcemlfokmjjiaaaGreatDoorPp24

namespace Go.Proofs.YtcemlfokmjjiaaaGreatDoor
set_option maxRecDepth 100000
set_option maxHeartbeats 4000000
open Go.RowKit

def yB (w:World):Value→Nat
 | .slice (some a) n _=>val ((List.range n).map fun i=>cellN w ⟨a.block,a.off+i,none⟩)
 | _=>0

theorem Row.num {w:World} {v:Value} {ds:List Nat} (h1:Row .u64 w v ds):yB w v=val ds:=by
 obtain ⟨ao,cap,rfl,_,_,_,hc⟩:=h1;cases ao with
 | none=>
  have:ds=[]:=by
   rcases ds with _ | ⟨d,r⟩
   ·rfl
   ·obtain ⟨b,off,e,_⟩:=hc 0 (by simp);cases e
  subst this;rfl
 | some a=>
  show val ((List.range ds.length).map fun i=>cellN w ⟨a.block,a.off+i,none⟩)=_
  congr 1
  refine List.ext_getElem (by simp) (fun i h1 h2=>?_);obtain ⟨b,off,e,c⟩:=hc i h2;cases e
  rw [List.getElem_map,List.getElem_range];unfold cellN;rw [c,List.getD_eq_getElem?_getD,List.getElem?_eq_getElem h2];simp

theorem xG {xs:List Nat} {m:Nat} (hm:m≤xs.length) (h:val xs<18446744073709551616^m):val (xs.take m)=val xs:=by
 have e:=aw 18446744073709551616 xs m hm;rcases Nat.eq_zero_or_pos (val (xs.drop m)) with h0 | h0
 ·rw [h0] at e;omega
 ·have:=Nat.mul_le_mul_left (18446744073709551616^m) h0;omega

theorem BI (ao:Option Addr) (n cap:Nat) (xs:List Nat) (w:World) (h:Row .u64 w (.slice ao n cap) xs) (hd:Digs xs) (hl:n≤300) :
  Calls Tryz.prog 149 #[.slice ao n cap] w fun e w'=>∃ (g:Option Addr) (m a:Nat) (ys:List Nat),e=.returned (.slice g m a)∧m≤n∧Row .u64 w (.slice g m a) ys∧Digs ys∧val ys=val xs∧w'=w:=by
 have hB:=dy _ xs w h hd (by obtain ⟨_,_,_,e,h',_⟩:=h.open;cases e;rw [h'.out];omega);obtain ⟨_,_,_,e1,hL,j,o,l,_⟩:=h.open;cases e1
 obtain ⟨m,hm⟩:∃ m,m=aj (val xs):=⟨_,rfl⟩
 have d:m≤n:=by
  rw [hm,← hL.out];exact (ap _ _).2 (aq (by omega) hd)
 have f:=fZ (val xs);rw [← hm] at f;have i:au (val xs)≤64*n:=by
  rw [aA,← B64,← hL.out];exact aq (by omega) hd
 have hv:val (xs.take m)=val xs:=xG (by rw [hL.out];exact d) ((ap _ _).1 (by omega));have c:=aa (h.cut (m:=m) (by rw [hL.out];exact d));have HD:=aa (hd.take m);have HV:=aa hv;obtain ⟨b,hb⟩:∃ b,b=au (val xs):=⟨_,rfl⟩
 rw [← hb] at hB f i;have g1:((b:Int)+64-1)/64=(m:Int):=by omega
 have g2:(m:Int)≤(cap:Int):=by omega
 have g0:(0:Int)≤(m:Int):=Int.natCast_nonneg _;have k:n≤cap:=j;clear hv f hb h hd hL hm;go_enter Tryz.func149,Tryz.ntmps149;go_wp2_with fail;refine hB.mono ?_;rintro e w1 ⟨rfl,rfl⟩;clear hB;go_wp2_with fail;go_ret;exact ⟨_,_,_,_,rfl,d,c.out,HD.out,HV.out,rfl⟩

theorem mZ {A C n:Nat} (hA:A<18446744073709551616^n) (hC:C<18446744073709551616^n):Nat.gcd A C<18446744073709551616^n:=by
 rcases Nat.eq_zero_or_pos A with h | h
 ·rw [h,Nat.gcd_zero_left];exact hC
 ·exact Nat.lt_of_le_of_lt (Nat.gcd_le_left _ h) hA

theorem rT {V n:Nat} (h:V<18446744073709551616^n) (hn:n≤300):aP V (n:Int)=0∧bh V (n:Int)=ag V n:=by
 have hw:=(ap V n).2 h;have e:aP V (n:Int)=0:=by
  unfold aP;rw [if_neg (by omega),if_neg (by omega)]
 exact ⟨e,by unfold bh;rw [if_pos e];rfl⟩

theorem jJ (ao bo:Option Addr) (L M cap c:Nat) (xs ys:List Nat) (E:Nat) (hE:E=if fW L M=true then 0 else 2) (RL:List Nat) (i:RL=if E=0 then ag (Nat.gcd (val xs) (val ys)) (max L M) else []) (w:World) (hu:Row .u64 w (.slice ao L cap) xs) (hv:Row .u64 w (.slice bo M c) ys) (k:Digs xs) (j:Digs ys) :
  Calls Tryz.prog 106 #[.slice ao L cap,.slice bo M c] w fun e w'=>∃ v',e=.returned (.tuple #[v',.int .i64 (E:Nat)])∧Row .u64 w' v' RL∧Kept ae w w':=by
 have lx:xs.length=L:=by obtain ⟨_,_,_,e,h,_⟩:=hu.open;cases e;exact h.out
 have ly:ys.length=M:=by obtain ⟨_,_,_,e,h,_⟩:=hv.open;cases e;exact h.out
 have I:max (L:Int) (M:Int)=((max L M:Nat):Int):=by omega
 by_cases hok:L≤300∧M≤300
 ·rw [if_pos (by unfold fW;exact bd hok)] at hE;subst hE;rw [if_pos rfl] at i;have hA:val xs<18446744073709551616^max L M:=Nat.lt_of_lt_of_le (aq (by omega) k) (Nat.pow_le_pow_right (by omega) (by omega));have hC:val ys<18446744073709551616^max L M:=Nat.lt_of_lt_of_le (aq (by omega) j) (Nat.pow_le_pow_right (by omega) (by omega));have hG:=mZ hA hC;have Q:max L M≤300:=by omega
  obtain ⟨r1,r2⟩:=rT hG Q;have g1:¬ ((max L M:Nat):Int) > 300:=by omega
  have HU:=aa hu;have HV:=aa hv;have HX:=aa k;have HY:=aa j;have s:=aa i;have r:=aa r1;have y:=aa r2;obtain ⟨G,l⟩:∃ G,G=Nat.gcd (val xs) (val ys):=⟨_,rfl⟩
  rw [← l] at r y s;have D:=aa l.symm;generalize max L M=N at *;clear hu hv k j i r1 r2 hG hA hC l lx ly;go_enter Tryz.func106,Tryz.ntmps106;go_wp2_with fail;go_loopw [0,1] (fun a b wr=>∃ (ao bo:Option Addr) (L M cap c:Nat) (xs ys:List Nat),a=.slice ao L cap∧b=.slice bo M c∧L≤300∧M≤300∧Hid (Row .u64 wr (.slice ao L cap) xs)∧Hid (Row .u64 wr (.slice bo M c) ys)∧Hid (Digs xs)∧Hid (Digs ys)∧Hid (Nat.gcd (val xs) (val ys)=G)∧Hid (Kept ae w wr)) (fun _ b wr=>yB wr b)
  case atStart=>exact ⟨ao,bo,L,M,cap,c,xs,ys,rfl,rfl,hok.1,hok.2,HU.out,HV.out,HX.out,HY.out,D.out,ah _ _⟩
  case round=>
   clear HU HV HX HY D hok;obtain ⟨ao,bo,L,M,cap,c,xs,ys,rfl,rfl,hL,hM,HU,HV,HX,HY,HG,HK⟩:=hrel;have ly:ys.length=M:=by obtain ⟨_,_,_,e,h,_⟩:=HV.out.open;cases e;exact h.out
   have hB:=dy _ ys wr HV.out HY.out (by rw [ly];omega);have d:=HV.out.num;by_cases h0:val ys=0
   ·have g:au (val ys)=0:=by rw [h0];rfl
    rw [g] at hB;have q:=HG.out;rw [h0,Nat.gcd_zero_right] at q;have z:=pt _ xs (N:Int) wr HU.out HX.out;rw [q,r.out,y.out] at z;have F:=aa HK.out;clear d g q h0 ly;go_wp2_with fail;refine hB.mono ?_;rintro e w1 ⟨rfl,rfl⟩;clear hB;go_wp2_with fail;refine z.mono ?_;rintro e w2 ⟨v2,rfl,f,k2⟩;go_wp2_with fail;go_ret2;refine ⟨_,by first | rfl | trivial,?_,F.out.trans k2⟩;rw [s.out];exact f
   ·obtain ⟨E,hE⟩:∃ E,E=ii (val ys) L M:=⟨_,rfl⟩
    obtain ⟨e1,_,e3⟩:=eC (X:=val xs) (Y:=val ys) (L:=L) (M:=M) ⟨hL,hM⟩ h0;have hQ:=oP ao bo L M cap c xs ys 0 e1.symm wr HU.out HV.out HX.out HY.out;rw [e3] at hQ;have V:0<au (val ys):=by
     rcases Nat.eq_zero_or_pos (au (val ys)) with h | h
     ·have:=(aA (val ys) 0).1 (by omega);rw [Nat.pow_zero] at this;omega
     ·exact h
    obtain ⟨bl,g⟩:∃ bl,bl=au (val ys):=⟨_,rfl⟩
    rw [← g] at hB V;have gb:(bl:Int) > 0:=by omega
    have hlt:val xs%val ys<val ys:=Nat.mod_lt _ (by omega);have O:val ys<18446744073709551616^M:=by rw [← ly];exact aq (by omega) HY.out
    have o:Hid (val (ag (val xs%val ys) M)=val xs%val ys):=by
     unfold Hid;rw [ak,al (by omega)]
    have P:Hid (Nat.gcd (val ys) (val xs%val ys)=G):=by
     unfold Hid;rw [← HG.out,Nat.gcd_comm (val ys),← Nat.gcd_rec,Nat.gcd_comm]
    have S:=aa hlt;have m:=aa d;clear hE e1 e3 g hlt O h0 HG d ly;go_wp2_with fail;refine hB.mono ?_;rintro e w1 ⟨rfl,rfl⟩;clear hB;go_wp2_with fail;refine hQ.mono ?_;rintro e w2 ⟨v1,v2,rfl,H,f,k2⟩;obtain ⟨ro,rn,rc,rfl,v,_⟩:=f.open;have W:rn=M:=by rw [← v.out,af]
    subst W;have B:=BI ro rn rc _ w2 f (ai (by omega) _ _) hM;clear hQ H v;go_wp2_with fail;refine B.mono ?_;rintro e w3 ⟨J,m',n,zs,rfl,Z,x,C,p,rfl⟩;rw [o.out] at p;have t:=aa x;have R:=aa C;have A:=aa p;have T:=aa (HV.out.grew k2);have U:=aa (HK.out.trans k2);clear B f x C p k2;go_wp2_with fail;go_roundw
    case rel=>exact ⟨bo,J,rn,m',c,n,ys,zs,rfl,rfl,hM,by omega,T.out,t.out,HY.out,R.out,by unfold Hid;rw [A.out];exact P.out,U.out⟩
    case measure=>rw [t.out.num,A.out,m.out];exact S.out
 ·rw [if_neg (by unfold fW;simpa using hok)] at hE;subst hE;rw [if_neg (by omega)] at i;subst i;have g1:((max L M:Nat):Int) > 300:=by omega
  clear hu hv k j lx ly;generalize max L M=N at *;go_enter Tryz.func106,Tryz.ntmps106;go_wp2;go_ret2;exact ⟨_,rfl,Row.nil _ _,ah _ _⟩

theorem mB (V:Nat):au V=1↔V=1:=by
 have h1:=aA V 1;have h0:=aA V 0;rw [Nat.pow_one] at h1;rw [Nat.pow_zero] at h0;omega

theorem rV (ao bo:Option Addr) (L M cap d:Nat) (xs ys:List Nat) (R:Bool) (hR:R=decide (fW L M=true∧Nat.gcd (val xs) (val ys)=1)) (w:World) (hu:Row .u64 w (.slice ao L cap) xs) (hv:Row .u64 w (.slice bo M d) ys) (a:Digs xs) (b:Digs ys) :
  Calls Tryz.prog 81 #[.slice ao L cap,.slice bo M d] w fun e w'=>e=.returned (.bool R)∧Kept ae w w':=by
 have lx:xs.length=L:=by obtain ⟨_,_,_,e,h,_⟩:=hu.open;cases e;exact h.out
 have ly:ys.length=M:=by obtain ⟨_,_,_,e,h,_⟩:=hv.open;cases e;exact h.out
 by_cases hok:fW L M=true
 ·have hD:=jJ ao bo L M cap d xs ys 0 (by rw [if_pos hok]) _ rfl w hu hv a b;rw [if_pos rfl] at hD;have g:L≤300∧M≤300:=by unfold fW at hok;simpa using hok
  have hA:val xs<18446744073709551616^max L M:=Nat.lt_of_lt_of_le (aq (by omega) a) (Nat.pow_le_pow_right (by omega) (by omega));have hC:val ys<18446744073709551616^max L M:=Nat.lt_of_lt_of_le (aq (by omega) b) (Nat.pow_le_pow_right (by omega) (by omega));have hG:=mZ hA hC;obtain ⟨G,c⟩:∃ G,G=Nat.gcd (val xs) (val ys):=⟨_,rfl⟩
  rw [← c] at hD hG;have HR:Hid (R=decide ((au G:Int)=1)):=by
   unfold Hid;rw [hR];refine decide_eq_decide.2 ⟨fun h=>?_,fun h=>⟨hok,by rw [← c];exact (mB G).1 (by omega)⟩⟩;have:=(mB G).2 (by rw [c];exact h.2);omega
  have JB:Hid (∀ W v,Row .u64 W v (ag G (max L M))→Calls Tryz.prog 91 #[v] W fun r w'=>r=.returned (.int .i64 (au G:Nat))∧w'=W):=fun W v h=>by
   have:=dy v _ W h (ai (by omega) _ _) (by rw [af];omega);rw [ak,al hG] at this;exact this
  clear hu hv a b lx ly hR hok hA hC hG c;generalize au G=bl at *;go_enter Tryz.func81,Tryz.ntmps81;go_wp2_with fail;refine hD.mono ?_;rintro e w1 ⟨v1,rfl,f,k1⟩;have hB:=JB.out w1 v1 f;clear hD;go_wp2_with fail;refine hB.mono ?_;rintro e w2 ⟨rfl,rfl⟩;go_wp2_with fail;go_ret;rw [HR.out];exact ⟨by first | rfl | simp,k1⟩
 ·have hD:=jJ ao bo L M cap d xs ys 2 (by rw [if_neg hok]) _ rfl w hu hv a b;have HR:Hid (R=false):=by
   unfold Hid;rw [hR];exact aF (fun h=>hok h.1)
  clear hu hv a b lx ly hR hok;go_enter Tryz.func81,Tryz.ntmps81;go_wp2_with fail;refine hD.mono ?_;rintro e w1 ⟨v1,rfl,f,k1⟩;clear hD;go_wp2_with fail;go_ret;rw [HR.out];exact ⟨by first | rfl | simp,k1⟩

theorem ts {X n:Nat} (hX:X<18446744073709551616^n) (h0:X≠0):cJ X 1 n%18446744073709551616^n=X-1:=by
 unfold cJ;rw [if_neg (by omega),al (by omega)]

theorem yR (ao:Option Addr) (L cap:Nat) (xs:List Nat) (e:Nat) (he:e<18446744073709551616) (R:Bool) (hR:R=true↔fT (val xs) e) (w:World) (hu:Row .u64 w (.slice ao L cap) xs) (a:Digs xs) (y:L≤999999) :
  Calls Tryz.prog 41 #[.slice ao L cap,.int .u64 (e:Nat)] w fun r w'=>r=.returned (.bool R)∧Kept ae w w':=by
 obtain ⟨_,_,_,e1,hL,-,-,-,-⟩:=hu.open;cases e1
 have HU:=aa hu;have HR:=aa hR;have HF:Hid (¬ fT (val xs) e→R=false):=fun h=>by
  cases h2:R with
  | false=>rfl
  | true=>exact absurd (HR.out.1 h2) h
 have hX:val xs<18446744073709551616^L:=by rw [← hL.out];exact aq (by omega) a
 by_cases a2:e=0
 ·have HT:=aa (HF.out (fun h=>h.2.1 a2));subst a2;clear hu a hL hR hX;go_enter Tryz.func41,Tryz.ntmps41;go_wp2_with fail;go_ret;exact ⟨by rw [HT.out];rfl,ah _ _⟩
 have q2:((e:Int) == 0)=false:=by simp;omega
 have v:¬ (e:Int)=0:=by omega
 by_cases a3:jW (val xs)
 ·have J1:=pD ao L cap xs true (by simp [a3]) w hu a (by omega);have d:val xs≠0:=fun h=>by rw [h] at a3;exact absurd a3 (by unfold jW;intro h;exact absurd h.1 (by omega))
  have z:L≠0:=fun h=>by
   rw [h] at hX;simp at hX;exact d hX
  have JW:=aa fun W (x:Nat) (hx:x<18446744073709551616)=>kQ x hx 1 W
  have q:cZ 1=1:=rfl;rw [q] at JW;have v1:val (ag 1 1)=1:=rfl;have HD:=aa a;have o:Hid (xs.length=L):=hL;have i:=aa d;have HX:=aa hX;have s:=aa a3;have j2:=JW.out;clear hu a hL hR hX d a3;go_enter Tryz.func41,Tryz.ntmps41;go_wp2_with fail;refine J1.mono ?_;rintro r w1 ⟨rfl,k1⟩;have J2:=JW.out w1 1 (by omega);clear J1 j2;go_wp2_with fail;refine J2.mono ?_;rintro r w2 ⟨u2,rfl,r2,k2⟩;have K2:=aa (k1.trans k2);have J3:=oA none (.slice ao L cap) u2 xs _ w2 (TrRoom.none w2 1 (by omega)) (RowT.none (HU.out.grew K2.out)) (RowT.none r2) HD.out (ai (by omega) _ _) (by rw [o.out];omega) (by rw [af];omega)
  rw [v1,af,o.out,Nat.max_eq_left (by omega)] at J3;obtain ⟨uo,un,uc,rfl,_⟩:=r2.open;clear J2 r2 k1 k2;go_wp2_with fail;refine J3.mono ?_;rintro r w3 ⟨u3,rfl,h3,o3,d3⟩;have k3:=d3.none.2;have K3:=aa (K2.out.trans k3);have r3:Row .u64 w3 u3 (ag (cJ (val xs) 1 L) L):=Row.of_own (base:=w2.heap.size) (e:=23) (by rw [af];exact h3);obtain ⟨xo,xn,xc,rfl,l,_⟩:=r3.open;have f:xn=L:=by rw [← l.out,af]
  subst f;have m:val (ag (cJ (val xs) 1 xn) xn)=val xs-1:=by
   rw [ak];exact ts HX.out i.out
  obtain ⟨rr,c⟩:∃ rr,rr=(val xs-1)%e:=⟨_,rfl⟩
  have n:rr<18446744073709551616:=by rw [c];exact Nat.lt_of_lt_of_le (Nat.mod_lt _ (by omega)) (by omega)
  have J4:=uD xo xn xc _ e rr 0 he (by rw [if_neg a2,m,c]) (by rw [if_neg a2]) w3 r3 (ai (by omega) _ _) (by omega);have p:=aa c;clear J3 h3 d3 k3 r3 l m c;go_wp2_with fail;refine J4.mono ?_;rintro r w4 ⟨rfl,k4⟩;have K4:=aa (K3.out.trans k4);have J5:=JW.out w4 rr n;clear J4 k4;go_wp2_with fail;refine J5.mono ?_;rintro r w5 ⟨u5,rfl,r5,k5⟩;obtain ⟨yo,yn,yc,rfl,j,_⟩:=r5.open;have K5:=aa (K4.out.trans k5);have J6:=JW.out w5 e he;have R5:=aa r5;have t:Hid (yn=1):=by have:=j.out;rw [af] at this;exact this.symm
  clear J5 k5 r5 j;go_wp2_with fail;refine J6.mono ?_;rintro r w6 ⟨u6,rfl,r6,k6⟩;obtain ⟨zo,zn,zc,rfl,k,_⟩:=r6.open;have K6:=aa (K5.out.trans k6);have b:zn=1:=by have:=k.out;rw [af] at this;exact this.symm
  have g:∀ x,x<18446744073709551616→val (ag x 1)=x:=fun x hx=>by rw [ak,Nat.pow_one];exact al hx
  have J7:=rV yo zo yn zn yc zc _ _ R (by
   have hg:Nat.gcd rr e=Nat.gcd (val xs-1) e:=by
    rw [p.out,Nat.gcd_comm (val xs-1) e,Nat.gcd_rec e]
   have ho:fW yn zn=true:=by rw [t.out,b];rfl
   rw [g _ n,g _ he];cases hRb:R with
   | true=>exact (bd ⟨ho,hg.trans (HR.out.1 hRb).2.2.2⟩).symm
   | false=>exact (aF fun h=>by
     have:=HR.out.2 ⟨i.out,a2,s.out,hg.symm.trans h.2⟩;rw [hRb] at this;cases this).symm) w6 (R5.out.grew k6) r6 (ai (by omega) _ _) (ai (by omega) _ _)
  clear J6 k6 r6 k b g;go_wp2_with fail;refine J7.mono ?_;rintro r w7 ⟨rfl,k7⟩;clear J7;go_wp2_with fail;go_ret;exact ⟨rfl,K6.out.trans k7⟩
 ·have HT:=aa (HF.out (fun h=>a3 h.2.2.1));have J1:=pD ao L cap xs false (by simp [a3]) w hu a (by omega);clear hu a hL hR hX;go_enter Tryz.func41,Tryz.ntmps41;go_wp2_with fail;refine J1.mono ?_;rintro r w1 ⟨rfl,k1⟩;go_wp2_with fail;go_ret;exact ⟨by rw [HT.out];rfl,k1⟩

open Go.RowKit Go.Shelf

def og (P:Program) (l:Nat) (R:Ending→World→Prop):Exit→Act→World→Prop
 | .normal,_,w=>∃ v w',(Instr.endRound l none).run P w=.ok v w'∧R (.returned v) w'
 | .ret,_,w=>∃ v w',(Instr.endRound l (some .ret)).run P w=.ok v w'∧R (.returned v) w'
 | .exit _,_,_=>False
 | .goto _,_,_=>False
 | .panic ch,a,w=>a.defers=[]∧R (.panicked ch) w
 | .outgrown,_,_=>False

theorem m5 {P:Program} {n l:Nat} {f:FuncId} {fn:Func} {tmps:Array Value} {assign body:Code} {w:World} {R:Ending→World→Prop} (hf:P.funcs[f]? = some fn)
  (h:assign.wpIn (Fence.wide.inRound l) n P (Exit.then (fun a₁ w₁=>∃ w₂,(Instr.beginRound l).run P w₁=.ok () w₂∧body.wpIn (Fence.wide.inRound l) n P (og P l R) a₁ w₂) (fun _ _ _=>False))
   { tmps:=tmps,defers:=[] } w) :
  RoundIn Fence.wide n P l f tmps assign body w R:=by
 refine ⟨trivial,fun c cs hr=>?_⟩
 let b:Frame:={ (default:Frame) with fn:=f,kind:=.normal,roundOf:=some l }
 have p:Frame.round l f tmps assign body .normal=b.atR { tmps:=tmps,defers:=[] } [.code assign,.beginRound,.code body]:=by
  simp [Frame.round,Frame.atR,b]
 have k:(Fence.wide.inRound l).room ((c :: cs).length+1+n):=hr;have m:(Fence.wide.inRound l).fn b.fn:=trivial;obtain ⟨e,a₁,w₁,hq,d⟩:=h b [.beginRound,.code body] (c :: cs) rfl m k;rw [← p] at d;cases e with
 | normal=>
  obtain ⟨w₂,o,j⟩:=hq;have s1:StepsIn (Machine.fenced P (Fence.wide.inRound l)) P (lone (b.atR a₁ [.beginRound,.code body]) (c :: cs) w₁) (lone (b.atR a₁ [.code body]) (c :: cs) w₂):=
   .one (fenced_calm (fr:=b.atR a₁ [.beginRound,.code body]) m k rfl) (stepR_beginRound rfl o)
  obtain ⟨e₂,a₂,w₃,i,a⟩:=j b [] (c :: cs) rfl m k;cases e₂ with
  | normal=>
   obtain ⟨v,w₄,g,hR⟩:=i;exact ⟨.returned v,w₄,hR,(StepsIn.trans d s1).trans (StepsIn.trans a (.one (fenced_calm (fr:=b.atR a₂ []) m k rfl) (stepR_round_end rfl rfl g)))⟩
  | ret=>
   obtain ⟨v,w₄,g,hR⟩:=i;obtain ⟨k₁,hs⟩:=a.2 rfl;exact ⟨.returned v,w₄,hR,(StepsIn.trans d s1).trans (StepsIn.trans hs (.one (fenced_calm (fr:=b.atR a₂ (.code .ret :: k₁)) m k rfl) (stepR_round_ret rfl rfl g)))⟩
  | exit id=>exact i.elim
  | goto t=>exact i.elim
  | panic ch=>
   obtain ⟨hd,hR⟩:=i;obtain ⟨q,hs⟩:=a;exact ⟨.panicked ch,w₃,hR,(StepsIn.trans d s1).trans (StepsIn.trans hs (.one (fenced_wide P _) (step_leave_panicked ⟨rfl,hd,fn,hf⟩)))⟩
  | outgrown=>exact i.elim
 | exit id=>exact hq.elim
 | goto t=>exact hq.elim
 | ret=>exact hq.elim
 | panic chain=>exact hq.elim
 | outgrown=>exact hq.elim

def wpF (f:FuncId) (P:Program) (c:Code) (Q:Exit→Act→World→Prop) (a:Act) (w:World):Prop:=
 ∀ (b:Frame) (k:List Item) (cs:List Frame),b.roundOf=none→b.fn=f →
  ∃ e a' w',Q e a' w'∧ArrivesIn (Machine.fenced P Fence.wide) P (lone (b.atR a (.code c :: k)) cs w) b k cs e a' w'

theorem er {f:FuncId} {P:Program} {n:Nat} {x y:Code} {Q:Exit→Act→World→Prop} {a:Act} {w:World} (h:∀ K:Act→World→Prop,(∀ a w,wpF f P y Q a w→K a w)→x.wpIn Fence.wide n P (Exit.then K Q) a w):wpF f P (Code.seq x y) Q a w:=by
 intro b k cs g hb;have h0:(lone (b.atR a (.code (.seq x y) :: k)) cs w).fenced P Fence.wide:=fenced_wide P _;obtain ⟨e,a₁,w₁,hq,c⟩:=h _ (fun _ _ h=>h) b (.code y :: k) cs g trivial (room_wide _);cases e with
 | normal=>
  obtain ⟨e₂,a₂,w₂,i,d⟩:=hq b k cs g hb;exact ⟨e₂,a₂,w₂,i,.of_steps (.head h0 stepR_seq c) d⟩
 | exit id=>exact ⟨_,a₁,w₁,hq,.of_steps (.one h0 stepR_seq) (.pass (x:=.code y) rfl (fun _ _=>.inl (by simp)) c)⟩
 | goto l=>exact ⟨_,a₁,w₁,hq,.of_steps (.one h0 stepR_seq) (.pass (x:=.code y) rfl (fun _ _=>.inl (by simp)) c)⟩
 | ret=>exact ⟨_,a₁,w₁,hq,.of_steps (.one h0 stepR_seq) (.pass (x:=.code y) rfl (fun _ _=>.inl (by simp)) c)⟩
 | panic ch=>exact ⟨_,a₁,w₁,hq,.of_steps (.one h0 stepR_seq) (.pass (x:=.code y) rfl (fun _ _=>.inl (by simp)) c)⟩
 | outgrown=>exact ⟨_,a₁,w₁,hq,.of_steps (.one h0 stepR_seq) (.pass (x:=.code y) rfl (fun _ _=>.inl (by simp)) c)⟩

theorem qV {f:FuncId} {P:Program} {id:Nat} {c:Code} {Q:Exit→Act→World→Prop} {a:Act} {w:World} (h:wpF f P c (fun e a w=>match e with | .normal=>Q .normal a w | .ret=>Q .ret a w | .panic ch=>Q (.panic ch) a w | _=>False) a w):wpF f P (Code.block id c) Q a w:=by
 intro b k cs g hb;have h0:(lone (b.atR a (.code (.block id c) :: k)) cs w).fenced P Fence.wide:=fenced_wide P _;obtain ⟨e,a₁,w₁,hq,d⟩:=h b (.inBlock id :: k) cs g hb;cases e with
 | normal=>exact ⟨.normal,a₁,w₁,hq,.head h0 stepR_block (StepsIn.trans d (.one (fenced_wide P _) stepR_inBlock))⟩
 | exit id'=>exact hq.elim
 | goto l=>exact hq.elim
 | ret=>exact ⟨_,a₁,w₁,hq,.of_steps (.one h0 stepR_block) d⟩
 | panic ch=>exact ⟨_,a₁,w₁,hq,.of_steps (.one h0 stepR_block) d⟩
 | outgrown=>exact hq.elim

theorem kh {f:FuncId} {P:Program} {n:Nat} {g:Operand} {ps:Array Tmp} {assign body:Code} {Q:Exit→Act→World→Prop} {a:Act} {w:World}
  (h:∃ (l:Nat) (o:List Deferred) (w₁:World) (d:Deferred) (s:World) (gf:FuncId) (args:Array Value) (w₂:World),
   (Instr.enterLoop f a.tmps ps assign body none).run P w=.ok (l,o) w₁ ∧
   (resolve a.eval (rangeCall g l) 0).run P w₁=.ok d s ∧
   (invoke d.target d.args).run P s=.ok (.enter gf args) w₂ ∧
   CallsIn Fence.wide (n-1) P gf args w₂ (rangePost Fence.wide n P l Q { a with defers:=o ++ a.defers })) :
  wpF f P (Code.rangeFunc g ps assign body) Q a w:=by
 intro b k cs z hb;subst hb;obtain ⟨l,o,w₁,d,s,f,args,w₂,he,t,hinv,hF,r⟩:=h;rw [← z] at he;have h0:(lone (b.atR a (.code (.rangeFunc g ps assign body) :: k)) cs w).fenced P Fence.wide:=fenced_wide P _;have j:=stepR_rangeFunc (P:=P) (b:=b) (a:=a) (k:=k) (cs:=cs) (w:=w) he t hinv;obtain ⟨e,w₃,fr,hR,i,B,m⟩:=r (b.atR { a with defers:=o ++ a.defers } (.inRangeFunc l :: k) :: cs) (room_wide _);cases e with
 | outgrown=>
  obtain ⟨a₀,w₀,hq⟩:=hR;exact ⟨.outgrown,a₀,w₀,hq,.inr (Outgrown.of_steps (.one j) i)⟩
 | returned v=>
  obtain ⟨q,w₄,x,hj⟩:=hR;have p:StepsIn (Machine.fenced P Fence.wide) P (lone (b.atR a (.code (.rangeFunc g ps assign body) :: k)) cs w) (lone (b.atR { a with defers:=o ++ a.defers } ((q.map Item.code).toList ++ k)) cs w₄):=by
   refine .head h0 j (StepsIn.trans i (.head (fenced_wide P _) ?_ (.one (fenced_wide P _) (stepR_endRangeFunc x))));rw [← finish_atR_inRangeFunc l v];exact step_leave_returned m
  cases q with
  | none=>exact ⟨.normal,_,w₄,hj,p⟩
  | some c=>
   obtain ⟨e',A,w₅,hq,y⟩:=hj b k cs z trivial (room_wide _);exact ⟨e',A,w₅,hq,.of_steps p y⟩
 | panicked chain=>
  refine ⟨.panic chain,_,w₃,hR,.inRangeFunc l :: k,.head h0 j (StepsIn.trans i (.one (fenced_wide P _) ?_))⟩;rw [← Frame.raise_atR];exact step_leave_panicked m

theorem dU {P:Program} {n:Nat} {f:FuncId} {fn:Func} {c:Code} {args:Array Value} {w:World} {R:Ending→World→Prop}
  (hf:P.funcs[f]? = some fn) (hb:fn.body=some c)
  (h:wpF f P c (bodyPostM Fence.wide n P fn R) { tmps:=args ++ Array.replicate (fn.ntmps-args.size) undef,defers:=[] } w):CallsIn Fence.wide n P f args w R:=by
 refine ⟨trivial,fun cs hr=>?_⟩
 let b:Frame:={ (default:Frame) with fn:=f,kind:=.normal,roundOf:=none }
 have g:Frame.enter P f args .normal =
   b.atR { tmps:=args ++ Array.replicate (fn.ntmps-args.size) undef,defers:=[] } [.code c]:=by
  simp [Frame.enter,Frame.atR,hf,hb,b]
 obtain ⟨e,a',w',hq,a⟩:=h b [] cs rfl rfl;rw [← g] at a;cases e with
 | normal=>
  obtain ⟨e',j,k,hR,hs,i,hl⟩:=leaves_stepsInM a'.defers .returning w' { b.atR a' [] with mode:=.returning } cs rfl rfl rfl hf rfl trivial hr hq;exact ⟨e',j,k,hR,ComesIn.of_steps (StepsIn.trans a (.one (fenced_calm (fr:=b.atR a' []) (F:=Fence.wide) trivial hr rfl) (stepR_end rfl))) hs,i,hl⟩
 | ret=>
  obtain ⟨d,m⟩:=a.1 rfl;obtain ⟨e',j,k,hR,hs,i,hl⟩:=leaves_stepsInM a'.defers .returning w' { b.atR a' d with mode:=.returning } cs rfl rfl rfl hf rfl trivial hr hq;exact ⟨e',j,k,hR,ComesIn.of_steps m hs,i,hl⟩
 | panic chain=>
  obtain ⟨d,m⟩:=a;obtain ⟨e',j,k,hR,hs,i,hl⟩:=leaves_stepsInM a'.defers (.panicking chain) w' { b.atR a' d with mode:=.panicking chain } cs rfl rfl rfl hf rfl trivial hr hq;exact ⟨e',j,k,hR,ComesIn.of_steps m hs,i,hl⟩
 | exit id=>exact hq.elim
 | goto l=>exact hq.elim
 | outgrown=>exact ⟨.outgrown,w',b,hq,a.resolve_left (by simp [b]),rfl,trivial⟩

def Bk {σ α:Type} (n:Nat) (P:Program) (g:Nat) (lb:Array Value) (encs:α→Array Value) (X:σ→α→World→Prop) (St:σ→World→Prop) (Nx:σ→σ→Prop) (En:σ→List PanicEntry→World→Prop) (T:Nat→Prop) (s₀:σ) (w:World):Prop:=
 ∀ (l:Nat) (J Jx:World→Prop) (Jp:List PanicEntry→World→Prop) (W:World),Kept ae w W→l=w.heap.size+1→W.heap.size=w.heap.size+2 →
  (∀ A C,J A→Kept (fun x=>T x∨W.heap.size≤x) A C→J C) →
  (∀ s x A,J A→X s x A→YieldAt Fence.wide (n-1) P l (encs x) A fun e C=>
   (e=.returned (.bool true)∧J C∧(∃ s',Nx s s'∧St s' C)∧Kept (fun b=>T b∨b=l∨b+1=l) A C)∨(e=.returned (.bool false)∧Jx C)∨∃ ch,e=.panicked ch∧Jp ch C) →
  J W→St s₀ W →
  CallsIn Fence.wide n P g (#[.func (.yield l) #[] #[]] ++ lb) W fun e C=>((∃ v,e=.returned v)∧Jx C)∨∃ ch,e=.panicked ch∧(Jp ch C∨∃ s,En s ch C∧J C)

def A5 {σ:Type} (T Sb:Nat→Prop) (Nx:σ→Prop) (St:σ→World→Prop) (Ix:World→Prop) (Ip:List PanicEntry→World→Prop) (W:World):Exit→Act→World→Prop
 | .normal,_,W'=>Kept T W W'∧∃ s',Nx s'∧St s' W'
 | .ret,_,W'=>Kept Sb W W'∧Ix W'
 | .exit _,_,_=>False
 | .goto _,_,_=>False
 | .panic ch,a,W'=>a.defers=[]∧Kept Sb W W'∧Ip ch W'
 | .outgrown,_,_=>False

def tO (B:Nat) (J:World→Prop):Prop:=∀ A l o o',J A→B≤l→A.heap[l]? = some o→o.isCells=false→J (A.putObj l o')

theorem qI {σ α:Type} {P:Program} {n:Nat} {g:Operand} {ps:Array Tmp} {assign body:Code} {Q:Exit→Act→World→Prop} {a:Act} {w:World} {f:FuncId} {fn:Func} (hf:P.funcs[f]? = some fn) {gf:Nat} {lb:Array Value}
  (hg:a.eval g=.func (.func gf) #[] lb) (eg:∀ args w,(callFunc gf args).run P w=.ok (.enter gf args) w)
  {q:α→Array Value} {X:σ→α→World→Prop} {St:σ→World→Prop} {Nx:σ→σ→Prop} {En:σ→List PanicEntry→World→Prop} {T Sb:Nat→Prop} {s₀:σ} (J:Bk (n-1) P gf lb q X St Nx En T s₀ w) (af:∀ x,(q x).size=ps.size) (hT:∀ b,T b→b<w.heap.size) (hSb:∀ b,Sb b→b<w.heap.size)
  (hX:∀ s x A l o o',X s x A→A.heap[l]? = some o→o.isCells=false→X s x (A.putObj l o'))
  (I Ix:World→Prop) (Ip:List PanicEntry→World→Prop) (hI:∀ A C,I A→Kept (fun x=>T x∨w.heap.size≤x) A C→I C) (L:tO w.heap.size Ix) (R:∀ s,tO w.heap.size (St s)) (h0:I w) (ai:∀ W,Kept ae w W→St s₀ W) (a₁:α→Act)
  (m:∀ (l:Nat) (x:α) (W:World) (K:Act→World→Prop),K (a₁ x) W→assign.wpIn (Fence.wide.inRound l) (n-1-1) P (Exit.then K (fun _ _ _=>False)) { tmps:=(ps.zip (q x)).foldl (fun t (p,v)=>t.setIfInBounds p v) a.tmps,defers:=[] } W)
  (hbody:∀ (l:Nat) (s:σ) (x:α) (W:World),w.heap.size≤W.heap.size→I W→X s x W→body.wpIn (Fence.wide.inRound l) (n-1-1) P (A5 T Sb (Nx s) St Ix Ip W) (a₁ x) W)
  (hstop:∀ (D:Nat) (W:World),w.heap.size≤D→Ix W→W.heap[D]? = some (.deferred (some []))→Q .ret { a with defers:={ target:=.collected D,args:=#[] } :: a.defers } W)
  (hpan:∀ (D:Nat) (ch:List PanicEntry) (W:World),w.heap.size≤D→(Ip ch W∨∃ s,En s ch W∧I W)→W.heap[D]? = some (.deferred (some []))→Q (.panic ch) { a with defers:={ target:=.collected D,args:=#[] } :: a.defers } W) :
  wpF f P (Code.rangeFunc g ps assign body) Q a w:=by
 refine kh (n:=n) ?_;obtain ⟨c,j⟩:∃ c:LoopState→Option Code→Loop,c=fun st pe=>{ state:=st,pending:=pe,fn:=f,tmps:=a.tmps,params:=ps,assign,body,defers:=w.heap.size }:=⟨_,rfl⟩
 obtain ⟨W1,E⟩:∃ W1,W1=(w.alloc (.deferred (some []))).alloc (.loop (c .ready none)):=⟨_,rfl⟩
 have N:W1.heap.size=w.heap.size+2:=by rw [E];simp
 have B:Kept ae w W1:=by rw [E];exact ((ah _ w).alloc _).alloc _
 have ac:Books w.heap.size (c .ready none) W1:=by
  rw [E];refine ⟨?_,(Below.heap_alloc _ _ _ (by simp)).trans (World.alloc_heap_new w _)⟩;have:=World.alloc_heap_new (w.alloc (.deferred (some []))) (.loop (c .ready none))
  rwa [World.size_alloc] at this
 refine ⟨w.heap.size+1,[{ target:=.collected w.heap.size,args:=#[] }],W1,{ target:=.fn (.func gf) lb,args:=#[.func (.yield (w.heap.size+1)) #[] #[]] },W1,gf,#[.func (.yield (w.heap.size+1)) #[] #[]] ++ lb,W1,?_,?_,?_,?_⟩
 ·rw [E,j];exact run_enterLoop_outer _ _ _ _ _
 ·simp only [resolve,hg];simp [go_sem]
 ·simp [invoke,go_sem,eg]
 ·have y:∀ (d:Option Code) (A:World),Books w.heap.size (c .busy none) A→∃ C,(Instr.endRound (w.heap.size+1) d).run P A=.ok (.bool d.isNone) C∧Books w.heap.size (c (if d.isNone then .ready else .done) d) C∧Below w.heap.size A C∧Kept (fun b=>b=w.heap.size+1) A C∧∃ o',C=A.putObj (w.heap.size+1) o':=fun d A hb=>by
   refine ⟨_,run_endRound (P:=P) d hb.1,?_,gQ _ (by omega),dC _ _ _,_,rfl⟩;have:=hb.put { c .busy none with state:=if d.isNone then .ready else .done,pending:=d };rw [j] at this ⊢;exact this
  have G:∀ {r:Loop},∀ A C,(I A∧Books w.heap.size r A)→Kept (fun x=>T x∨W1.heap.size≤x) A C→I C∧Books w.heap.size r C:=fun A C h k=>by
   rw [N] at k;refine ⟨hI A C h.1 (k.mono (fun x _ e=>?_)),?_⟩
   ·rcases e with e | e
    ·exact .inl e
    ·exact .inr (by omega)
   ·have hl:=h.2.lt;refine ⟨(k.block _ (by omega) ?_).trans h.2.1,(k.block _ (by omega) ?_).trans h.2.2⟩
    all_goals
     rintro (e | e)
     ·have:=hT _ e;omega
     ·omega
  refine (J (w.heap.size+1) (fun A=>(I A∧w.heap.size≤A.heap.size)∧Books w.heap.size (c .ready none) A) (fun A=>Ix A∧Books w.heap.size (c .done (some .ret)) A) (fun ch A=>Ip ch A∧A.heap[w.heap.size]? = some (.deferred (some []))) W1 B rfl N (fun A C h k=>by obtain ⟨h1,h2⟩:=G A C ⟨h.1.1,h.2⟩ k;exact ⟨⟨h1,Nat.le_trans h.1.2 k.size⟩,h2⟩) ?_ ⟨⟨hI _ _ h0 (gp (fG B (leR _))),B.size⟩,ac⟩ (ai _ B)).mono ?_
  ·rintro s x A ⟨⟨hi,hz⟩,hb⟩ hx;have hy:=run_yield (P:=P) (args:=q x) hb.1 (by rw [j];exact af x);rw [j] at hy;refine ⟨f,_,assign,body,hy,m5 hf (m _ x A _ ⟨_,run_beginRound hb.1 (by rw [j]),?_⟩)⟩;have Y:=hb.put { c .ready none with state:=.busy };have ab:=hX s x A _ _ (.loop { c .ready none with state:=.busy }) hx hb.1 rfl;have U:=hI _ _ hi (gp (gQ (W:=A) (l:=w.heap.size+1) (.loop { c .ready none with state:=.busy }) (by omega)));have M:=dC A (w.heap.size+1) (.loop { c .ready none with state:=.busy });have O:w.heap.size≤(A.putObj (w.heap.size+1) (.loop { c .ready none with state:=.busy })).heap.size:=Nat.le_trans hz M.size
   have H:∀ (S:Nat→Prop) C,(∀ b,S b→b<w.heap.size)→Kept S (A.putObj (w.heap.size+1) (.loop { c .ready none with state:=.busy })) C→Books w.heap.size (c .busy none) C:=fun S C hS k=>by
    have:=Y.kept k hS;rw [j] at this ⊢;exact this
   refine wpIn_mono (hbody _ s x _ O U ab) ?_;generalize A.putObj (w.heap.size+1) (.loop { c .ready none with state:=.busy })=A2 at *;rintro e a3 C hp;cases e with
   | normal=>
    obtain ⟨k,s',Z,aa⟩:=hp;have z:=H T C hT k;obtain ⟨C',hr,F,aj,V,o',rfl⟩:=y none C z;have kk:=((M.mono (fun _ _ e=>.inr (.inl e))).next k (fun _ _ e=>.inl e)).next V (fun _ _ e=>.inr (.inl e)) (S:=fun b=>T b∨b=w.heap.size+1∨b+1=w.heap.size+1)
    refine ⟨_,_,hr,.inl ⟨rfl,⟨⟨hI _ _ hi (kk.mono (fun x _ e=>?_)),Nat.le_trans hz kk.size⟩,F⟩,⟨s',Z,R s' _ _ _ o' aa (by omega) z.1 rfl⟩,kk⟩⟩;rcases e with e | e | e
    ·exact .inl e
    ·exact .inr (by omega)
    ·exact .inr (by omega)
   | ret=>
    obtain ⟨k,ad⟩:=hp;have z:=H Sb C hSb k;obtain ⟨C',hr,F,_,_,o',rfl⟩:=y (some .ret) C z;exact ⟨_,_,hr,.inr (.inl ⟨rfl,L _ _ _ o' ad (by omega) z.1 rfl,F⟩)⟩
   | exit i=>exact hp.elim
   | goto t=>exact hp.elim
   | panic ch=>
    obtain ⟨hd,k,ag⟩:=hp;exact ⟨hd,.inr (.inr ⟨ch,rfl,ag,(H Sb C hSb k).2⟩)⟩
   | outgrown=>exact hp.elim
  ·rintro e C (⟨⟨v,rfl⟩,hi,hb⟩ | ⟨ch,rfl,hh⟩)
   ·refine ⟨_,_,run_endLoop (P:=P) hb.1 (by rw [j];simp),?_⟩;rw [j] at hb ⊢;refine wpIn_ret ?_;exact hstop _ _ (leR _) (L _ _ _ _ hi (by omega) hb.1 rfl) ((World.putObj_heap_other (by omega)).trans hb.2)
   ·refine hpan _ ch C (leR _) ?_ ?_
    ·rcases hh with hh | ⟨s,h1,h2⟩
     ·exact .inl hh.1
     ·exact .inr ⟨s,h1,h2.1.1⟩
    ·rcases hh with hh | ⟨s,h1,h2⟩
     ·exact hh.2
     ·exact h2.2.2

theorem ox (p:Addr) (w:World) :
  CallsD Tryz.prog 70 #[.pointer (some p)] .returning w fun e u' w'=>e=.returned (.tuple #[])∧u'=.returning∧w'=w:=by
 refine callsD_of_wpS Tryz.func70 rfl fun c₀ cs hu=>?_
 apply wpS_seq;apply wpS_region;simp [wpOpsS,go_sem,recoverD,hu,Tryz.ntmps70,Exit.thenS];apply wpS_seq;apply wpS_seq;apply wpS_region;simp [wpOpsS,go_sem,Exit.thenS];refine wpS_cond (t:=true) (by simp [Act.eval,Array.replicate]) ?_;simp only [if_true];refine wpS_of_wp (wp_ret ?_);cases c₀
 simp_all [bodyPostS,results,Tryz.results70,Exit.thenS]

theorem AE (p:Addr) (x n:Int) (a:List PanicEntry) (w:World) (hc:w.cell? p=some (.int .i64 x)) (hz:w.frozen? p=false) :
  CallsD Tryz.prog 70 #[.pointer (some p)] (.panicking (refusal n :: a)) w fun e u' w'=>
   e=.returned (.tuple #[])∧u'=.panicking ({ refusal n with recovered:=true } :: a)∧w'=w.setCell p (.int .i64 n):=by
 refine callsD_of_wpS Tryz.func70 rfl fun c₀ cs hu=>?_
 apply wpS_seq;apply wpS_region;simp [wpOpsS,go_sem,recoverD,hu,Tryz.ntmps70,Exit.thenS];apply wpS_seq;apply wpS_seq;apply wpS_region;simp [wpOpsS,go_sem,Exit.thenS];refine wpS_cond (t:=false) (by simp [Act.eval,Array.replicate]) ?_;simp only [Bool.false_eq_true,if_false];refine wpS_of_wp (wp_skip ?_);simp only [Exit.thenS];refine wpS_of_wp ?_;have c:∀ w:World,(Instr.typeAssert (.iface 33 (.int .i64 n)) 20 33 true).run Tryz.prog w=.ok (.tuple #[.int .i64 n,.bool true]) w:=fun w=>by kernel_rfl
 have b:∀ (x:Bool) (w:World),(Op.unary .not (.bool x)).run Tryz.prog w=.ok (.bool (!x)) w:=fun _ _=>rfl
 have e:(#[Value.pointer (some p)] ++ ((((Array.replicate 15 undef).setIfInBounds 3 (Value.iface 33 (Value.int IntKind.i64 n))).setIfInBounds 0 (Value.iface 33 (Value.int IntKind.i64 n))).setIfInBounds 4 (Value.iface 33 (Value.int IntKind.i64 n))).setIfInBounds 5 (Value.bool false):Array Value)=#[.pointer (some p),.iface 33 (.int .i64 n),undef,undef,.iface 33 (.int .i64 n),.iface 33 (.int .i64 n),.bool false,undef,undef,undef,undef,undef,undef,undef,undef,undef]:=rfl;rw [e];clear e;go_wp2;simp [bodyPostS,results,Tryz.results70]

theorem t8 (f:Nat) (cap:Array Value) (w:World) (Q:Int→World→Prop) (he:∀ args w,(callFunc f args).run Tryz.prog w=.ok (.enter f args) w)
  (h:Calls Tryz.prog f cap (w.alloc (.cells #[.int .i64 0] 33)) fun e w'=>w'.heap[w.heap.size]? = some (.cells #[.int .i64 0] 33 (0,0)) ∧
   ((e=.returned (.tuple #[])∧Q 0 w')∨∃ n,e=.panicked [refusal n]∧Q n w')) :
  Calls Tryz.prog 36 #[.func (.func f) #[] cap] w fun e w'=>∃ n w1,e=.returned (.int .i64 n)∧(Q n w1∧w1.heap[w.heap.size]? = some (.cells #[.int .i64 0] 33 (0,0)))∧w'=w1.setCell ⟨w.heap.size,0,none⟩ (.int .i64 n):=by
 have c:=eI;go_enter_defers Tryz.func36,Tryz.ntmps36
 go_wp2_with fail;refine h.mono ?_;rintro e w1 ⟨hb,(⟨rfl,hq⟩ | ⟨n,rfl,hq⟩)⟩
 ·have hc:w1.cell? ⟨w.heap.size,0,none⟩=some (.int .i64 0):=by simp [World.cell?,hb]
  have hz:w1.frozen? ⟨w.heap.size,0,none⟩=false:=by simp [World.frozen?,hb]
  clear h;go_wp2_with fail;refine leaves_cons (f:=70) (args:=#[.pointer (some ⟨w.heap.size,0,none⟩)]) (by simp) (by simp [go_sem]) ?_;refine (ox ⟨w.heap.size,0,none⟩ _).mono ?_;rintro e u' b ⟨rfl,rfl,rfl⟩;have a:(w1.setCell ⟨w.heap.size,0,none⟩ (.int .i64 0)).cell? ⟨w.heap.size,0,none⟩=some (.int .i64 0):=World.cell?_setCell_same' _ _ _ (by rw [hc];rfl);simp [Leaves,settle,results,Tryz.results36,go_sem,a];exact ⟨_,⟨hq,hb⟩,rfl⟩
 ·have hc:w1.cell? ⟨w.heap.size,0,none⟩=some (.int .i64 0):=by simp [World.cell?,hb]
  have hz:w1.frozen? ⟨w.heap.size,0,none⟩=false:=by simp [World.frozen?,hb]
  clear h;refine leaves_cons (f:=70) (args:=#[.pointer (some ⟨w.heap.size,0,none⟩)]) (by simp) (by simp [go_sem]) ?_;refine (AE ⟨w.heap.size,0,none⟩ 0 n [] _ hc hz).mono ?_;rintro e u' b ⟨rfl,rfl,rfl⟩;have a:(w1.setCell ⟨w.heap.size,0,none⟩ (.int .i64 n)).cell? ⟨w.heap.size,0,none⟩=some (.int .i64 n):=World.cell?_setCell_same' _ _ _ (by rw [hc];rfl);simp [Leaves,settle,results,Tryz.results36,go_sem,a];exact ⟨_,⟨hq,hb⟩,rfl⟩

theorem eK (n:Int) (w:World):Calls Tryz.prog 38 #[.bool false,.int .i64 n] w fun e w'=>e=.returned (.tuple #[])∧w'=w:=by
 go_enter Tryz.func38,Tryz.ntmps38;go_wp2;go_end0
 exact ⟨rfl,rfl⟩

theorem fH (n:Int) (w:World):Calls Tryz.prog 38 #[.bool true,.int .i64 n] w fun e w'=>e=.panicked [refusal n]∧w'=w:=by
 go_enter Tryz.func38,Tryz.ntmps38;go_wp2;exact ⟨rfl,rfl,rfl⟩

theorem Ah (ao:Option Addr) (n cap:Nat) (w:World):Calls Tryz.prog 72 #[.slice ao n cap,.int .i64 0] w fun e w'=>e=.returned (.slice ao n cap)∧w'=w:=by
 have hR:=eK 0 w;go_enter Tryz.func72,Tryz.ntmps72;go_wp2_with fail;refine hR.mono ?_;rintro e w' ⟨rfl,rfl⟩;go_wp2;go_ret;exact ⟨rfl,rfl⟩

theorem vh (ao:Option Addr) (n cap:Nat) (E:Nat) (hE:E≠0) (w:World):Calls Tryz.prog 72 #[.slice ao n cap,.int .i64 (E:Nat)] w fun e w'=>e=.panicked [refusal (E:Nat)]∧w'=w:=by
 have hR:=fH (E:Nat) w;have a:¬ (E:Int)=0:=by omega
 have hb:((E:Int) != 0)=true:=by simp;omega
 go_enter Tryz.func72,Tryz.ntmps72;go_wp2_with fail;try rw [hb]
 refine hR.mono ?_;rintro e w' ⟨rfl,rfl⟩;exact ⟨rfl,rfl,rfl⟩

theorem yV (ao:Option Addr) (n cap:Nat) (w:World):Calls Tryz.prog 75 #[.slice ao n cap,.int .i64 0] w fun e w'=>e=.returned (.slice ao n cap)∧w'=w:=by
 have hR:=eK 0 w;go_enter Tryz.func75,Tryz.ntmps75;go_wp2_with fail;refine hR.mono ?_;rintro e w' ⟨rfl,rfl⟩;go_wp2;go_ret;exact ⟨rfl,rfl⟩

theorem AH (r:Bool) (w:World):Calls Tryz.prog 83 #[.bool r,.int .i64 0] w fun e w'=>e=.returned (.bool r)∧w'=w:=by
 have hR:=eK 0 w;go_enter Tryz.func83,Tryz.ntmps83;go_wp2_with fail;refine hR.mono ?_;rintro e w' ⟨rfl,rfl⟩;go_wp2;go_ret;exact ⟨rfl,rfl⟩

theorem xy (r:Bool) (E:Nat) (hE:E≠0) (w:World):Calls Tryz.prog 83 #[.bool r,.int .i64 (E:Nat)] w fun e w'=>e=.panicked [refusal (E:Nat)]∧w'=w:=by
 have hR:=fH (E:Nat) w;have a:¬ (E:Int)=0:=by omega
 have hb:((E:Int) != 0)=true:=by simp;omega
 go_enter Tryz.func83,Tryz.ntmps83;go_wp2_with fail;try rw [hb]
 refine hR.mono ?_;rintro e w' ⟨rfl,rfl⟩;exact ⟨rfl,rfl,rfl⟩

theorem xi (co p:Option Addr) (L cap B:Nat) (k:Int) (xs cs:List Nat) (r1:Bool) (r2:List (List Nat)) (r3:Nat) (r4:List Nat) (g:dY xs k cs=(r1,r2,r3,r4)) (f:-9223372036854775808≤k) (h:k≤9223372036854775807) (w:World)
  (hu:Row .u64 w (.slice co L cap) xs) (hd:Digs xs) (hL:L≤1000000) (hs:Lsc w p B cs) (hB:B≤w.heap.size) (d:Digs cs 256) :
  Calls Tryz.prog 42 #[.pointer p,.slice co L cap,.int .i64 k] w fun e w'=>((r3=0∧e=.returned (.bool r1))∨(r3≠0∧e=.panicked [refusal (r3:Nat)]))∧Lsc w' p B r4∧Kept (ofP p) w w':=by
 have J:=vK co p L cap B k xs cs r1 r2 r3 r4 g f h w hu hd hL hs hB d;clear g f h hu hd hL hs hB d;by_cases hr:r3=0
 ·subst hr;go_enter Tryz.func42,Tryz.ntmps42;go_wp2_with fail;refine J.mono ?_;rintro e w1 ⟨v,rfl,b,a,kk⟩;obtain ⟨vo,vc,rfl⟩:=b.slice;have J2:=AH r1 w1;have c:=aa a;have HK:=aa kk;clear J b a kk;go_wp2_with fail;refine J2.mono ?_;rintro e w2 ⟨rfl,rfl⟩;clear J2;go_wp2_with fail;go_ret;exact ⟨.inl ⟨trivial,rfl⟩,c.out,HK.out⟩
 ·have HR:=aa hr;go_enter Tryz.func42,Tryz.ntmps42;go_wp2_with fail;refine J.mono ?_;rintro e w1 ⟨v,rfl,b,a,kk⟩;obtain ⟨vo,vc,rfl⟩:=b.slice;have J2:=xy r1 r3 HR.out w1;have c:=aa a;have HK:=aa kk;clear J b a kk;go_wp2_with fail;refine J2.mono ?_;rintro e w2 ⟨rfl,rfl⟩;exact ⟨rfl,.inr ⟨HR.out,rfl⟩,c.out,HK.out⟩

theorem zY (p:Option Addr) (t:Int) (w:World) :
  Calls Tryz.prog 40 #[.pointer p,.int .i64 t] w fun e w'=>e=.returned (.func (.func 71) #[] #[.pointer (some ⟨w.heap.size,0,none⟩),.pointer (some ⟨w.heap.size+1,0,none⟩)]) ∧
   Boxed w' w.heap.size 26 (.pointer p)∧Boxed w' (w.heap.size+1) 3 (.int .i64 t)∧Kept ae w w'∧w'.heap.size=w.heap.size+2:=by
 have c:=eI;have b0:=(Boxed.new w 26 (.pointer p)).alloc (.cells #[.int .i64 t] 3);have b1:=Boxed.new (w.alloc (.cells #[.pointer p] 26)) 3 (.int .i64 t);simp only [World.size_alloc] at b1;have a:=aa b0;have b:=aa b1;clear b0 b1;go_enter Tryz.func40,Tryz.ntmps40;go_wp2_with fail;go_ret;exact ⟨rfl,a.out,b.out,((ah ae w).alloc _).alloc _,by simp⟩

theorem nS {B V n:Nat} {l:List Nat} (hl:l.length=n) (h:∀ i,i<n→l.getD i 0=dig V i B):l=ag V n B:=by
 refine List.ext_getElem? fun i=>?_
 by_cases hi:i<n
 ·have h1:=h i hi;have h2:=cY B V n i hi;rw [List.getD_eq_getElem?_getD,List.getElem?_eq_getElem (by omega)] at h1;rw [List.getD_eq_getElem?_getD,List.getElem?_eq_getElem (by rw [af];omega)] at h2;rw [List.getElem?_eq_getElem (by omega),List.getElem?_eq_getElem (by rw [af];omega)];simp only [Option.getD_some] at h1 h2;rw [h1,h2]
 ·rw [List.getElem?_eq_none (by omega),List.getElem?_eq_none (by rw [af];omega)]

theorem eE (Y j i:Nat):(dig Y j).testBit i=(decide (i<64) && Y.testBit (64*j+i)):=by
 unfold dig;rw [show (18446744073709551616:Nat)=2^64 from rfl,← Nat.pow_mul,Nat.testBit_mod_two_pow,Nat.testBit_div_two_pow,Nat.add_comm i]

theorem mM {l:List Nat} {j i d:Nat} (hj:j<l.length):(l.set j d).getD i 0=if i=j then d else l.getD i 0:=by
 rw [List.getD_eq_getElem?_getD,List.getElem?_set,List.getD_eq_getElem?_getD];by_cases h:j=i
 ·subst h;simp [hj]
 ·rw [if_neg h,if_neg (fun e=>h e.symm)]

theorem xj (Y p L:Nat) (hp:p/64<L):(ag Y L).set (p/64) (dig Y (p/64) ||| 2^(p%64))=ag (Y ||| 2^p) L:=by
 refine nS (by rw [List.length_set,af]) fun i hi=>?_
 rw [mM (by rw [af];exact hp),cY _ _ _ _ hi];have hb:∀ t,t<64→((2^p).testBit (64*i+t)=decide (i=p/64∧t=p%64)):=fun t ht=>by
  rw [Nat.testBit_two_pow];exact decide_eq_decide.2 ⟨fun h=>by omega,fun h=>by omega⟩
 refine Nat.eq_of_testBit_eq fun t=>?_
 rw [eE,Nat.testBit_or];by_cases ht:t<64
 ·rw [hb t ht]
  split
  ·next h=>
   subst h;rw [Nat.testBit_or,eE,Nat.testBit_two_pow];by_cases h2:t=p%64
   ·subst h2;have h4:p%64<64:=Nat.mod_lt _ (by omega);simp [h4]
   ·have h3:¬ p%64=t:=fun e=>h2 e.symm
    simp [ht,h2,h3]
  ·next h=>
   rw [eE];simp [ht,h]
 ·split
  ·next h=>
   subst h;rw [Nat.testBit_or,eE,Nat.testBit_two_pow];simp [ht];omega
  ·next h=>
   rw [eE];simp [ht]

theorem uN (X n L:Nat) (h1:64*L<n+64) (h2:n≤64*L) (hL:1≤L) :
  (ag X L).set (L-1) (dig X (L-1) &&& 18446744073709551615/2^(64*L-n))=ag (X%2^n) L:=by
 have hy:18446744073709551615/2^(64*L-n)=2^(64-(64*L-n))-1:=by
  have hs:64*L-n<64:=by omega
  generalize 64*L-n=s at hs;have e:(18446744073709551615:Nat)=2^s*(2^(64-s)-1)+(2^s-1):=by
   have e1:2^s*2^(64-s)=18446744073709551616:=by
    rw [← Nat.pow_add,show s+(64-s)=64 by omega]
   have p1:0<2^s:=Nat.pow_pos (by omega);have p2:0<2^(64-s):=Nat.pow_pos (by omega);rw [Nat.mul_sub,e1,Nat.mul_one];have:2^s≤2^64:=Nat.pow_le_pow_right (by omega) (by omega);have:(2:Nat)^64=18446744073709551616:=rfl;omega
  have p1:0<2^s:=Nat.pow_pos (by omega);rw [e,Nat.mul_add_div p1,Nat.div_eq_of_lt (by omega),Nat.add_zero]
 rw [hy];refine nS (by rw [List.length_set,af]) fun i hi=>?_
 rw [mM (by rw [af];omega),cY _ _ _ _ hi];refine Nat.eq_of_testBit_eq fun t=>?_
 rw [eE,Nat.testBit_mod_two_pow]
 split
 ·next h=>
  subst h;rw [Nat.and_two_pow_sub_one_eq_mod,Nat.testBit_mod_two_pow,eE];by_cases ht:t<64
  ·have e:decide (t<64-(64*L-n))=decide (64*(L-1)+t<n):=decide_eq_decide.2 ⟨fun h=>by omega,fun h=>by omega⟩;rw [e];simp [ht]
  ·simp [ht]
 ·next h=>
  rw [eE];by_cases ht:t<64
  ·have e:64*i+t<n:=by omega
   simp [ht,e]
  ·simp [ht]

theorem Ak (x:Nat):x ||| 1=x+(if x%2=0 then 1 else 0):=by
 have e1:x=2^1*(x/2) ||| x%2:=by
  rw [← Nat.two_pow_add_eq_or_of_lt (by omega)];omega
 have e2:(x%2) ||| 1=1:=by
  rcases Nat.mod_two_eq_zero_or_one x with h | h <;> rw [h] <;> rfl
 rw [show x ||| 1=(2^1*(x/2) ||| x%2) ||| 1 by rw [← e1],Nat.or_assoc,e2,← Nat.two_pow_add_eq_or_of_lt (by omega)]
 split <;> omega

theorem p9 (bs:List Nat) (n:Nat) (hn:16≤n):bev bs%2^n ||| 2^(n-1) ||| 2^(n-2) ||| 1=dr bs n:=by
 unfold dr;generalize bev bs=X;obtain ⟨m,rfl⟩:∃ m,n=m+2:=⟨n-2,by omega⟩
 rw [show m+2-1=m+1 by omega,show m+2-2=m by omega];have hr:X%2^m<2^m:=Nat.mod_lt _ (Nat.pow_pos (by omega));have e:X%2^(m+2) ||| 2^(m+1) ||| 2^m=2^m*3+X%2^m:=by
  refine Nat.eq_of_testBit_eq fun j=>?_
  rw [Nat.testBit_two_pow_mul_add _ hr,Nat.testBit_or,Nat.testBit_or,Nat.testBit_mod_two_pow,Nat.testBit_two_pow,Nat.testBit_two_pow,Nat.testBit_mod_two_pow];by_cases h1:j<m
  ·have a1:¬ m+1=j:=by omega
   have a2:¬ m=j:=by omega
   have a3:j<m+2:=by omega
   simp [h1,a1,a2,a3]
  ·rw [if_neg h1];by_cases h2:j=m
   ·subst h2;simp
   ·by_cases h3:j=m+1
    ·subst h3;rw [show m+1-m=1 by omega];simp
     decide
    ·have a1:¬ m+1=j:=fun e=>h3 e.symm
     have a2:¬ m=j:=fun e=>h2 e.symm
     have a3:¬ j<m+2:=by omega
     have a4:Nat.testBit 3 (j-m)=false:=Nat.testBit_lt_two_pow (by
      have:2^2≤2^(j-m):=Nat.pow_le_pow_right (by omega) (by omega);omega)
     simp [a1,a2,a3,a4]
 rw [e,Ak];have h2:2^m%2=0:=by
  rw [show m=(m-1)+1 by omega,Nat.pow_succ];omega
 generalize X%2^m=r at *
 split
 ·next h=>rw [if_pos (by omega)];omega
 ·next h=>rw [if_neg (by omega)];omega

end Go.Proofs.YtcemlfokmjjiaaaGreatDoor
