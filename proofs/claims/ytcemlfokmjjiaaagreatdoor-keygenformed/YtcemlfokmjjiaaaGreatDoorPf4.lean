/- Put together of: Prm1 BigDivMod Base3. -/
import Derived.Test.YtcemlfokmjjiaaaGreatDoorPf2
import Derived.Test.YtcemlfokmjjiaaaGreatDoorPf3
import Derived.Deep.RegionHeld3
import Derived.Deep.DrawnRows
import Derived.Deep.RegionWith
import Derived.BigRegion

namespace Go.Proofs.YtcemlfokmjjiaaaGreatDoor
set_option maxRecDepth 100000
set_option maxHeartbeats 4000000
open Go.RowKit

def bg (n:Nat):Prop:=2≤n∧∀ d,2≤d→d<n→n%d≠0

instance (n:Nat):Decidable (bg n):=
 if h:2≤n then
  if g:∀ d,d<n→2≤d→n%d≠0 then isTrue ⟨h,fun d h1 h2=>g d h2 h1⟩ else isFalse (fun p=>g (fun d h1 h2=>p.2 d h2 h1))
 else isFalse (fun p=>h p.1)

theorem jR {n k:Nat} (hn:2≤n) (hk:n<k*k) (h:∀ d,2≤d→d<k→n%d≠0):bg n:=by
 refine ⟨hn,fun d hd g e=>?_⟩;by_cases hdk:d<k
 ·exact h d hd hdk e
 ·obtain ⟨c,hc⟩:=Nat.dvd_of_mod_eq_zero e;have b:2≤c:=by
   rcases Nat.lt_or_ge c 2 with h1 | h1
   ·have f:c=0∨c=1:=by omega
    rcases f with rfl | rfl
    ·omega
    ·omega
   ·exact h1
  have a:c<k:=by
   rcases Nat.lt_or_ge c k with h1 | h1
   ·exact h1
   ·have:=Nat.mul_le_mul (show k≤d by omega) h1;omega
  refine h c b a ?_;rw [hc,Nat.mul_comm];exact Nat.mul_mod_right c d

theorem lZ {n d:Nat} (hd:2≤d) (a:d*d≤n) (h:n%d=0):¬ bg n:=by
 intro p;have:d<n:=by
  have:=Nat.mul_le_mul_left d hd;omega
 exact p.2 d hd this h

theorem mS (n:Nat) (hn:n≤1000000) (R:Bool) (hR:R=true↔bg n) (w:World) :
  Calls Tryz.prog 112 #[.int .i64 (n:Nat)] w fun e w'=>e=.returned (.bool R)∧w'=w:=by
 have HR:=aa hR;clear hR;go_enter Tryz.func112,Tryz.ntmps112;go_wp2_with fail;go_loopw [3] (fun dv wr=>wr=w∧∃ d:Nat,2≤d∧d≤1002∧dv=.int .i64 (d:Int)∧Hid (∀ c,2≤c→c<d→n%c≠0)) (fun dv _=>1002-(intOf dv).toNat)
 case atStart=>exact ⟨rfl,2,by omega,by omega,rfl,fun c h1 h2=>by omega⟩
 case round=>
  obtain ⟨rfl,d,i,hd,rfl,b⟩:=hrel;have g:d*d≤1002*1002:=Nat.mul_le_mul hd hd;obtain ⟨q,hq⟩:∃ q,q=d*d:=⟨_,rfl⟩
  have hw:IntKind.i64.wrap ((d:Int)*(d:Int))=(q:Int):=by
   have e:(d:Int)*(d:Int)=((d*d:Nat):Int):=by simp
   rw [e,← hq,IntKind.wrap_i64];omega
  have HQ:=aa hq;rw [← hq] at g;clear hq;by_cases hqn:q≤n
  ·have f:d*d≤n:=by rw [← HQ.out];exact hqn
   have j:d≤1000:=by
    rcases Nat.lt_or_ge 1000 d with h | h
    ·have:=Nat.mul_le_mul (show 1001≤d by omega) (show 1001≤d by omega);omega
    ·exact h
   have g1:(q:Int)≤(n:Int):=by omega
   have g0:¬ (d:Int)=0:=by omega
   have a:(n:Int).tmod (d:Int)=((n%d:Nat):Int):=by rw [Int.tmod_eq_emod_of_nonneg (by omega)];simp
   by_cases hm:n%d=0
   ·have HF:Hid (R=false):=by
     unfold Hid;cases h:R with
     | false=>rfl
     | true=>exact absurd (HR.out.1 h) (lZ i f hm)
    rw [hm] at a;clear hm f;go_wp2_with fail;go_ret;exact ⟨by rw [HF.out];rfl,rfl⟩
   ·have HA:Hid (∀ c,2≤c→c<d+1→n%c≠0):=fun c h1 h2=>by
     by_cases e:c=d
     ·subst e;exact hm
     ·exact b.out c h1 (by omega)
    obtain ⟨r,hr⟩:∃ r,r=n%d:=⟨_,rfl⟩
    rw [← hr] at a hm;have g2:¬ (r:Int)=0:=by omega
    clear hr f;go_wp2_with fail;go_roundw
    case rel=>exact ⟨trivial,d+1,by omega,by omega,by go_num,HA⟩
    case measure=>simp [intOf];omega
  ·have g1:¬ (q:Int)≤(n:Int):=by omega
   have HB:Hid (R=decide ((n:Int) > 1)):=by
    unfold Hid;by_cases h:2≤n
    ·rw [aT (by omega)];exact HR.out.2 (jR h (by rw [← HQ.out];omega) b.out)
    ·rw [aC (by omega)];cases h2:R with
     | false=>rfl
     | true=>exact absurd (HR.out.1 h2).1 h
   go_wp2_with fail;go_ret;exact ⟨by rw [HB.out];rfl,rfl⟩

def aV (m:Nat):List Nat:=(List.range (m+1)).filter (fun p=>decide (bg p))

theorem ik (m:Nat):aV (m+1)=aV m ++ (if bg (m+1) then [m+1] else []):=by
 unfold aV;rw [List.range_succ,List.filter_append]
 congr 1
 by_cases h:bg (m+1)
 ·rw [if_pos h];simp [h]
 ·rw [if_neg h];simp [h]

theorem iG {m:Nat} (h:m≤1):aV m=[]:=by
 have a:m=0∨m=1:=by omega
 rcases a with rfl | rfl <;> decide

theorem iQ {m p:Nat}:p ∈ aV m↔bg p∧p≤m:=by
 unfold aV;rw [List.mem_filter,List.mem_range,decide_eq_true_iff];exact ⟨fun h=>⟨h.2,by omega⟩,fun h=>⟨by omega,h.1⟩⟩

def gP (n:Int):Nat:=if n≤10000 then n.toNat else 10000

theorem mu (n:Int):gP n≤10000:=by unfold gP;split <;> omega

def IsFac (X b R:Nat):Prop:=(R=0∧∀ p,bg p→p≤b→X%p≠0)∨(bg R∧R≤b∧X%R=0∧∀ p,bg p→p<R→X%p≠0)

theorem IsFac.uniq {X b R S:Nat} (h:IsFac X b R) (g:IsFac X b S):R=S:=by
 rcases h with ⟨rfl,h⟩ | ⟨h1,h2,h3,h4⟩
 ·rcases g with ⟨rfl,_⟩ | ⟨g1,g2,g3,_⟩
  ·rfl
  ·exact absurd g3 (h S g1 g2)
 ·rcases g with ⟨rfl,g⟩ | ⟨g1,g2,g3,g4⟩
  ·exact absurd h3 (g R h1 h2)
  ·rcases Nat.lt_trichotomy R S with h | h | h
   ·exact absurd h3 (g4 R h1 h)
   ·exact h
   ·exact absurd g3 (h4 S g1 h)

theorem IsFac.le {X b R:Nat} (h:IsFac X b R):R≤b:=by
 rcases h with ⟨rfl,_⟩ | ⟨_,h2,_⟩
 ·exact Nat.zero_le _
 ·exact h2

theorem tZ {X b p:Nat} (h:∀ q,bg q→q<p→X%q≠0) (hp:b<p):IsFac X b 0:=.inl ⟨rfl,fun q hq hb=>h q hq (by omega)⟩

theorem qJ (ao:Option Addr) (L cap:Nat) (xs:List Nat) (n:Int) (h0:-9223372036854775808≤n) (h1:n≤9223372036854775807) (w:World) (hu:Row .u64 w (.slice ao L cap) xs) (b:Digs xs) (hL:L≤1000000) :
  Calls Tryz.prog 68 #[.slice ao L cap,.int .i64 n] w fun e w'=>∃ R:Nat,e=.returned (.int .i64 (R:Int))∧IsFac (val xs) (gP n) R∧w'=w:=by
 have HU:Hid (∀ p:Nat,2≤p→((p:Int)≤n∧(p:Int)≤10000↔p≤gP n)):=fun p hp=>by
  unfold gP
  split <;> omega
 have d:=mu n;obtain ⟨X,hX⟩:∃ X,X=val xs:=⟨_,rfl⟩
 have JS:Hid (∀ (D R:Nat),D<18446744073709551616→0<D→R=X%D→Calls Tryz.prog 113 #[.slice ao L cap,.int .u64 (D:Nat)] w fun e w'=>e=.returned (.tuple #[.int .u64 (R:Nat),.int .i64 0])∧w'=w):=fun D R h1 h2 h3=>xh ao L cap xs D R h1 h2 (by rw [← hX];exact h3) w hu b hL
 rw [← hX];clear hX hu b hL;go_enter Tryz.func68,Tryz.ntmps68;go_wp2_with fail;go_loopw [5] (fun pv wr=>wr=w∧∃ p:Nat,2≤p∧p≤10001∧pv=.int .i64 (p:Int)∧Hid (∀ q,bg q→q<p→X%q≠0)) (fun pv _=>10001-(intOf pv).toNat)
 case atStart=>exact ⟨rfl,2,by omega,by omega,rfl,fun q hq h=>absurd hq.1 (by omega)⟩
 case round=>
  obtain ⟨rfl,p,c,hp,rfl,a⟩:=hrel;by_cases hin:p≤gP n
  ·obtain ⟨g1,g2⟩:=(HU.out p c).2 hin;by_cases hP:bg p
   ·have hS:=mS p (by omega) true (by simp [hP]) wr;have HP:=aa hP;clear hP;go_wp2_with fail;refine hS.mono ?_;rintro e w2 ⟨rfl,rfl⟩;clear hS;by_cases hm:X%p=0
    ·have hQ:=JS.out p 0 (by omega) (by omega) hm.symm;have HM:=aa hm;clear hm;go_wp2_with fail;refine hQ.mono ?_;rintro e w3 ⟨rfl,rfl⟩;go_wp2_with fail;go_ret;exact ⟨p,rfl,.inr ⟨HP.out,hin,HM.out,a.out⟩,rfl⟩
    ·obtain ⟨r,hr⟩:∃ r,r=X%p:=⟨_,rfl⟩
     have hQ:=JS.out p r (by omega) (by omega) hr;have HA:Hid (∀ q,bg q→q<p+1→X%q≠0):=fun q hq h=>by
      by_cases e:q=p
      ·subst e;exact hm
      ·exact a.out q hq (by omega)
     rw [← hr] at hm;have g3:¬ (r:Int)=0:=by omega
     clear hr;go_wp2_with fail;refine hQ.mono ?_;rintro e w3 ⟨rfl,rfl⟩;go_wp2_with fail;go_roundw
     case rel=>exact ⟨trivial,p+1,by omega,by omega,by go_num,HA⟩
     case measure=>simp [intOf];omega
   ·have hS:=mS p (by omega) false (by simp [hP]) wr;have HA:Hid (∀ q,bg q→q<p+1→X%q≠0):=fun q hq h=>by
     by_cases e:q=p
     ·subst e;exact absurd hq hP
     ·exact a.out q hq (by omega)
    clear hP;go_wp2_with fail;refine hS.mono ?_;rintro e w2 ⟨rfl,rfl⟩;clear hS;go_wp2_with fail;go_roundw
    case rel=>exact ⟨trivial,p+1,by omega,by omega,by go_num,HA⟩
    case measure=>simp [intOf];omega
  ·have hg:¬ ((p:Int)≤n∧(p:Int)≤10000):=fun h=>hin ((HU.out p c).1 h)
   have HF:=aa (tZ a.out (show gP n<p by omega));by_cases g1:(p:Int)≤n
   ·have g2:¬ (p:Int)≤10000:=fun h=>hg ⟨g1,h⟩
    clear hg;go_wp2_with fail;go_ret;exact ⟨0,rfl,HF.out,rfl⟩
   ·clear hg;go_wp2_with fail;go_ret;exact ⟨0,rfl,HF.out,rfl⟩

theorem gY {a b:Nat} (h:b≤a):¬ aK a b<0:=by
 unfold aK;rw [if_neg (by omega)]
 split <;> omega

theorem lU {a b:Nat} (h:¬ a=b):¬ aK a b=0:=by
 unfold aK;rw [if_neg h]
 split <;> omega

def jP (X:Nat):Prop:=2≤X∧∃ F,IsFac X 1000 F∧(F=0∨X=F)

theorem qV (ao:Option Addr) (L cap:Nat) (xs:List Nat) (R:Bool) (hR:R=true↔jP (val xs)) (w:World) (hu:Row .u64 w (.slice ao L cap) xs) (c:Digs xs) (hL:L≤1000000) :
  Calls Tryz.prog 30 #[.slice ao L cap] w fun e w'=>e=.returned (.bool R)∧Kept af w w':=by
 obtain ⟨_,_,_,e1,f,_,_,_,_⟩:=hu.open;cases e1
 have hO:=rOf _ xs w hu c (by rw [f.out];omega);have JF:Hid (∀ W,Kept af w W→Calls Tryz.prog 68 #[.slice ao L cap,.int .i64 1000] W fun e w'=>∃ F:Nat,e=.returned (.int .i64 (F:Int))∧IsFac (val xs) (gP 1000) F∧w'=W):=fun W k=>qJ ao L cap xs 1000 (by omega) (by omega) W (hu.grew k) c hL
 rw [show gP 1000=1000 from rfl] at JF;have HR:=aa hR;clear hR hu c hL f;generalize val xs=X at *;go_enter Tryz.func30,Tryz.ntmps30;go_wp2_with fail;refine hO.mono ?_;rintro e w1 ⟨v1,rfl,d,_,k1⟩;have hS:=er 2 (by omega) w1;clear hO;go_wp2_with fail;refine hS.mono ?_;rintro e w2 ⟨v2,rfl,g,_,k2⟩;have hC:=ju v1 v2 X 2 w2 (d.grew k2) g;have K2:=k1.trans k2;clear hS;by_cases h2:2≤X
 ·have hc:=gY h2;generalize aK X 2=cc at *;go_wp2_with fail;refine hC.mono ?_;rintro e w3 ⟨rfl,m3,rfl⟩;have K3:=K2.drewN m3;have hF:=JF.out _ K3;have i:=(d.grew k2).grew ((ai af w2).drewN m3);clear hC d g k1 k2 K2;go_wp2_with fail;refine hF.mono ?_;rintro e w4 ⟨F,rfl,a,rfl⟩;clear hF;have l:=a.le;by_cases hF0:F=0
  ·subst hF0;have HT:Hid (R=true):=HR.out.2 ⟨h2,0,a,.inl rfl⟩;go_wp2_with fail;go_ret;exact ⟨by rw [HT.out];rfl,K3⟩
  ·have gF:¬ (F:Int)=0:=by omega
   have hS:=er F (by omega) (w2.drewN m3);go_wp2_with fail;refine hS.mono ?_;rintro e w5 ⟨v5,rfl,m,_,k5⟩;have b:=ju v1 v5 X F w5 (i.grew k5) m;have K5:=K3.trans k5;clear hS;by_cases hXF:X=F
   ·have HT:Hid (R=true):=HR.out.2 ⟨h2,F,a,.inr hXF⟩;rw [eC hXF] at b;go_wp2_with fail;refine b.mono ?_;rintro e w6 ⟨rfl,m6,rfl⟩;go_wp2_with fail;go_ret;exact ⟨by rw [HT.out];rfl,K5.drewN m6⟩
   ·have HT:Hid (R=false):=by
     unfold Hid;cases h:R with
     | false=>rfl
     | true=>
      obtain ⟨_,G,hG,j⟩:=HR.out.1 h;have:=hG.uniq a;subst this;rcases j with h3 | h3
      ·exact absurd h3 hF0
      ·exact absurd h3 hXF
    have n:=lU hXF;generalize aK X F=cd at *;go_wp2_with fail;refine b.mono ?_;rintro e w6 ⟨rfl,m6,rfl⟩;go_wp2_with fail;go_ret;exact ⟨by rw [HT.out];show Ending.returned (Value.bool ((F:Int) == 0 || cd == 0))=_;rw [show ((F:Int) == 0)=false by simp;omega,show (cd == 0)=false by simpa using n];rfl,K5.drewN m6⟩
 ·have HT:Hid (R=false):=by
   unfold Hid;cases h:R with
   | false=>rfl
   | true=>exact absurd (HR.out.1 h).1 h2
  rw [cj (show X<2 by omega)] at hC;go_wp2_with fail;refine hC.mono ?_;rintro e w3 ⟨rfl,m3,rfl⟩;go_wp2_with fail;go_ret;exact ⟨by rw [HT.out];rfl,K2.drewN m3⟩

attribute [local go_sem ↓] Go.wp_at_zero Go.wp_at_succ

theorem ur (t r:Nat) (ht:t<4294967296):bits .and .u32 ((t:Int)/2^r) 1=((t/2^r%2:Nat):Int):=by
 have e:(t:Int)/2^r=((t/2^r:Nat):Int):=by simp
 have hy:=Nat.div_le_self t (2^r);have h1:=u32_and_nat (t/2^r) 1 (by omega) (by omega);rw [nat_mask1] at h1;rw [e,show (1:Int)=((1:Nat):Int) from rfl,h1]

theorem xN {t r:Nat} (h:t<2^(r+1)) (hb:t/2^r%2=0):t<2^r:=by
 have h1:t/2^r<2:=by rw [Nat.div_lt_iff_lt_mul (Nat.pow_pos (by omega))];rw [Nat.pow_succ] at h;omega
 have h2:t/2^r=0:=by
  generalize t/2^r=q at *;omega
 rcases Nat.lt_or_ge t (2^r) with h3 | h3
 ·exact h3
 ·have:=(Nat.div_pos_iff).2 ⟨Nat.pow_pos (n:=r) (show 0<2 by omega),h3⟩;omega

theorem tB {t r:Nat} (hb:t/2^r%2≠0):2^r≤t:=by
 rcases Nat.lt_or_ge t (2^r) with h3 | h3
 ·rw [Nat.div_eq_of_lt h3] at hb;exact absurd rfl hb
 ·exact h3

theorem mo (u v:Value) (A M:Nat) (w:World) (hu:IsBig w u A) (hv:IsBig w v M) (hM:0<M) (b5:aF A≤10000000) :
  Calls Tryz.prog 109 #[u,v] w fun r w'=>∃ v1 v2,r=.returned (.tuple #[v1,v2])∧IsBig w' v1 (A/M)∧IsBig w' v2 (A%M)∧(∀ b,v1.ownBlock=some b→w.heap.size≤b)∧(∀ b,v2.ownBlock=some b→u.ownBlock=some b∨w.heap.size≤b)∧Kept af w w':=by
 obtain ⟨i0,aY,aS,a4,a2⟩:=info_parts Tryz.info67;have hC:=ju u v A M w hu hv;by_cases hlt:A<M
 ·rw [cj hlt] at hC;have E1:Hid (A/M=0):=Nat.div_eq_of_lt hlt;have E2:Hid (A%M=A):=al hlt;clear hlt;go_enter Tryz.func109,Tryz.ntmps109;go_wp2_with fail;refine hC.mono ?_;rintro e w1 ⟨rfl,n1,rfl⟩;go_wp2;go_ret2;have k1:Kept af w (w.drewN n1):=(ai _ _).drewN n1;exact ⟨.slice none 0 0,u,rfl,by rw [E1.out];exact IsBig.nil _,by rw [E2.out];exact hu.grew k1,fun b hb=>(by cases hb),fun b hb=>.inl hb,k1⟩
 ·have ch:¬ aK A M<0:=by unfold aK;rw [if_neg hlt];split <;> decide
  obtain ⟨cc,Y⟩:∃ cc,cc=aK A M:=⟨_,rfl⟩
  rw [← Y] at hC ch;have bX:M≤A:=by omega
  clear Y hlt;obtain ⟨ds,rd,dd,td,S,b8⟩:=hv;have O:=cX dd td;rw [S] at O;have ac:aF M≤aF A:=bu bX;have co:0<aF M:=by
   rcases Nat.eq_zero_or_pos (aF M) with h | h
   ·have:=(aN M 0).1 (by omega);simp at this;omega
   ·exact h
  obtain ⟨p,hp⟩:∃ p,aF M=p+1:=⟨aF M-1,by omega⟩
  rw [hp] at O;have L:0<ds.getD p 0:=by
   rcases td with h | h
   ·omega
   ·rw [O,Nat.add_sub_cancel] at h;omega
  have B:=dd.getD (by omega) p;have hv:IsBig w v M:=⟨ds,rd,dd,td,S,b8⟩
  obtain ⟨bo,m,bc,rfl,ba,_,_,_,hB⟩:=rd.open;have hm:m=p+1:=ba.out.symm.trans O;subst hm;obtain ⟨gb,ob,rfl,cb⟩:=hB p (by omega);by_cases hone:p=0
  ·subst hone;have T:M=ds.getD 0 0:=by
    rw [← S];cases ds with
    | nil=>simp at O
    | cons x r=>
     have:r=[]:=List.eq_nil_of_length_eq_zero (by simpa using O);subst this;simp [val]
   have aw:=fun W (hk:Kept af w W)=>rQ u A (ds.getD 0 0) W (hu.grew hk) L B
   rw [← T] at aw cb;simp only [Nat.add_zero] at cb;clear hB ba rd dd td S T L B;go_enter Tryz.func109,Tryz.ntmps109;go_wp2_with fail;refine hC.mono ?_;rintro e w1 ⟨rfl,n1,rfl⟩;have k1:Kept af w (w.drewN n1):=(ai _ _).drewN n1;have bT:=aw _ k1;clear aw hC;go_wp2_with fail;refine bT.mono ?_;rintro e w2 ⟨v1,v2,rfl,b1,b2,o1,o2,k2⟩;go_wp2;go_ret2;exact ⟨v1,v2,rfl,b1,b2,o1,fun b hb=>.inr (o2 b hb),k1.trans k2⟩
  ·have cq:¬ (p:Int)+1=1:=by omega
   have bC:=hu;obtain ⟨az,ra,da,ta,be,bV⟩:=hu;have I:=cX da ta;rw [be] at I;obtain ⟨uo,la,uc,rfl,bg,_,_,_,_⟩:=ra.open;have N:la=aF A:=bg.out.symm.trans I;clear ra da ta be bV I bg;have hu:=bC;clear bC;rw [← N] at b5 ac;have bN:Hid (la=aF A):=N;clear N;go_enter Tryz.func109,Tryz.ntmps109;go_wp2_with fail;refine hC.mono ?_;rintro e w1 ⟨rfl,n1,a7⟩;have k1:Kept af w w1:=by rw [a7];exact (ai _ _).drewN n1
   have cf:=k1.cellN cb;clear hC a7 cb hB;obtain ⟨t,ht⟩:∃ t,t=ds.getD p 0:=⟨_,rfl⟩
   rw [← ht] at cf L B;have HT:Hid (ds.getD p 0=t):=ht.symm;clear ht;obtain ⟨W,bE⟩:∃ W,Hid (w1=W):=⟨_,rfl⟩
   go_wp2_with fail;go_loopw [6] (fun ss wr=>∃ s r:Nat,s+r=31∧ss=.int .i64 (s:Nat)∧Hid (t<2^(r+1))∧Hid (wr=W)) (fun ss _=>(31-intOf ss).toNat)
   case atStart=>exact ⟨0,31,rfl,rfl,by unfold Hid;omega,bE⟩
   case round=>
    obtain ⟨s,r,bM,rfl,aj,bl⟩:=hrel;have aR:wr=w1:=bl.out.trans bE.out.symm;subst aR;have cr:(31:Int)-(s:Int)=(r:Int):=by omega
    have aM:r≤31:=by omega
    have ag:s≤31:=by omega
    have bP:Hid (s+r=31):=bM;clear bM;have R:=ur t r B;have g0:(0:Int)≤(p:Int):=Int.natCast_nonneg _;have g3:(p:Int)<(p:Int)+1:=by omega
    by_cases hb:t/2^r%2=0
    ·have P:=xN aj.out hb;rw [hb] at R;have b0:0<r:=by
      rcases Nat.eq_zero_or_pos r with h | h
      ·subst h;simp at P;omega
      ·exact h
     have X:Hid (t<2^(r-1+1)):=by unfold Hid;rw [Nat.sub_add_cancel b0];exact P
     clear hb P aj;go_wp2;go_roundw
     case rel=>exact ⟨s+1,r-1,by have:=bP.out;omega,by go_num,X,bl⟩
     case measure=>simp [intOf];omega
    ·have bv:t/2^r%2=1:=by omega
     have bL:=tB hb;rw [bv] at R;have es:31-r=s:=by have:=bP.out;omega
     obtain ⟨ak,ax,ah⟩:=tV dd O HT.out aj.out bL aM;rw [S,es] at ak ax ah;obtain ⟨bD,a9,aC⟩:=oS A s ag;rw [← bN.out] at bD a9 aC;have bn:=pG _ A s wr (hu.grew k1) (by rw [← bN.out];omega) (by omega);clear hb bv bL aj es HT;go_wp2_with fail;refine bn.mono ?_;rintro e w2 ⟨v2,rfl,a5,k2⟩;obtain ⟨us,ou,du,tu,uv,ul⟩:=a5;have ap:=cX du tu;rw [uv] at ap;rw [← ap] at bD a9;have ck:Hid (us.length=aF (2^s*A)):=ap;clear ap
     go_wp2_with (at_builtin;refine wpList_append_lies _ rfl _ _ 50 rfl wr.heap.size 67 i0 _ 1 4 Tryz.underlying50 aY aS a4 a2 rfl (by omega) _ _ _ rfl (ou.alloc _) ⟨w2.heap.size,0,none⟩ 2 2 [.int .u32 0,.int .u32 0] rfl rfl (j6 w2 _ _ _) (by simp [Value.oneCell']) (by omega) (by unfold maxLen;omega) (by omega) (by have:=k2.size;simp;omega) (w2.heap.size+1) (by simp) ?_;intro gu cu w3 ay bk aX a1);have k3:Kept af wr w3:=(k2.alloc _).grown bk (fun b hb hlt=>by have:=(ou.lt b hb).1;omega);have a6:OwnN .u32 67 w3 wr.heap.size (.slice (some ⟨gu,0,none⟩) (us.length+2) cu) (us.length+2) (us ++ [0,0]):=by unfold OwnN;rw [List.map_append];exact ay
     have b9:wr.heap.size≤gu:=(ay.lt gu rfl).1;have cy:us.length+2≤cu:=by
      rcases a6.2 with ⟨h',_⟩ | ⟨g',cap',cur,h',_,_,hnc,_⟩
      ·simp at h'
      ·simp only [Value.slice.injEq,Option.some.injEq,Addr.mk.injEq,and_true] at h';obtain ⟨_,_,rfl⟩:=h';exact hnc
     clear ay bk aX ou;have bI:=Cs _ M s w3 ((hv.grew k1).grew k3) (by omega) (by omega);refine bI.mono ?_;rintro e w4 ⟨v4,rfl,b4,o4,k4⟩;have aA:OwnN .u32 67 w4 wr.heap.size (.slice (some ⟨gu,0,none⟩) (us.length+2) cu) (us.length+2) (us ++ [0,0]):=k4.own a6 (fun _ _ f=>f);have aa:(us ++ [0,0]).length=us.length+2:=by simp
     have bH:=uw _ (us ++ [0,0]) w4 (Row.of_own (by rw [aa];exact aA));clear bI bn;go_wp2_with fail;refine bH.mono ?_;rintro e w5 ⟨mt,vt,rfl,aT,_,aJ,bw,_,⟨cs,n5,ci,bt,rfl⟩,rfl⟩;simp only [Value.slice.injEq] at bt;obtain ⟨rfl,rfl,rfl⟩:=bt;have aL:Digs (us ++ [0,0]) 4294967296:=du.append (fun d hd=>by simp at hd;omega);have J:val (us ++ [0,0]) 4294967296=2^s*A:=by rw [bG];simp [val,uv]
     have aZ:mt=us.length:=by
      have h1:=cX (aL.take mt) (dY aT bw);rw [eh aT aJ,J,← ck.out,List.length_take] at h1;omega
     have ce:max ((la:Int)+1) (mt:Int)=(la:Int)+1:=by omega
     have cn:(la:Int)+1≤(cu:Int):=by omega
     obtain ⟨l,o⟩:∃ l,l=(us ++ [0,0]).take (la+1):=⟨_,rfl⟩
     have oz:OwnN .u32 67 w5 wr.heap.size (.slice (some ⟨gu,0,none⟩) (la+1) cu) (la+1) l:=by rw [o];exact mj aA (by omega)
     have Z:l.length=la+1:=by rw [o,List.length_take];omega
     have ad:Digs l 4294967296:=by rw [o];exact aL.take _
     have H:val l 4294967296=2^s*A:=by
      rw [o,eh (by omega) (fun i hi=>aJ i (by omega)),J]
     have bZ:=b4;obtain ⟨vs,rv,dv,tv,bb,_⟩:=bZ;have aO:=cX dv tv;rw [bb,ah] at aO;obtain ⟨vo,nv,vc,rfl,bB,_,_,_,bz⟩:=rv.open;have b6:nv=p+1:=bB.out.symm.trans aO;subst b6;obtain ⟨gv,ov,rfl,cv⟩:=bz 0 (by omega);have cd:gv<w5.heap.size:=World.block_lt_of_cell? w5 _ cv;have cm:w3.heap.size≤gv:=o4 gv rfl;clear bH aA aJ bw aT aa aL J o rv dv tv bb aO bB bz cv o4 aZ;have aP:(la:Int)+1-((p:Int)+1)=((la-p:Nat):Int):=by omega
     obtain ⟨Kq,aU⟩:∃ Kq,Kq=la-p:=⟨_,rfl⟩
     rw [← aU] at aP;have HK:Hid (Kq=la-p):=aU;have cw:Kq+(p+1)=la+1:=by omega
     clear aU;go_wp2_with (at_make;refine wpList_make_full _ rfl _ _ 50 rfl w5.heap.size 67 i0 _ 1 Tryz.underlying50 aY aS a4 _ _ _ _ Kq rfl rfl (by first | rfl | omega) (by first | rfl | omega) (by rw [a2];omega) (by unfold maxLen;omega) (leR _) ?_;intro w6 ar bJ);rw [aG] at ar;have k6:Kept af w5 w6:=aD bJ;clear bJ;have aH:OwnN .u32 67 w6 wr.heap.size (.slice (some ⟨gu,0,none⟩) (la+1) cu) (la+1) l:=k6.own oz (fun _ _ f=>f);have ae:val (l.drop Kq) 4294967296<2^s*M:=by
      have:=rN (V:=2^s*M) ad H aC ag (show p≤la by omega) ax
      rwa [HK.out]
     obtain ⟨V,hV⟩:∃ V,V=2^s*M:=⟨_,rfl⟩
     rw [← hV] at ae b4 ak ah;have bK:0<V:=by rw [hV];exact Nat.mul_pos (Nat.pow_pos (by omega)) hM
     have HV:Hid (V=2^s*M):=hV;have bO:Hid (val l 4294967296=2^s*A):=H;have aB:Hid (V<4294967296^(p+1)):=ak;have bx:Hid (aF V=p+1):=ah;have ca:gu<w5.heap.size:=Nat.lt_of_lt_of_le a1 k4.size;have K6:Kept af w w6:=((k1.trans k3).trans k4).trans k6;have bi:IsBig w6 _ V:=b4.grew k6;have aQ:w.heap.size≤wr.heap.size:=k1.size;clear hV H ak ax ah aC oz b4 hu hv k1 k2 k3 k4 R a6;obtain ⟨B0,bF⟩:∃ B0,B0=wr.heap.size:=⟨_,rfl⟩
     rw [← bF] at aH b9 aQ;obtain ⟨gq,au⟩:∃ gq,gq=w5.heap.size:=⟨_,rfl⟩
     rw [← au] at ar ca cd;have cp:Hid (w5.heap.size=gq):=au.symm;rw [← au];clear bF au;go_wp2_with fail;go_loopw [11] (fun jj wx=>∃ (k:Nat) (zs qs:List Nat),k≤Kq∧jj=.int .i64 ((k:Int)-1)∧Hid (zs.length=la+1)∧Digs zs 4294967296∧Hid (zs.take k=l.take k)∧Hid (val (zs.drop k) 4294967296<V)∧Hid (V*val qs 4294967296+val (zs.drop k) 4294967296=val (l.drop k) 4294967296)∧Hid (qs.length=Kq-k)∧Digs qs 4294967296 ∧
       OwnN .u32 67 wx B0 (.slice (some ⟨gu,0,none⟩) (la+1) cu) (la+1) zs∧OwnN .u32 67 wx gq (.slice (some ⟨gq,0,none⟩) Kq Kq) Kq (List.replicate k 0 ++ qs)∧Kept (fun b=>b=gu∨b=gq) w6 wx) (fun jj _=>(intOf jj+1).toNat)
     case atStart=>exact ⟨Kq,l,[],leR _,rfl,Z,ad,rfl,ae,by unfold Hid;simp [val],by unfold Hid;simp,Digs.nil _,aH,by rw [List.append_nil];exact ar,ai _ _⟩
     case round=>
      clear aH ar;obtain ⟨k,zs,qs,hk,rfl,ao,a3,aI,hR,hinv,bm,a8,oz,oq,aq⟩:=hrel;cases k with
      | zero=>
       rw [List.drop_zero] at hR hinv;rw [List.drop_zero] at hinv;have a0:=hinv.out;rw [bO.out,HV.out] at a0;obtain ⟨d1,d2⟩:=yA (n:=p+1) ao.out (by omega) hM (by rw [← HV.out];exact aB.out) (by rw [← HV.out];exact hR.out) a0;rw [List.replicate_zero,List.nil_append] at oq;have aE:qs.length=Kq:=by have:=bm.out;omega
       have D1:Hid (val qs 4294967296=A/M):=d1;have D2:Hid (val (zs.take (p+1)) 4294967296/2^s=A%M):=d2;have b7:=fun W (hk:Kept af wr W)=>cY (.slice (some ⟨gq,0,none⟩) Kq Kq) qs W ((Row.of_own (base:=gq) (e:=67) (by rw [aE];exact oq)).grew hk) a8 (by omega)
       have E:OwnN .u32 67 wr B0 (.slice (some ⟨gu,0,none⟩) (p+1) cu) (p+1) (zs.take (p+1)):=mj oz (by omega);have j2:(p:Int)+1≤(cu:Int):=by omega
       have j0:(0:Int)≤(p:Int)+1:=by omega
       have KW:Kept af w wr:=K6.next aq (fun x hx h=>by rcases h with h | h <;> omega)
       clear hinv a0 hR aI d1 d2 bi bO aB bx;have q:∀ i u,((zs.take (p+1)).map fun z=>Value.int .u32 (z:Nat))[i]? = some u→wr.drew.cell? ((⟨gu,0,none⟩:Addr).add i)=some u:=World.ownsRow.cells E (g:=gu) rfl;have F:=nQ .u32 (zs.take (p+1));have an:(zs.take (p+1)).length=p+1:=by rw [List.length_take];have:=ao.out;omega
       have ab:((zs.take (p+1)).map fun z=>Value.int .u32 (z:Nat)).length=(p+1)*1:=by rw [List.length_map,an];omega
       have bj:=a3.take (p+1);obtain ⟨rs,aW⟩:∃ rs,rs=zs.take (p+1):=⟨_,rfl⟩
       rw [← aW] at q F an ab bj;have D3:Hid (val rs 4294967296/2^s=A%M):=by rw [aW];exact D2
       have bh:Hid (rs.length=p+1):=an;clear D2 aW an E;go_wp2_with fail;go_region_held3 (fun _=>True) (trivial)
        (first
         | (go_at_call_of 29 (Value.slice (some ⟨gq,0,none⟩) Kq Kq);refine (b7 _ ?_).mono ?_;exact (ai af wr).drew;rintro e w7 ⟨vq,rfl,bq,bS,rfl⟩)
         | (refine step_append_lies _ (by rfl) _ _ _ (by rfl) wr.heap.size 67 i0 _ 1 4 Tryz.underlying50 aY aS a4 a2 rfl (by omega) (.slice none 0 0) 0 [] (by rfl) (World.ownsRow_nil _ _ _ _) ⟨gu,0,none⟩ (p+1) cu (rs.map fun z=>.int .u32 (z:Nat)) (by rfl) ab q F (by omega) (by unfold maxLen;omega) (by omega) (leR _) wr.heap.size (by simp) ?_;intro gg cg w8 bd bY bR cl)
         | (go_at_call 29;refine (cY _ rs _ (Row.of_own (base:=wr.heap.size) (e:=67) (by rw [bh.out];rw [Nat.zero_add,List.nil_append] at bd;exact bd)) bj (by have:=bh.out;omega)).mono ?_;rintro e w9 ⟨vr,rfl,br,cx,rfl⟩)
         | (go_at_call 130;refine (CE _ _ s _ br (by omega)).mono ?_;rintro e ct ⟨vs,rfl,bs,os,ks⟩))
       all_goals
        go_wp2;go_ret2;have k8:Kept af _ _:=aD bY;refine ⟨vq,vs,rfl,?_,?_,fun b hb=>?_,fun b hb=>.inr ?_,(KW.drew.trans k8).trans ks⟩
        ·rw [← D1.out];exact (bq.grew k8).grew ks
        ·rw [← D3.out];exact bs
        ·rw [bS] at hb;simp [Value.ownBlock] at hb;omega
        ·have h1:=os b hb;have h2:=(KW.drew.trans k8).size;omega
      | succ j=>
       have bf:IsBig wr _ V:=bi.kept aq (fun b hb h=>by simp [Value.ownBlock] at hb;omega);obtain ⟨U,hU⟩:∃ U,U=val ((zs.drop j).take (p+2)) 4294967296:=⟨_,rfl⟩
       obtain ⟨av,C⟩:=rC (n:=p+1) (j:=j) a3 ao.out Z (by omega) aB.out bK hR.out aI.out hinv.out U hU;rw [hU] at av;have hG:=fun c=>Az gu B0 (la+1) cu j p c V zs _ wr oz ao.out a3 (by omega) (by omega) bf bx.out av
       rw [← hU] at hG;obtain ⟨D,G⟩:∃ D,D=zs.take j ++ (digs (U%V) (p+1+1) 4294967296 ++ zs.drop (j+(p+1+1))):=⟨_,rfl⟩
       obtain ⟨n1,n2,n3,n4,n5⟩:=C D G;have bp:=fun c=>by
        have h:=hG c;rw [← G] at h;exact h
       have b3:U/V<4294967296:=by rw [Nat.div_lt_iff_lt_mul bK,Nat.mul_comm,hU];exact av
       have N1:Hid (D.length=la+1):=n1;have N3:Hid (D.take j=l.take j):=n3;have N4:Hid (val (D.drop j) 4294967296<V):=n4;have N5:Hid (V*val (U/V :: qs) 4294967296+val (D.drop j) 4294967296=val (l.drop j) 4294967296):=n5;clear hU G hG C n1 n3 n4 n5 av hinv aI hR bf;generalize U/V=Q at *;have j1:(0:Int)≤(j:Int):=Int.natCast_nonneg _;have j2:(j:Int)+((p:Int)+1)+1≤(cu:Int):=by omega
       have j3:(j:Int)<(Kq:Int):=by omega
       have jl:j+(p+1)+1-j=p+2:=by omega
       go_wp2_with fail;refine (bp _).mono ?_;rintro e w7 ⟨rfl,bA,kg⟩;have am:OwnN .u32 67 w7 gq (.slice (some ⟨gq,0,none⟩) Kq Kq) Kq (List.replicate (j+1) 0 ++ qs):=kg.own oq (fun b hb h=>by simp [Value.ownBlock] at hb;omega);have bQ:w7.cell? ⟨gq,j,none⟩=some (.int .u32 0):=by
        rw [World.ownsRow.cellAt am j (by omega),List.getElem?_map,List.getElem?_append_left (by simp),List.getElem?_replicate,if_pos (by omega)];rfl
       have hf:=World.ownsRow.frozenAt am j;have aV:=fun u=>(World.ownsRow.stored am j u).1
       have bW:=fun u=>ownsRow_setCell_other bA (a:=⟨gq,j,none⟩) (by simp [Value.ownBlock];omega) u
       have bU:Kept (fun b=>b=gu∨b=gq) w6 w7:=aq.trans (kg.mono (fun _ _ h=>.inl h));clear oz oq bp aq kg bA am;go_wp2;go_roundw
       case rel=>
        refine ⟨j,D,Q :: qs,by omega,by go_num,N1,n2,N3,N4,N5,by unfold Hid;rw [List.length_cons,bm.out];omega,fun y hy=>?_,bW _,?_,bU.setCell _ (fun _=>.inr rfl) _⟩
        ·rcases List.mem_cons.1 hy with h | h
         ·omega
         ·exact a8 y h
        ·unfold OwnN;rw [← qk,List.map_set];exact aV _
       case measure=>simp [intOf]

def bev (l:List Nat):Nat:=l.foldl (fun a b=>a*256+b) 0

theorem ui (l:List Nat) (b:Nat):bev (l ++ [b])=bev l*256+b:=by simp [bev]

theorem il {l:List Nat} {i:Nat} (h:i<l.length):bev (l.take (i+1))=bev (l.take i)*256+l.getD i 0:=by
 rw [List.take_succ_eq_append_getElem h,ui,List.getD_eq_getElem?_getD,List.getElem?_eq_getElem h];rfl

theorem p9 {B:Nat}:∀ {l:List Nat} {i d:Nat},i<l.length→val (l.set i (l.getD i 0+d)) B=val l B+B^i*d
 | x :: r,0,d,_=>by simp [val];omega
 | x :: r,i+1,d,h=>by
  have ih:=p9 (B:=B) (l:=r) (i:=i) (d:=d) (by simpa using h);simp only [lsS,val,List.getD_cons_succ,ih,Nat.mul_add,Nat.pow_succ];rw [Nat.mul_comm (B^i) B,Nat.mul_assoc];omega

theorem oQ (T k:Nat):dig (T*256^(k+1)) (k/4) 4294967296=T*256^(k%4+1)%4294967296:=by
 unfold dig;have e:(256:Nat)^(k+1)=256^(k%4+1)*4294967296^(k/4):=by
  rw [show (4294967296:Nat)^(k/4)=256^(4*(k/4)) from by rw [Nat.pow_mul],← Nat.pow_add]
  congr 1;omega
 rw [e,← Nat.mul_assoc,Nat.mul_div_cancel _ (Nat.pow_pos (by omega))]

theorem yg (T k b:Nat) (hb:b<256):bits .or .u32 ((T*256^(k%4+1)%4294967296:Nat):Int) (IntKind.u32.wrap ((b:Int)*2^(k%4*8)))=((T*256^(k%4+1)%4294967296+b*256^(k%4):Nat):Int) ∧
  T*256^(k%4+1)%4294967296+b*256^(k%4)<4294967296:=by
 have h:k%4=0∨k%4=1∨k%4=2∨k%4=3:=by omega
 have a:∀ (r:Nat) (x y:Nat),x%2^r=0→y<2^r→x+y<4294967296→bits .or .u32 (x:Int) (y:Int)=((x+y:Nat):Int):=fun r x y h1 h2 h3=>by
  rw [u32_or_nat x y (by omega) (by omega),nat_join r x y h1 h2]
 rcases h with h | h | h | h <;> rw [h] <;> simp only [Nat.zero_add,Nat.reduceAdd,Nat.reducePow,Nat.reduceMul,Nat.zero_mul,Int.reducePow,Nat.pow_zero,Nat.pow_one,Nat.mul_one,Int.mul_one,Int.pow_zero]
 ·refine ⟨?_,by omega⟩;rw [IntKind.wrap_u32',show (b:Int)%4294967296=(b:Int) by omega];exact a 8 _ _ (by omega) (by omega) (by omega)
 ·refine ⟨?_,by omega⟩;rw [IntKind.wrap_u32',show (b:Int)*256%4294967296=((b*256:Nat):Int) by omega];exact a 16 _ _ (by omega) (by omega) (by omega)
 ·refine ⟨?_,by omega⟩;rw [IntKind.wrap_u32',show (b:Int)*65536%4294967296=((b*65536:Nat):Int) by omega];exact a 24 _ _ (by omega) (by omega) (by omega)
 ·refine ⟨?_,by omega⟩;rw [IntKind.wrap_u32',show (b:Int)*16777216%4294967296=((b*16777216:Nat):Int) by omega];exact a 32 _ _ (by omega) (by omega) (by omega)

theorem qN {zs:List Nat} {T k b n i:Nat} (hk:n=i+1+k) (hd:Digs zs 4294967296) (hl:k/4<zs.length) (hv:val zs 4294967296=T*256^(n-i)) :
  zs.getD (k/4) 0=T*256^(k%4+1)%4294967296∧val (zs.set (k/4) (zs.getD (k/4) 0+b*256^(k%4))) 4294967296=(T*256+b)*256^(n-(i+1)):=by
 have e1:n-i=k+1:=by omega
 have e2:n-(i+1)=k:=by omega
 rw [e1] at hv;refine ⟨by rw [← aR (by omega) hd,hv,oQ],?_⟩;rw [p9 hl,hv,e2,Nat.add_mul,Nat.pow_succ];have e3:4294967296^(k/4)*(b*256^(k%4))=b*256^k:=by
  rw [show (4294967296:Nat)^(k/4)=256^(4*(k/4)) from by rw [Nat.pow_mul],Nat.mul_left_comm,← Nat.pow_add]
  congr 2;omega
 rw [e3,Nat.mul_assoc,Nat.mul_comm 256]

theorem zD (v:Value) (bs:List Nat) (w:World) (h:Row .u8 w v bs) (hd:Digs bs 256) (hl:bs.length≤100000000) :
  Calls Tryz.prog 84 #[v] w fun r w'=>∃ v',r=.returned v'∧IsBig w' v' (bev bs)∧(∀ b,v'.ownBlock=some b→w.heap.size≤b)∧Kept af w w':=by
 obtain ⟨i0,t,C,D,B⟩:=info_parts Tryz.info67;obtain ⟨ao,n,cap,rfl,hN,_,_,_,h4⟩:=h.open;rw [hN.out] at hl;have xb:=fun i=>hd.getD (by omega) i
 clear h hd;obtain ⟨m,hm⟩:∃ m,m=(n+3)/4:=⟨_,rfl⟩
 have J:((n:Int)+3)/4=(m:Int):=by omega
 have I:4*m≥n:=by omega
 have G:m≤100000000:=by omega
 clear hm;go_enter Tryz.func84,Tryz.ntmps84;go_wp2_with (at_make;refine wpList_make_full _ rfl _ _ 50 rfl w.heap.size 67 i0 _ 1 Tryz.underlying50 t C D _ _ _ _ m rfl rfl (by first | rfl | omega) (by first | rfl | omega) (by rw [B];omega) (by unfold maxLen;omega) (leR _) ?_;intro w1 c q);rw [aG] at c;have k1:=aD q;go_loopw [13] (fun i wr=>∃ (k:Nat) (zs:List Nat),k≤n∧i=.int .i64 k∧Hid (zs.length=m)∧Digs zs 4294967296∧Hid (val zs 4294967296=bev (bs.take k)*256^(n-k))∧OwnN .u32 67 wr w.heap.size (.slice (some ⟨w.heap.size,0,none⟩) m m) m zs∧Kept af w wr) (fun i _=>n-(intOf i).toNat)
 case atStart=>exact ⟨0,List.replicate m 0,Nat.zero_le _,rfl,List.length_replicate,(fun d hd=>by simp at hd;omega),by unfold Hid;rw [cN _ (fun d hd=>by simp at hd;exact hd.2)];simp [bev],c,k1⟩
 case round=>
  clear c q k1;obtain ⟨i,zs,hk,rfl,a,f,g,ho,l⟩:=hrel;by_cases hkn:i<n
  ·have s:(i:Int)<(n:Int):=by omega
   obtain ⟨b,off,rfl,o⟩:=(h4 i hkn).grew l;have A:=xb i;have HT:Hid (bev (bs.take (i+1))=bev (bs.take i)*256+bs.getD i 0):=il (by have:=hN.out;omega);clear xb h4;generalize bs.getD i 0=y at *;obtain ⟨j,hj⟩:∃ j,j=n-1-i:=⟨_,rfl⟩
   have hJ:(n:Int)-1-(i:Int)=(j:Int):=by omega
   have F:j/4<m:=by omega
   obtain ⟨f1,f2⟩:=qN (b:=y) (show n=i+1+j by omega) f (by have:=a.out;omega) g.out;rw [← HT.out] at f2;obtain ⟨o1,o2⟩:=yg (bev (bs.take i)) j y A;rw [← f1] at o1 o2;have hc:wr.cell? ⟨w.heap.size,j/4,none⟩=some (.int .u32 ((zs.getD (j/4) 0:Nat):Int)):=by
    rw [World.ownsRow.cellAt ho (j/4) (by omega),List.getElem?_map,List.getD_eq_getElem?_getD,List.getElem?_eq_getElem (by have:=a.out;omega)];rfl
   have hf:=World.ownsRow.frozenAt ho (j/4);have E:=fun u=>(World.ownsRow.stored ho (j/4) u).1
   have F2:Hid (val (zs.set (j/4) (zs.getD (j/4) 0+y*256^(j%4))) 4294967296=bev (bs.take (i+1))*256^(n-(i+1))):=f2;have H:j≤1000000000:=by omega
   clear f1 f2 hj HT g;generalize zs.getD (j/4) 0=z at *;generalize z+y*256^(j%4)=Z at *;rw [IntKind.wrap_u32'] at o1;have O1:Hid (bits .or .u32 (z:Int) ((y:Int)*2^(j%4*8)%4294967296)=(Z:Int)):=o1;clear o1;have j1:(0:Int)≤(j:Int)/4:=by omega
   have j2:(j:Int)/4<(m:Int):=by omega
   have j3:((j:Int)/4).toNat=j/4:=by omega
   go_wp2_with fail;go_region
   all_goals
    go_wp2;rw [O1.out];go_roundw
    case rel=>
     refine ⟨i+1,zs.set (j/4) Z,by omega,by go_num,by unfold Hid;rw [List.length_set];exact a.out,?_,F2,?_,(l.setCell _ (fun h=>by simp at h) _).drew⟩
     ·intro d hd;rcases List.mem_or_eq_of_mem_set hd with h | h
      ·exact f d h
      ·omega
     ·unfold OwnN;rw [List.map_set];exact E _
    case measure=>simp [intOf];omega
  ·have s:¬ (i:Int)<(n:Int):=by omega
   have hv:val zs 4294967296=bev bs:=by
    rw [g.out,show n-i=0 by omega,List.take_of_length_le (by have:=hN.out;omega)];simp
   have hr:Row .u32 wr _ zs:=Row.of_own (base:=w.heap.size) (e:=67) (by rw [a.out];exact ho);have ht:=cY _ _ _ hr f (by have:=a.out;omega);rw [hv] at ht;clear xb h4 hv hr;go_wp2_with fail;refine ht.mono ?_;rintro e w' ⟨v',rfl,hb,x,rfl⟩;go_wp2;go_ret;exact ⟨v',rfl,hb,fun b p=>by rw [x] at p;exact (ho.lt b p).1,l⟩

def nj (V:Nat) (i:Int):Nat:=if i<0 then 0 else V/2^i.toNat%2

theorem fg (V j:Nat):nj V (j:Int)=V/2^j%2:=by
 unfold nj;rw [if_neg (by omega),Int.toNat_natCast]

theorem yH (V j:Nat):dig V (j/32) 4294967296/2^(j%32)%2=V/2^j%2:=by
 unfold dig;have e:(4294967296:Nat)^(j/32)=2^(32*(j/32)):=by rw [Nat.pow_mul]
 have e3:(2:Nat)^j=2^(32*(j/32))*2^(j%32):=by rw [← Nat.pow_add];congr 1;omega
 rw [e,e3,← Nat.div_div_eq_div_mul];generalize V/2^(32*(j/32))=x;have e4:(4294967296:Nat)=2^(j%32)*2^(32-j%32):=by
  rw [← Nat.pow_add,show j%32+(32-j%32)=32 by omega]
 rw [e4,Nat.mod_mul_right_div_self];have hd:2 ∣ 2^(32-j%32):=⟨2^(31-j%32),by rw [← Nat.pow_succ',show (31-j%32).succ=32-j%32 by omega]⟩
 exact Nat.mod_mod_of_dvd _ hd

theorem re {ds:List Nat} (hd:Digs ds 4294967296) (j:Nat) (h:ds.length≤j/32):val ds 4294967296/2^j%2=0:=by
 have h1:=aq (by omega) hd;have h2:(4294967296:Nat)^ds.length≤2^j:=by
  have e:(4294967296:Nat)^ds.length=2^(32*ds.length):=by rw [Nat.pow_mul]
  rw [e];exact Nat.pow_le_pow_right (by omega) (by omega)
 rw [Nat.div_eq_of_lt (by omega)]

theorem BN (v:Value) (V:Nat) (i:Int) (w:World) (h:IsBig w v V) (hi:i≤9223372036854775807) :
  Calls Tryz.prog 28 #[v,.int .i64 i] w fun r w'=>r=.returned (.int .u64 (nj V i:Nat))∧w'=w:=by
 obtain ⟨ds,hr,hd,_,rfl,hl⟩:=h;have hV:∀ i,ds.getD i 0=dig (val ds 4294967296) i 4294967296:=fun i=>(aR (by omega) hd i).symm
 obtain ⟨ao,n,cap,rfl,hN,_,_,_,h4⟩:=hr.open;rw [hN.out] at hl;by_cases hneg:i<0
 ·have e:nj (val ds 4294967296) i=0:=by unfold nj;rw [if_pos hneg]
  rw [e];clear h4 hr hd hV e;go_enter Tryz.func28,Tryz.ntmps28;go_wp2;go_ret;exact ⟨rfl,rfl⟩
 ·obtain ⟨j,rfl⟩:=Int.eq_ofNat_of_zero_le (show 0≤i by omega);rw [fg];by_cases hj:j/32<n
  ·obtain ⟨b,off,rfl,hc⟩:=h4 (j/32) hj;have hb:=yH (val ds 4294967296) j;rw [← hV] at hb;rw [← hb];have hx:ds.getD (j/32) 0<4294967296:=hd.getD (by omega) _;clear h4 hr hd hV hb;generalize ds.getD (j/32) 0=x at *;have g1:(j:Int)/32<(n:Int):=by omega
   have g2:(0:Int)≤(j:Int)/32:=by omega
   have g3:((j:Int)/32).toNat=j/32:=by omega
   go_enter Tryz.func28,Tryz.ntmps28;have hy:=Nat.div_le_self x (2^(j%32));have a:Hid (IntKind.u64.wrap (bits .and .u32 ((x:Int)/2^(j%32)) 1)=((x/2^(j%32)%2:Nat):Int)):=by
    unfold Hid;have e:(x:Int)/2^(j%32)=((x/2^(j%32):Nat):Int):=by simp
    have h1:=u32_and_nat (x/2^(j%32)) 1 (by omega) (by omega);rw [nat_mask1] at h1;rw [e,show (1:Int)=((1:Nat):Int) from rfl,h1,IntKind.wrap_u64];omega
   clear hy;generalize x/2^(j%32)%2=R at *;go_wp2;go_ret;refine ⟨?_,rfl⟩;show Ending.returned (Value.int .u64 (IntKind.u64.wrap (bits .and .u32 ((x:Int)/2^(j%32)) 1)))=_
   rw [a.out]
  ·have g1:¬ (j:Int)/32<(n:Int):=by omega
   rw [re hd j (by have:=hN.out;omega)];clear h4 hr hd hV;go_enter Tryz.func28,Tryz.ntmps28;go_wp2;go_ret;exact ⟨rfl,rfl⟩

def au (V:Nat):Nat:=if V=0 then 0 else Nat.log2 V+1

theorem aA (V n:Nat):au V≤n↔V<2^n:=by
 unfold au;by_cases h:V=0
 ·subst h;simp [Nat.pow_pos]
 ·rw [if_neg h];have:=Nat.log2_lt (n:=V) (k:=n) h;omega

theorem rE {V k:Nat} (h:V<2^(k+1)) (hb:V/2^k%2=0):V<2^k:=by
 have h1:V/2^k<2:=by rw [Nat.div_lt_iff_lt_mul (Nat.pow_pos (by omega))];rw [Nat.pow_succ] at h;omega
 have h2:V/2^k=0:=by
  generalize V/2^k=q at *;omega
 rcases Nat.lt_or_ge V (2^k) with h3 | h3
 ·exact h3
 ·have:=(Nat.div_pos_iff).2 ⟨Nat.pow_pos (n:=k) (show 0<2 by omega),h3⟩;omega

theorem nm {V k:Nat} (h:V<2^(k+1)) (hb:V/2^k%2≠0):au V=k+1:=by
 have h1:=(aA V (k+1)).2 h;have h2:¬ au V≤k:=fun hk=>by
  have:=(aA V k).1 hk;rw [Nat.div_eq_of_lt this] at hb;exact hb rfl
 omega

theorem iH (v:Value) (V:Nat) (w:World) (h:IsBig w v V) :
  Calls Tryz.prog 16 #[v] w fun r w'=>r=.returned (.int .i64 (au V:Nat))∧w'=w:=by
 have HB:=fun j (hj:j≤100000000000)=>BN v V ((j:Nat):Int) w h (by omega)
 obtain ⟨ds,hr,hd,_,rfl,hl⟩:=h;have hlt:=aq (by omega) hd;obtain ⟨ao,n,cap,rfl,hN,_,_,_,_⟩:=hr.open;rw [hN.out] at hl hlt;have a:Hid (val ds 4294967296<2^(32*n)):=by unfold Hid;rw [Nat.pow_mul];exact hlt
 clear hr hlt hd;generalize val ds 4294967296=V at *;go_enter Tryz.func16,Tryz.ntmps16;go_wp2_with fail;go_loop [3] (fun i=>∃ k:Nat,k≤32*n∧i=.int .i64 k∧Hid (V<2^k)) (fun i=>(intOf i).toNat)
 case atStart=>exact ⟨32*n,leR _,by go_num,a⟩
 case round=>
  obtain ⟨k,hk,rfl,hV⟩:=hrel;cases k with
  | zero=>
   have e:Hid (au V=0):=by
    have:=hV.out;have h0:V=0:=by simpa using this
    unfold Hid;rw [h0];rfl
   clear HB;go_wp2;go_ret;rw [e.out];exact ⟨rfl,rfl⟩
  | succ j=>
   have hB:=HB j (by omega);rw [fg] at hB;clear HB;by_cases hb:V/2^j%2=0
   ·have hz:Hid (V<2^j):=rE hV.out hb;rw [hb] at hB;clear hb hV a;go_wp2_with fail;refine hB.mono ?_;rintro e w' ⟨rfl,rfl⟩;go_wp2;go_round
    case rel=>exact ⟨j,by omega,by go_num,hz⟩
    case measure=>simp [intOf]
   ·have hz:Hid (au V=j+1):=nm hV.out hb;have h1:V/2^j%2=1:=by omega
    rw [h1] at hB;clear hb hV a h1;go_wp2_with fail;refine hB.mono ?_;rintro e w' ⟨rfl,rfl⟩;go_wp2;go_ret;rw [hz.out];exact ⟨rfl,rfl⟩

theorem iK {a b:List Nat} {k:Nat} (ha:k<a.length) (hb:k<b.length) (h:a.take k=b.take k) (he:a.getD k 0=b.getD k 0):a.take (k+1)=b.take (k+1):=by
 rw [List.take_succ_eq_append_getElem ha,List.take_succ_eq_append_getElem hb,h];rw [List.getD_eq_getElem?_getD,List.getD_eq_getElem?_getD,List.getElem?_eq_getElem ha,List.getElem?_eq_getElem hb] at he;simp only [Option.getD_some] at he;rw [he]

theorem jk (u v:Value) (a b:List Nat) (w:World) (hu:Row .u64 w u a) (hv:Row .u64 w v b) :
  Calls Tryz.prog 11 #[u,v] w fun r w'=>r=.returned (.bool (decide (a=b)))∧∃ n,w'=w.drewN n:=by
 obtain ⟨ao,n,ac,rfl,hN,h1,h2,_,hA⟩:=hu.open;obtain ⟨bo,m,bc,rfl,hM,p,o,_,hB⟩:=hv.open;clear hu hv;by_cases hl:n=m
 ·subst hl;go_enter Tryz.func11,Tryz.ntmps11;go_wp2_with fail;go_loopw [5,13] (fun _ i wr=>∃ k:Nat,k≤n∧i=.int .i64 k∧Hid (a.take k=b.take k)∧∃ m,wr=w.drewN m) (fun _ i _=>n-(intOf i).toNat)
  case atStart=>exact ⟨0,Nat.zero_le _,rfl,rfl,0,rfl⟩
  case round=>
   obtain ⟨k,hk,rfl,ht,m,rfl⟩:=hrel;by_cases hlt:k<n
   ·obtain ⟨ga,oa,rfl,ca⟩:=hA k hlt;obtain ⟨gb,ob,rfl,cb⟩:=hB k hlt;have f:Hid (a.getD k 0=b.getD k 0→a.take (k+1)=b.take (k+1)):=fun h=>iK (by have:=hN.out;omega) (by have:=hM.out;omega) ht.out h
    have d:Hid (a.getD k 0≠b.getD k 0→decide (a=b)=false):=fun h=>by
     simp only [decide_eq_false_iff_not];intro e;subst e;exact h rfl
    clear hA hB ht;generalize a.getD k 0=x at *;generalize b.getD k 0=y at *;have l:(0:Int)≤(k:Int):=Int.natCast_nonneg _;have c:(k:Int)<(n:Int):=by omega
    by_cases he:x=y
    ·subst he;have hq:((x:Int) == (x:Int))=true:=by simp
     go_wp2_with fail;go_quiet (fail);go_wp2;go_roundw
     case rel=>exact ⟨k+1,by omega,by go_num,f.out (by first | rfl | trivial),_,rfl⟩
     case measure=>simp [intOf];omega
    ·have hq:((x:Int) == (y:Int))=false:=by simp;omega
     have j:((x:Int) != (y:Int))=true:=by simp;omega
     have hr:Hid (decide (a=b)=false):=d.out he;go_wp2_with fail;go_quiet (fail);go_wp2;go_ret;rw [hr.out];exact ⟨rfl,_,World.drewN_drewN _ _ _⟩
   ·have hr:Hid (decide (a=b)=true):=by
     have:=ht.out;have e1:=hN.out;have e2:=hM.out;rw [List.take_of_length_le (by omega),List.take_of_length_le (by omega)] at this;unfold Hid;simpa using this
    clear hA hB ht;have c:¬ (k:Int)<(n:Int):=by omega
    go_wp2;go_ret;rw [hr.out];exact ⟨rfl,_,rfl⟩
 ·have hr:decide (a=b)=false:=by
   simp only [decide_eq_false_iff_not];intro e;subst e;exact hl (hN.out.symm.trans hM.out)
  rw [hr];have g:¬ (n:Int)=(m:Int):=by omega
  clear hA hB hr;go_enter Tryz.func11,Tryz.ntmps11;go_wp2;go_ret;exact ⟨rfl,0,rfl⟩

def aU (V:Nat) (n:Int):Int:=if 300<n then 2 else if n<0∨n.toNat<aj V then 1 else 0

def bj (V:Nat) (n:Int):List Nat:=if aU V n=0 then digs V n.toNat else []

theorem nG {V:Nat} {n:Int} (h:300<n):aU V n=2∧bj V n=[]:=by
 have e:aU V n=2:=if_pos h;exact ⟨e,by unfold bj;rw [if_neg (by rw [e];decide)]⟩

theorem gW {V:Nat} {n:Int} (h:¬ 300<n) (h2:n<0∨n.toNat<aj V):aU V n=1∧bj V n=[]:=by
 have e:aU V n=1:=by unfold aU;rw [if_neg h,if_pos h2]
 exact ⟨e,by unfold bj;rw [if_neg (by rw [e];decide)]⟩

theorem i8 {V n:Nat} (h:n≤300) (h2:aj V≤n):aU V (n:Int)=0∧bj V (n:Int)=digs V n:=by
 have e:aU V (n:Int)=0:=by unfold aU;rw [if_neg (by omega),if_neg (by simp;omega)]
 exact ⟨e,by unfold bj;rw [if_pos e,Int.toNat_natCast]⟩

def dg (n:Int):Nat:=(min (max n 1) 300).toNat

theorem vV {w:World} {v:Value} {V:Nat} (h:IsBig w v V):au V≤32000000000:=by
 obtain ⟨ds,_,hd,_,rfl,hl⟩:=h;have h1:=aq (by omega) hd;have e:(4294967296:Nat)^ds.length=2^(32*ds.length):=by rw [Nat.pow_mul]
 rw [e] at h1;have:=(aA _ _).2 h1;omega

end Go.Proofs.YtcemlfokmjjiaaaGreatDoor
