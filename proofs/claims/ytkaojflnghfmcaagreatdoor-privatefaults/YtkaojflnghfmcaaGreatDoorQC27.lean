/- Put together of: Div1 PrF. -/
import Derived.Test.YtkaojflnghfmcaaGreatDoorQC6
import Derived.StillTailTactics

namespace Go.Proofs.YtkaojflnghfmcaaGreatDoor
open _root_.Go.Proofs.Tryz
set_option maxRecDepth 100000
set_option maxHeartbeats 4000000

structure Gss (B U u y1 y0 q r:Nat):Prop where
 eq:q*y1+r=U
 ge:(U*B+u)/(y1*B+y0)<=q
 le:q<=B+1

theorem qI (q y1 y0 B:Nat):(y1*B+y0)*q=q*y1*B+q*y0:=by
 rw [cJ,aF (y1*B) q,<- bf,aF y0 q]

theorem Gss.start {B U u y1 y0:Nat} (hB:0<B) (hu:u<B) (h1:B<=2*y1) (h0:y0<B) (hU:U<y1*B+y0):Gss B U u y1 y0 (U/y1) (U%y1):=by
 have a:0<y1:=by omega
 refine ⟨by rw [aF];exact ef U y1,?_,?_⟩
 ·have e:(U*B+u)/(y1*B)=U/y1:=by
   rw [aF y1 B,<- cK,aF U B,fH hB,bj hu,aU]
  rw [<- e];exact Nat.div_le_div_left (by omega) (fI a hB)
 ·have h2:U/y1<B+2:=by
   rw [cj a,cJ,aF B y1];omega
  omega

theorem rK {B U u Y:Nat} (hu:u<B) (hU:U<Y):(U*B+u)/Y<B:=by
 rw [cj (by omega)];have:(U+1)*B<=Y*B:=bI _ hU;rw [cJ,jF] at this;rw [aF B Y];omega

theorem xy {q A Y:Nat} (hY:0<Y) (h1:A/Y<=q) (h2:Y*q<=A):q=A/Y:=by
 have h3:q<=A/Y:=(mz hY).2 (by rw [aF];exact h2);omega

theorem Gss.stop {B U u y1 y0 q r:Nat} (g:Gss B U u y1 y0 q r) (hY:0<y1*B+y0) (ht:q*y0<=B*r+u):q=(U*B+u)/(y1*B+y0):=by
 refine xy hY g.ge ?_;rw [qI,<- g.eq,cJ,aF r B];omega

theorem Gss.next {B U u y1 y0 q r:Nat} (g:Gss B U u y1 y0 q r) (hu:u<B) (hU:U<y1*B+y0) (ht:B<=q\/B*r+u<q*y0):0<q/\Gss B U u y1 y0 (q-1) (r+y1):=by
 have hlt:(U*B+u)/(y1*B+y0)<q:=by
  rcases ht with h | h
  ·exact bd (rK hu hU) h
  ·rw [cj (by omega),aF q,qI,<- g.eq,cJ,aF r B];omega
 have hq:0<q:=fF (aP _) hlt;refine ⟨hq,?_,Nat.le_sub_one_of_lt hlt,by have:=g.le;omega⟩;obtain ⟨p,rfl⟩:∃ p,q=p+1:=⟨q-1,by omega⟩
 have:=g.eq;rw [cJ,jF] at this;rw [ij];omega

theorem Gss.over {B u y0 q r:Nat} (hq:q<=B) (h0:y0<B) (hr:B<=r):q*y0<=B*r+u:=by
 have h1:q*y0<=B*B:=aR (bI _ hq) (bi _ (by omega));have h2:B*B<=B*r:=bi _ hr;omega

theorem dG (A Y:Nat):A/Y*Y+A%Y=A:=by rw [aF];exact ef A Y

theorem eP {B U u v Y q1 q0:Nat} (hY:0<Y) (h1:q1=(U*B+u)/Y) (h0:q0=((U*B+u)%Y*B+v)/Y) :
  q1*B+q0=((U*B+u)*B+v)/Y/\((U*B+u)%Y*B+v)%Y=((U*B+u)*B+v)%Y:=by
 have e:=ef (U*B+u) Y;have e2:(U*B+u)*B+v=Y*(q1*B)+((U*B+u)%Y*B+v):=by
  have:(U*B+u)*B=(Y*((U*B+u)/Y)+(U*B+u)%Y)*B:=by rw [e]
  rw [this,cJ,<- h1,bf];omega
 refine ⟨?_,?_⟩
 ·rw [e2,fH hY,<- h0]
 ·rw [e2,i9]

theorem nM {M y p:Nat} (hp:0<p):(M*p)/(y*p)=M/y/\(M*p)%(y*p)/p=M%y:=by
 refine ⟨Nat.mul_div_mul_right _ _ hp,?_⟩;rw [Nat.mul_mod_mul_right,Nat.mul_div_cancel _ hp]

theorem yB {B b U V ul vl U3 V2:Nat} (hU:U=U3*b+ul) (d:ul<b) (hV:V=V2*b+vl) (g:vl<b) (f:B<=V2) (hB:0<B) (hQ:U3/V2<=B) :
  U/V<=U3/V2/\U3/V2<=U/V+1:=by
 have hb:0<b:=by omega
 have a:0<V2:=by omega
 have c:0<V:=by
  have:1*1<=V2*b:=fh a hb;omega
 refine ⟨?_,?_⟩
 ·have e:U/(V2*b)=U3/V2:=by
   rw [aF V2 b,<- cK,hU,aF U3 b,fH hb,bj d,aU]
  rw [<- e];exact Nat.div_le_div_left (by omega) (fI a hb)
 ·generalize hQq:U3/V2=Q at *;rcases cF Q with h | h
  ·rw [h];exact aP _
  ·obtain ⟨p,rfl⟩:∃ p,Q=p+1:=⟨Q-1,by omega⟩
   have h3:V2*(p+1)<=U3:=by rw [<- hQq];exact Nat.mul_div_le U3 V2
   have:p<=U/V:=by
    rw [mz c,hV,hU,aJ];have h4:p*vl<=p*b:=bi _ (by omega);have h5:p*b<=V2*b:=bI _ (by omega);have h6:V2*(p+1)*b<=U3*b:=bI _ h3;rw [aJ,bD,cJ] at h6;have h7:p*(V2*b)=V2*p*b:=by rw [<- bf,aF p V2]
    omega
   exact Nat.succ_le_succ this

theorem uC {B b U V ul vl U1 V1:Nat} (hU:U=U1*b+ul) (hV:V=V1*b+vl) (f:vl<b) (a:U<V*B) (e:B<=2*V1) (hB:2<=B) (h:V1*B<=U1) :
  U/V<=B-1/\B-1<=U/V+1:=by
 have d:0<V:=by
  rcases cF V with h | h
  ·rw [h] at a;omega
  ·exact h
 refine ⟨?_,?_⟩
 ·have:U/V<B:=(cj d).2 (by rw [aF];exact a);omega
 ·obtain ⟨c,rfl⟩:∃ c,B=c+2:=⟨B-2,by omega⟩
  have:c<=U/V:=by
   rw [mz d,hV,hU,aJ];have h1:V1*(c+2)*b<=U1*b:=bI _ h;have h2:c*vl<=c*b:=bi _ (by omega);have h3:(c+2)*b<=2*V1*b:=bI _ e;rw [aJ,cJ] at h1;rw [cJ] at h3;have h4:c*(V1*b)=V1*c*b:=by rw [<- bf,aF c V1]
   have h5:V1*2*b=2*V1*b:=by rw [aF V1 2]
   omega
  exact Nat.succ_le_succ this

open Go.RowKit

theorem bLz (y:Nat) (hy:y<18446744073709551616) (w:World) :
  Calls prog 265 #[.int .u64 (y:Nat)] w fun e w'=>e=.returned (.int .i64 (64-aM y:Nat))/\w'=w:=by
 have b:aM y<=64:=(aX y 64).2 hy;have a:=Any.bits_Len64 Ff (y:Int) w (by omega) (by omega);rw [show ((y:Int).toNat)=y from rfl,kK y hy] at a;generalize aM y=M at *;go_enter func265,ntmps265;go_wp2_with fail;refine a.mono ?_;rintro e w' ⟨rfl,rfl⟩;go_wp2;go_ret;refine ⟨?_,rfl⟩;simp;omega

theorem vw (x:Nat) (h:x<18446744073709551616):bits .and .u64 (x:Int) 4294967295=((x%4294967296:Nat):Int):=by
 have e:=u64_and_nat x 4294967295 (by omega) (by omega);rw [show (4294967295:Nat)=2^32-1 from rfl,Nat.and_two_pow_sub_one_eq_mod] at e;exact e

theorem AV (hi lo s:Nat) (hs:s<=64) (h1:hi*2^s<18446744073709551616) (h2:lo<18446744073709551616):bits .or .u64 (IntKind.u64.wrap ((hi:Int)*2^s)) ((lo:Int)/2^(64-s))=((hi*2^s+lo/2^(64-s):Nat):Int):=by
 have e1:(hi:Int)*2^s=((hi*2^s:Nat):Int):=by simp
 have e2:(lo:Int)/2^(64-s)=((lo/2^(64-s):Nat):Int):=by simp
 have h3:lo/2^(64-s)<2^s:=by
  rw [cj (aC (by omega)),<- aN,show s+(64-s)=64 by omega];exact h2
 have h4:lo/2^(64-s)<=lo:=ew _ _;rw [e1,e2,IntKind.wrap_u64];have e3:((hi*2^s:Nat):Int)%18446744073709551616=((hi*2^s:Nat):Int):=by omega
 rw [e3,u64_or_nat _ _ (by omega) (by omega),aF hi (2^s),<- ki h3]

theorem ft {P U t R:Nat} (h:P+R=U*4294967296+t) (hR:R<18446744073709551616) :
  ∃ a1 a2 a3:Nat,IntKind.u64.wrap ((U:Int)*4294967296)=(a1:Int)/\IntKind.u64.wrap ((a1:Int)+(t:Int))=(a2:Int)/\IntKind.u64.wrap (P:Int)=(a3:Int)/\IntKind.u64.wrap ((a2:Int)-(a3:Int))=(R:Int):=by
 refine ⟨U*4294967296%18446744073709551616,(U*4294967296+t)%18446744073709551616,P%18446744073709551616,?_,?_,?_,?_⟩ <;> rw [IntKind.wrap_u64] <;> omega

theorem sP {y:Nat} (h0:0<y) (hy:y<18446744073709551616):64-aM y<=63/\y*2^(64-aM y)<18446744073709551616/\9223372036854775808<=y*2^(64-aM y):=by
 have a:aM y<=64:=(aX y 64).2 hy;have h1:¬ aM y<=0:=fun h=>by have:=(aX y 0).1 h;omega
 have h2:=(aX y (aM y)).1 (leR _);have h3:¬ y<2^(aM y-1):=fun h=>by have:=(aX y (aM y-1)).2 h;omega
 refine ⟨by omega,?_,?_⟩
 ·have:y*2^(64-aM y)<2^aM y*2^(64-aM y):=mA h2 (aC (by omega))
  rwa [<- aN,show aM y+(64-aM y)=64 by omega] at this
 ·have:2^(aM y-1)*2^(64-aM y)<=y*2^(64-aM y):=bI _ (by omega)
  rwa [<- aN,show aM y-1+(64-aM y)=63 by omega] at this

theorem Gs (lo y:Nat) (hl:lo<18446744073709551616) (h0:0<y) (w:World) :
  Calls prog 274 #[.int .u64 0,.int .u64 (lo:Nat),.int .u64 (y:Nat)] w fun e w'=>e=.returned (.tuple #[.int .u64 (lo/y:Nat),.int .u64 (lo%y:Nat)])/\∃ m,w'=w.drewN m:=by
 have g1:((y:Int) == 0)=false:=by simp;omega
 have g2:¬ (y:Int)<=0:=by omega
 have g3:¬ (y:Int)=0:=by omega
 obtain ⟨Q,hQ⟩:∃ Q,Q=lo/y:=⟨_,rfl⟩
 obtain ⟨R,hR⟩:∃ R,R=lo%y:=⟨_,rfl⟩
 have hq:=ew lo y;have e1:IntKind.u64.wrap ((lo:Int)/(y:Int))=(Q:Int):=by
  rw [show (lo:Int)/(y:Int)=((lo/y:Nat):Int) by simp,<- hQ,IntKind.wrap_u64];omega
 have e2:(lo:Int)%(y:Int)=(R:Int):=by rw [hR];simp
 rw [<- hQ,<- hR];clear hQ hR hq;go_enter func274,ntmps274;go_wp2;go_region
 all_goals
  go_wp2;go_ret2;refine ⟨?_,1,rfl⟩;show Ending.returned (.tuple #[.int .u64 (Q:Int),.int .u64 ((lo:Int)%(y:Int))])=_
  rw [e2]

theorem Gt (hi lo y:Nat) (hl:lo<18446744073709551616) (hy:y<18446744073709551616) (h0:0<hi) (hlt:hi<y) (w:World) :
  Calls prog 274 #[.int .u64 (hi:Nat),.int .u64 (lo:Nat),.int .u64 (y:Nat)] w fun e w'=>e=.returned (.tuple #[.int .u64 ((hi*18446744073709551616+lo)/y:Nat),.int .u64 ((hi*18446744073709551616+lo)%y:Nat)])/\∃ m,w'=w.drewN m:=by
 have g1:((y:Int) == 0)=false:=by simp;omega
 have g2:¬ (y:Int)<=(hi:Int):=by omega
 have g3:((hi:Int) == 0)=false:=by simp;omega
 have hZ:=bLz y hy;obtain ⟨f1,f2,f3⟩:=sP (y:=y) (by omega) hy;generalize 64-aM y=s at *;obtain ⟨Y,hY⟩:∃ Y,Y=y*2^s:=⟨_,rfl⟩
 have e1:IntKind.u64.wrap ((y:Int)*2^s)=(Y:Int):=by
  rw [show (y:Int)*2^s=((y*2^s:Nat):Int) by simp,<- hY,IntKind.wrap_u64];omega
 have Z:0<2^s:=aC (by omega);have an:hi*2^s<y*2^s:=mA hlt Z;rw [<- hY] at f2 f3 an;obtain ⟨U,hU⟩:∃ U,U=hi*2^s+lo/2^(64-s):=⟨_,rfl⟩
 obtain ⟨T,hT⟩:∃ T,T=lo*2^s%18446744073709551616:=⟨_,rfl⟩
 have eU:bits .or .u64 (IntKind.u64.wrap ((hi:Int)*2^s)) ((lo:Int)/2^(64-s))=(U:Int):=by rw [hU];exact AV hi lo s (by omega) (by omega) hl
 have eT:IntKind.u64.wrap ((lo:Int)*2^s)=(T:Int):=by
  rw [show (lo:Int)*2^s=((lo*2^s:Nat):Int) by simp,IntKind.wrap_u64];omega
 have hN:(hi*18446744073709551616+lo)*2^s=U*18446744073709551616+T:=by
  have h5:lo/2^(64-s)=lo*2^s/18446744073709551616:=by
   rw [show (18446744073709551616:Nat)=2^(64-s)*2^s by rw [<- aN,show 64-s+s=64 by omega],Nat.mul_div_mul_right _ _ Z]
  rw [hU,h5,hT,cJ,cJ,Nat.mul_right_comm hi 18446744073709551616];generalize lo*2^s=z;omega
 have am:U<Y:=by
  have h6:(hi*18446744073709551616+lo)*2^s<(y*18446744073709551616)*2^s:=mA (by omega) Z;rw [hN,Nat.mul_right_comm,<- hY] at h6;omega
 have al:T<18446744073709551616:=by rw [hT];exact ay _ (by omega)
 obtain ⟨QQ,ac⟩:∃ QQ,QQ=(hi*18446744073709551616+lo)/y:=⟨_,rfl⟩
 obtain ⟨RR,ai⟩:∃ RR,RR=(hi*18446744073709551616+lo)%y:=⟨_,rfl⟩
 obtain ⟨d1,d2⟩:=nM (M:=hi*18446744073709551616+lo) (y:=y) Z;rw [hN,<- hY,<- ac] at d1;rw [hN,<- hY,<- ai] at d2;rw [<- ac,<- ai];have az:QQ<18446744073709551616:=by
  rw [ac,cj (by omega)];have:(hi+1)*18446744073709551616<=y*18446744073709551616:=bI _ hlt;omega
 have D1:=aa d1;have D2:=aa d2;obtain ⟨y1,aD⟩:∃ y1,y1=Y/4294967296:=⟨_,rfl⟩
 obtain ⟨y0,ap⟩:∃ y0,y0=Y%4294967296:=⟨_,rfl⟩
 obtain ⟨t1,aB⟩:∃ t1,t1=T/4294967296:=⟨_,rfl⟩
 obtain ⟨t0,ao⟩:∃ t0,t0=T%4294967296:=⟨_,rfl⟩
 have e2:(Y:Int)/4294967296=(y1:Int):=by omega
 have e3:bits .and .u64 (Y:Int) 4294967295=(y0:Int):=by rw [ap];exact vw Y f2
 have e4:(T:Int)/4294967296=(t1:Int):=by omega
 have e5:bits .and .u64 (T:Int) 4294967295=(t0:Int):=by rw [ao];exact vw T al
 have g4:¬ (y1:Int)=0:=by omega
 have b1:y1<4294967296:=by omega
 have aE:2147483648<=y1:=by omega
 have b0:y0<4294967296:=by omega
 have c1:t1<4294967296:=by omega
 have c0:t0<4294967296:=by omega
 have i:Hid (y1*4294967296+y0=Y):=by unfold Hid;omega
 have P:Hid (U*18446744073709551616+T=(U*4294967296+t1)*4294967296+t0):=by unfold Hid;omega
 have ag:=aa am;have HS:Hid (0<2^s):=Z;have aG:U<18446744073709551616:=by omega
 obtain ⟨R1,ad⟩:∃ R1,R1=(U*4294967296+t1)%Y:=⟨_,rfl⟩
 obtain ⟨R2,ae⟩:∃ R2,R2=(R1*4294967296+t0)%Y:=⟨_,rfl⟩
 have t:R1<Y:=by rw [ad];exact ay _ (by omega)
 have aA:R2<Y:=by rw [ae];exact ay _ (by omega)
 have L:=aa ad;have Q:=aa ae;have aF:(R2:Int)/2^s=(RR:Int):=by
  have:=(eP (B:=4294967296) (U:=U) (u:=t1) (v:=t0) (Y:=Y) (by omega) rfl rfl).2;rw [<- ad,<- ae,<- P.out] at this;rw [<- this] at d2;rw [show (R2:Int)/2^s=((R2/2^s:Nat):Int) by simp,d2]
 clear aD ap aB ao hU hT hN al an ac ai hY d1 d2 Z ad ae am;obtain ⟨Q1,ab⟩:∃ q,q=U/y1:=⟨_,rfl⟩
 obtain ⟨M1,ah⟩:∃ q,q=Q1*y1:=⟨_,rfl⟩
 obtain ⟨r1,af⟩:∃ q,q=U%y1:=⟨_,rfl⟩
 have aJ:IntKind.u64.wrap ((U:Int)/(y1:Int))=(Q1:Int):=by
  have:=ew U y1;rw [<- ab] at this;rw [show (U:Int)/(y1:Int)=((U/y1:Nat):Int) by simp,<- ab,IntKind.wrap_u64];omega
 have au:=dG U y1;rw [<- ab,<- ah,<- af] at au;have aI:IntKind.u64.wrap ((Q1:Int)*(y1:Int))=(M1:Int):=by
  rw [show (Q1:Int)*(y1:Int)=((Q1*y1:Nat):Int) by simp,<- ah,IntKind.wrap_u64];omega
 have aK:IntKind.u64.wrap ((U:Int)-(M1:Int))=(r1:Int):=by
  rw [IntKind.wrap_u64];omega
 have aH:r1<y1:=by rw [af];exact ay _ (by omega)
 have ak:Hid (Gss 4294967296 U t1 y1 y0 Q1 r1):=by
  unfold Hid;rw [ab,af];exact Gss.start (by omega) (by omega) (by omega) b0 (by rw [i.out];exact ag.out)
 clear ab af ah au;go_enter func274,ntmps274;go_wp2_with fail;refine (hZ _).mono ?_;rintro e w' ⟨rfl,rfl⟩;clear hZ;go_wp2_with fail;go_loop [15,16] (fun a b=>∃ q r:Nat,a=.int .u64 (q:Int)/\b=.int .u64 (r:Int)/\r<4294967296/\Hid (Gss 4294967296 U t1 y1 y0 q r)) (fun a _=>(intOf a).toNat)
 case atStart=>exact ⟨Q1,r1,rfl,rfl,by omega,ak⟩
 case round=>
  clear ak;obtain ⟨q,r,rfl,rfl,aj,hG⟩:=hrel;have G:=hG.out.le;by_cases hq:q<4294967296
  ·have k1:¬ (4294967296:Int)<=(q:Int):=by omega
   obtain ⟨qy,k⟩:∃ qy,qy=q*y0:=⟨_,rfl⟩
   have p:qy<=4294967295*4294967295:=by rw [k];exact fh (by omega) (by omega)
   have k2:IntKind.u64.wrap ((q:Int)*(y0:Int))=(qy:Int):=by
    rw [show (q:Int)*(y0:Int)=((q*y0:Nat):Int) by simp,<- k,IntKind.wrap_u64];omega
   obtain ⟨br,x⟩:∃ br,br=4294967296*r:=⟨_,rfl⟩
   have k3:IntKind.u64.wrap (4294967296*(r:Int))=(br:Int):=by rw [IntKind.wrap_u64];omega
   obtain ⟨bt,A⟩:∃ bt,bt=br+t1:=⟨_,rfl⟩
   have k4:IntKind.u64.wrap ((br:Int)+(t1:Int))=(bt:Int):=by rw [IntKind.wrap_u64];omega
   by_cases hc:bt<qy
   ·have k5:(bt:Int)<(qy:Int):=by omega
    obtain ⟨F,l⟩:=hG.out.next (by omega) (by rw [i.out];exact ag.out) (.inr (by rw [<- k,<- x,<- A];exact hc));have g:=aa l;obtain ⟨q',o⟩:∃ q',q=q'+1:=⟨q-1,by omega⟩
    rw [show q-1=q' by omega] at g;have H:q'<=4294967296:=by omega
    have k8:IntKind.u64.wrap ((q:Int)-1)=(q':Int):=by rw [IntKind.wrap_u64];omega
    have HQ:=aa o;clear o;clear hG l k x A p G F hq ;obtain ⟨r2,j⟩:∃ r2,r2=r+y1:=⟨_,rfl⟩
    have k6:IntKind.u64.wrap ((r:Int)+(y1:Int))=(r2:Int):=by rw [IntKind.wrap_u64];omega
    rw [<- j] at g;by_cases hov:r2<4294967296
    ·have k7:¬ (4294967296:Int)<=(r2:Int):=by omega
     clear j;go_wp2_with fail;go_round
     case rel=>exact ⟨q',r2,rfl,rfl,hov,g⟩
     case measure=>have:=HQ.out;simp [intOf];omega
    ·have k7:(4294967296:Int)<=(r2:Int):=by omega
     have d:=g.out.stop (by rw [i.out];omega) (Gss.over (by omega) b0 (by omega));rw [i.out] at d;clear j g;have I:=dG (U*4294967296+t1) Y;rw [<- d,<- L.out] at I;obtain ⟨p1,n⟩:∃ p1,p1=q'*Y:=⟨_,rfl⟩
     rw [<- n] at I;obtain ⟨a1,a2,a3,m1,m2,m3,m4⟩:=ft I (by omega);have aq:IntKind.u64.wrap ((q':Int)*(Y:Int))=(a3:Int):=by rw [<- m3,n];try simp
     have N:=aa d;clear I n m3 d;obtain ⟨Q0,D⟩:∃ q,q=R1/y1:=⟨_,rfl⟩
     obtain ⟨M0,O⟩:∃ q,q=Q0*y1:=⟨_,rfl⟩
     obtain ⟨r0,J⟩:∃ q,q=R1%y1:=⟨_,rfl⟩
     have aw:IntKind.u64.wrap ((R1:Int)/(y1:Int))=(Q0:Int):=by
      have:=ew R1 y1;rw [<- D] at this;rw [show (R1:Int)/(y1:Int)=((R1/y1:Nat):Int) by simp,<- D,IntKind.wrap_u64];omega
     have X:=dG R1 y1;rw [<- D,<- O,<- J] at X;have av:IntKind.u64.wrap ((Q0:Int)*(y1:Int))=(M0:Int):=by
      rw [show (Q0:Int)*(y1:Int)=((Q0*y1:Nat):Int) by simp,<- O,IntKind.wrap_u64];omega
     have ax:IntKind.u64.wrap ((R1:Int)-(M0:Int))=(r0:Int):=by
      rw [IntKind.wrap_u64];omega
     have ar:r0<y1:=by rw [J];exact ay _ (by omega)
     have R:Hid (Gss 4294967296 R1 t0 y1 y0 Q0 r0):=by
      unfold Hid;rw [D,J];exact Gss.start (by omega) (by omega) (by omega) b0 (by rw [i.out];exact t)
     clear D J O X;go_wp2_with fail;generalize q'=qa at *;go_loop [18,16] (fun a b=>∃ q r:Nat,a=.int .u64 (q:Int)/\b=.int .u64 (r:Int)/\r<4294967296/\Hid (Gss 4294967296 R1 t0 y1 y0 q r)) (fun a _=>(intOf a).toNat)
     case atStart=>exact ⟨Q0,r0,rfl,rfl,by omega,R⟩
     case round=>
      clear R;obtain ⟨q,r,rfl,rfl,aj,hG⟩:=hrel;have G:=hG.out.le;by_cases hq:q<4294967296
      ·have k1:¬ (4294967296:Int)<=(q:Int):=by omega
       obtain ⟨qy,k⟩:∃ qy,qy=q*y0:=⟨_,rfl⟩
       have p:qy<=4294967295*4294967295:=by rw [k];exact fh (by omega) (by omega)
       have k2:IntKind.u64.wrap ((q:Int)*(y0:Int))=(qy:Int):=by
        rw [show (q:Int)*(y0:Int)=((q*y0:Nat):Int) by simp,<- k,IntKind.wrap_u64];omega
       obtain ⟨br,x⟩:∃ br,br=4294967296*r:=⟨_,rfl⟩
       have k3:IntKind.u64.wrap (4294967296*(r:Int))=(br:Int):=by rw [IntKind.wrap_u64];omega
       obtain ⟨bt,A⟩:∃ bt,bt=br+t0:=⟨_,rfl⟩
       have k4:IntKind.u64.wrap ((br:Int)+(t0:Int))=(bt:Int):=by rw [IntKind.wrap_u64];omega
       by_cases hc:bt<qy
       ·have k5:(bt:Int)<(qy:Int):=by omega
        obtain ⟨F,l⟩:=hG.out.next (by omega) (by rw [i.out];exact t) (.inr (by rw [<- k,<- x,<- A];exact hc));have g:=aa l;obtain ⟨q',o⟩:∃ q',q=q'+1:=⟨q-1,by omega⟩
        rw [show q-1=q' by omega] at g;have H:q'<=4294967296:=by omega
        have k8:IntKind.u64.wrap ((q:Int)-1)=(q':Int):=by rw [IntKind.wrap_u64];omega
        have HQ:=aa o;clear o;clear hG l k x A p G F hq ;obtain ⟨r2,j⟩:∃ r2,r2=r+y1:=⟨_,rfl⟩
        have k6:IntKind.u64.wrap ((r:Int)+(y1:Int))=(r2:Int):=by rw [IntKind.wrap_u64];omega
        rw [<- j] at g;by_cases hov:r2<4294967296
        ·have k7:¬ (4294967296:Int)<=(r2:Int):=by omega
         clear j;go_wp2_with fail;go_round
         case rel=>exact ⟨q',r2,rfl,rfl,hov,g⟩
         case measure=>have:=HQ.out;simp [intOf];omega
        ·have k7:(4294967296:Int)<=(r2:Int):=by omega
         have d:=g.out.stop (by rw [i.out];omega) (Gss.over (by omega) b0 (by omega));rw [i.out] at d;clear j g;have h:=dG (R1*4294967296+t0) Y;rw [<- d,<- Q.out] at h;obtain ⟨p0,c⟩:∃ p0,p0=q'*Y:=⟨_,rfl⟩
         rw [<- c] at h;obtain ⟨S,V,C,n1,n2,n3,n4⟩:=ft h (by omega);have W:IntKind.u64.wrap ((q':Int)*(Y:Int))=(C:Int):=by rw [<- n3,c];try simp
         have f:=(eP (B:=4294967296) (U:=U) (u:=t1) (v:=t0) (Y:=Y) (q0:=q') (by omega) N.out (by rw [<- L.out];exact d)).1;rw [<- P.out,D1.out] at f;obtain ⟨qs,E⟩:∃ qs,qs=qa*4294967296:=⟨_,rfl⟩
         have n5:IntKind.u64.wrap ((qa:Int)*4294967296)=(qs:Int):=by rw [IntKind.wrap_u64];omega
         have n6:IntKind.u64.wrap ((qs:Int)+(q':Int))=(QQ:Int):=by rw [IntKind.wrap_u64];omega
         clear h c d f E n3;go_wp2_with fail;go_ret2;exact ⟨rfl,0,rfl⟩
       ·have k5:¬ (bt:Int)<(qy:Int):=by omega
        have d:=hG.out.stop (by rw [i.out];omega) (by rw [<- k,<- x,<- A];omega);rw [i.out] at d;clear hG k x A p G;have h:=dG (R1*4294967296+t0) Y;rw [<- d,<- Q.out] at h;obtain ⟨p0,c⟩:∃ p0,p0=q*Y:=⟨_,rfl⟩
        rw [<- c] at h;obtain ⟨S,V,C,n1,n2,n3,n4⟩:=ft h (by omega);have W:IntKind.u64.wrap ((q:Int)*(Y:Int))=(C:Int):=by rw [<- n3,c];try simp
        have f:=(eP (B:=4294967296) (U:=U) (u:=t1) (v:=t0) (Y:=Y) (q0:=q) (by omega) N.out (by rw [<- L.out];exact d)).1;rw [<- P.out,D1.out] at f;obtain ⟨qs,E⟩:∃ qs,qs=qa*4294967296:=⟨_,rfl⟩
        have n5:IntKind.u64.wrap ((qa:Int)*4294967296)=(qs:Int):=by rw [IntKind.wrap_u64];omega
        have n6:IntKind.u64.wrap ((qs:Int)+(q:Int))=(QQ:Int):=by rw [IntKind.wrap_u64];omega
        clear h c d f E n3;go_wp2_with fail;go_ret2;exact ⟨rfl,0,rfl⟩
      ·have k1:(4294967296:Int)<=(q:Int):=by omega
       obtain ⟨F,l⟩:=hG.out.next (by omega) (by rw [i.out];exact t) (.inl (by omega));have g:=aa l;obtain ⟨q',o⟩:∃ q',q=q'+1:=⟨q-1,by omega⟩
       rw [show q-1=q' by omega] at g;have H:q'<=4294967296:=by omega
       have k8:IntKind.u64.wrap ((q:Int)-1)=(q':Int):=by rw [IntKind.wrap_u64];omega
       have HQ:=aa o;clear o;clear hG l G F;obtain ⟨r2,j⟩:∃ r2,r2=r+y1:=⟨_,rfl⟩
       have k6:IntKind.u64.wrap ((r:Int)+(y1:Int))=(r2:Int):=by rw [IntKind.wrap_u64];omega
       rw [<- j] at g;by_cases hov:r2<4294967296
       ·have k7:¬ (4294967296:Int)<=(r2:Int):=by omega
        clear j;go_wp2_with fail;go_round
        case rel=>exact ⟨q',r2,rfl,rfl,hov,g⟩
        case measure=>have:=HQ.out;simp [intOf];omega
       ·have k7:(4294967296:Int)<=(r2:Int):=by omega
        have d:=g.out.stop (by rw [i.out];omega) (Gss.over (by omega) b0 (by omega));rw [i.out] at d;clear j g;have h:=dG (R1*4294967296+t0) Y;rw [<- d,<- Q.out] at h;obtain ⟨p0,c⟩:∃ p0,p0=q'*Y:=⟨_,rfl⟩
        rw [<- c] at h;obtain ⟨S,V,C,n1,n2,n3,n4⟩:=ft h (by omega);have W:IntKind.u64.wrap ((q':Int)*(Y:Int))=(C:Int):=by rw [<- n3,c];try simp
        have f:=(eP (B:=4294967296) (U:=U) (u:=t1) (v:=t0) (Y:=Y) (q0:=q') (by omega) N.out (by rw [<- L.out];exact d)).1;rw [<- P.out,D1.out] at f;obtain ⟨qs,E⟩:∃ qs,qs=qa*4294967296:=⟨_,rfl⟩
        have n5:IntKind.u64.wrap ((qa:Int)*4294967296)=(qs:Int):=by rw [IntKind.wrap_u64];omega
        have n6:IntKind.u64.wrap ((qs:Int)+(q':Int))=(QQ:Int):=by rw [IntKind.wrap_u64];omega
        clear h c d f E n3;go_wp2_with fail;go_ret2;exact ⟨rfl,0,rfl⟩
   ·have k5:¬ (bt:Int)<(qy:Int):=by omega
    have d:=hG.out.stop (by rw [i.out];omega) (by rw [<- k,<- x,<- A];omega);rw [i.out] at d;clear hG k x A p G;have I:=dG (U*4294967296+t1) Y;rw [<- d,<- L.out] at I;obtain ⟨p1,n⟩:∃ p1,p1=q*Y:=⟨_,rfl⟩
    rw [<- n] at I;obtain ⟨a1,a2,a3,m1,m2,m3,m4⟩:=ft I (by omega);have aq:IntKind.u64.wrap ((q:Int)*(Y:Int))=(a3:Int):=by rw [<- m3,n];try simp
    have N:=aa d;clear I n m3 d;obtain ⟨Q0,D⟩:∃ q,q=R1/y1:=⟨_,rfl⟩
    obtain ⟨M0,O⟩:∃ q,q=Q0*y1:=⟨_,rfl⟩
    obtain ⟨r0,J⟩:∃ q,q=R1%y1:=⟨_,rfl⟩
    have aw:IntKind.u64.wrap ((R1:Int)/(y1:Int))=(Q0:Int):=by
     have:=ew R1 y1;rw [<- D] at this;rw [show (R1:Int)/(y1:Int)=((R1/y1:Nat):Int) by simp,<- D,IntKind.wrap_u64];omega
    have X:=dG R1 y1;rw [<- D,<- O,<- J] at X;have av:IntKind.u64.wrap ((Q0:Int)*(y1:Int))=(M0:Int):=by
     rw [show (Q0:Int)*(y1:Int)=((Q0*y1:Nat):Int) by simp,<- O,IntKind.wrap_u64];omega
    have ax:IntKind.u64.wrap ((R1:Int)-(M0:Int))=(r0:Int):=by
     rw [IntKind.wrap_u64];omega
    have ar:r0<y1:=by rw [J];exact ay _ (by omega)
    have R:Hid (Gss 4294967296 R1 t0 y1 y0 Q0 r0):=by
     unfold Hid;rw [D,J];exact Gss.start (by omega) (by omega) (by omega) b0 (by rw [i.out];exact t)
    clear D J O X;go_wp2_with fail;generalize q=qa at *;go_loop [18,16] (fun a b=>∃ q r:Nat,a=.int .u64 (q:Int)/\b=.int .u64 (r:Int)/\r<4294967296/\Hid (Gss 4294967296 R1 t0 y1 y0 q r)) (fun a _=>(intOf a).toNat)
    case atStart=>exact ⟨Q0,r0,rfl,rfl,by omega,R⟩
    case round=>
     clear R;obtain ⟨q,r,rfl,rfl,aj,hG⟩:=hrel;have G:=hG.out.le;by_cases hq:q<4294967296
     ·have k1:¬ (4294967296:Int)<=(q:Int):=by omega
      obtain ⟨qy,k⟩:∃ qy,qy=q*y0:=⟨_,rfl⟩
      have p:qy<=4294967295*4294967295:=by rw [k];exact fh (by omega) (by omega)
      have k2:IntKind.u64.wrap ((q:Int)*(y0:Int))=(qy:Int):=by
       rw [show (q:Int)*(y0:Int)=((q*y0:Nat):Int) by simp,<- k,IntKind.wrap_u64];omega
      obtain ⟨br,x⟩:∃ br,br=4294967296*r:=⟨_,rfl⟩
      have k3:IntKind.u64.wrap (4294967296*(r:Int))=(br:Int):=by rw [IntKind.wrap_u64];omega
      obtain ⟨bt,A⟩:∃ bt,bt=br+t0:=⟨_,rfl⟩
      have k4:IntKind.u64.wrap ((br:Int)+(t0:Int))=(bt:Int):=by rw [IntKind.wrap_u64];omega
      by_cases hc:bt<qy
      ·have k5:(bt:Int)<(qy:Int):=by omega
       obtain ⟨F,l⟩:=hG.out.next (by omega) (by rw [i.out];exact t) (.inr (by rw [<- k,<- x,<- A];exact hc));have g:=aa l;obtain ⟨q',o⟩:∃ q',q=q'+1:=⟨q-1,by omega⟩
       rw [show q-1=q' by omega] at g;have H:q'<=4294967296:=by omega
       have k8:IntKind.u64.wrap ((q:Int)-1)=(q':Int):=by rw [IntKind.wrap_u64];omega
       have HQ:=aa o;clear o;clear hG l k x A p G F hq ;obtain ⟨r2,j⟩:∃ r2,r2=r+y1:=⟨_,rfl⟩
       have k6:IntKind.u64.wrap ((r:Int)+(y1:Int))=(r2:Int):=by rw [IntKind.wrap_u64];omega
       rw [<- j] at g;by_cases hov:r2<4294967296
       ·have k7:¬ (4294967296:Int)<=(r2:Int):=by omega
        clear j;go_wp2_with fail;go_round
        case rel=>exact ⟨q',r2,rfl,rfl,hov,g⟩
        case measure=>have:=HQ.out;simp [intOf];omega
       ·have k7:(4294967296:Int)<=(r2:Int):=by omega
        have d:=g.out.stop (by rw [i.out];omega) (Gss.over (by omega) b0 (by omega));rw [i.out] at d;clear j g;have h:=dG (R1*4294967296+t0) Y;rw [<- d,<- Q.out] at h;obtain ⟨p0,c⟩:∃ p0,p0=q'*Y:=⟨_,rfl⟩
        rw [<- c] at h;obtain ⟨S,V,C,n1,n2,n3,n4⟩:=ft h (by omega);have W:IntKind.u64.wrap ((q':Int)*(Y:Int))=(C:Int):=by rw [<- n3,c];try simp
        have f:=(eP (B:=4294967296) (U:=U) (u:=t1) (v:=t0) (Y:=Y) (q0:=q') (by omega) N.out (by rw [<- L.out];exact d)).1;rw [<- P.out,D1.out] at f;obtain ⟨qs,E⟩:∃ qs,qs=qa*4294967296:=⟨_,rfl⟩
        have n5:IntKind.u64.wrap ((qa:Int)*4294967296)=(qs:Int):=by rw [IntKind.wrap_u64];omega
        have n6:IntKind.u64.wrap ((qs:Int)+(q':Int))=(QQ:Int):=by rw [IntKind.wrap_u64];omega
        clear h c d f E n3;go_wp2_with fail;go_ret2;exact ⟨rfl,0,rfl⟩
      ·have k5:¬ (bt:Int)<(qy:Int):=by omega
       have d:=hG.out.stop (by rw [i.out];omega) (by rw [<- k,<- x,<- A];omega);rw [i.out] at d;clear hG k x A p G;have h:=dG (R1*4294967296+t0) Y;rw [<- d,<- Q.out] at h;obtain ⟨p0,c⟩:∃ p0,p0=q*Y:=⟨_,rfl⟩
       rw [<- c] at h;obtain ⟨S,V,C,n1,n2,n3,n4⟩:=ft h (by omega);have W:IntKind.u64.wrap ((q:Int)*(Y:Int))=(C:Int):=by rw [<- n3,c];try simp
       have f:=(eP (B:=4294967296) (U:=U) (u:=t1) (v:=t0) (Y:=Y) (q0:=q) (by omega) N.out (by rw [<- L.out];exact d)).1;rw [<- P.out,D1.out] at f;obtain ⟨qs,E⟩:∃ qs,qs=qa*4294967296:=⟨_,rfl⟩
       have n5:IntKind.u64.wrap ((qa:Int)*4294967296)=(qs:Int):=by rw [IntKind.wrap_u64];omega
       have n6:IntKind.u64.wrap ((qs:Int)+(q:Int))=(QQ:Int):=by rw [IntKind.wrap_u64];omega
       clear h c d f E n3;go_wp2_with fail;go_ret2;exact ⟨rfl,0,rfl⟩
     ·have k1:(4294967296:Int)<=(q:Int):=by omega
      obtain ⟨F,l⟩:=hG.out.next (by omega) (by rw [i.out];exact t) (.inl (by omega));have g:=aa l;obtain ⟨q',o⟩:∃ q',q=q'+1:=⟨q-1,by omega⟩
      rw [show q-1=q' by omega] at g;have H:q'<=4294967296:=by omega
      have k8:IntKind.u64.wrap ((q:Int)-1)=(q':Int):=by rw [IntKind.wrap_u64];omega
      have HQ:=aa o;clear o;clear hG l G F;obtain ⟨r2,j⟩:∃ r2,r2=r+y1:=⟨_,rfl⟩
      have k6:IntKind.u64.wrap ((r:Int)+(y1:Int))=(r2:Int):=by rw [IntKind.wrap_u64];omega
      rw [<- j] at g;by_cases hov:r2<4294967296
      ·have k7:¬ (4294967296:Int)<=(r2:Int):=by omega
       clear j;go_wp2_with fail;go_round
       case rel=>exact ⟨q',r2,rfl,rfl,hov,g⟩
       case measure=>have:=HQ.out;simp [intOf];omega
      ·have k7:(4294967296:Int)<=(r2:Int):=by omega
       have d:=g.out.stop (by rw [i.out];omega) (Gss.over (by omega) b0 (by omega));rw [i.out] at d;clear j g;have h:=dG (R1*4294967296+t0) Y;rw [<- d,<- Q.out] at h;obtain ⟨p0,c⟩:∃ p0,p0=q'*Y:=⟨_,rfl⟩
       rw [<- c] at h;obtain ⟨S,V,C,n1,n2,n3,n4⟩:=ft h (by omega);have W:IntKind.u64.wrap ((q':Int)*(Y:Int))=(C:Int):=by rw [<- n3,c];try simp
       have f:=(eP (B:=4294967296) (U:=U) (u:=t1) (v:=t0) (Y:=Y) (q0:=q') (by omega) N.out (by rw [<- L.out];exact d)).1;rw [<- P.out,D1.out] at f;obtain ⟨qs,E⟩:∃ qs,qs=qa*4294967296:=⟨_,rfl⟩
       have n5:IntKind.u64.wrap ((qa:Int)*4294967296)=(qs:Int):=by rw [IntKind.wrap_u64];omega
       have n6:IntKind.u64.wrap ((qs:Int)+(q':Int))=(QQ:Int):=by rw [IntKind.wrap_u64];omega
       clear h c d f E n3;go_wp2_with fail;go_ret2;exact ⟨rfl,0,rfl⟩
  ·have k1:(4294967296:Int)<=(q:Int):=by omega
   obtain ⟨F,l⟩:=hG.out.next (by omega) (by rw [i.out];exact ag.out) (.inl (by omega));have g:=aa l;obtain ⟨q',o⟩:∃ q',q=q'+1:=⟨q-1,by omega⟩
   rw [show q-1=q' by omega] at g;have H:q'<=4294967296:=by omega
   have k8:IntKind.u64.wrap ((q:Int)-1)=(q':Int):=by rw [IntKind.wrap_u64];omega
   have HQ:=aa o;clear o;clear hG l G F;obtain ⟨r2,j⟩:∃ r2,r2=r+y1:=⟨_,rfl⟩
   have k6:IntKind.u64.wrap ((r:Int)+(y1:Int))=(r2:Int):=by rw [IntKind.wrap_u64];omega
   rw [<- j] at g;by_cases hov:r2<4294967296
   ·have k7:¬ (4294967296:Int)<=(r2:Int):=by omega
    clear j;go_wp2_with fail;go_round
    case rel=>exact ⟨q',r2,rfl,rfl,hov,g⟩
    case measure=>have:=HQ.out;simp [intOf];omega
   ·have k7:(4294967296:Int)<=(r2:Int):=by omega
    have d:=g.out.stop (by rw [i.out];omega) (Gss.over (by omega) b0 (by omega));rw [i.out] at d;clear j g;have I:=dG (U*4294967296+t1) Y;rw [<- d,<- L.out] at I;obtain ⟨p1,n⟩:∃ p1,p1=q'*Y:=⟨_,rfl⟩
    rw [<- n] at I;obtain ⟨a1,a2,a3,m1,m2,m3,m4⟩:=ft I (by omega);have aq:IntKind.u64.wrap ((q':Int)*(Y:Int))=(a3:Int):=by rw [<- m3,n];try simp
    have N:=aa d;clear I n m3 d;obtain ⟨Q0,D⟩:∃ q,q=R1/y1:=⟨_,rfl⟩
    obtain ⟨M0,O⟩:∃ q,q=Q0*y1:=⟨_,rfl⟩
    obtain ⟨r0,J⟩:∃ q,q=R1%y1:=⟨_,rfl⟩
    have aw:IntKind.u64.wrap ((R1:Int)/(y1:Int))=(Q0:Int):=by
     have:=ew R1 y1;rw [<- D] at this;rw [show (R1:Int)/(y1:Int)=((R1/y1:Nat):Int) by simp,<- D,IntKind.wrap_u64];omega
    have X:=dG R1 y1;rw [<- D,<- O,<- J] at X;have av:IntKind.u64.wrap ((Q0:Int)*(y1:Int))=(M0:Int):=by
     rw [show (Q0:Int)*(y1:Int)=((Q0*y1:Nat):Int) by simp,<- O,IntKind.wrap_u64];omega
    have ax:IntKind.u64.wrap ((R1:Int)-(M0:Int))=(r0:Int):=by
     rw [IntKind.wrap_u64];omega
    have ar:r0<y1:=by rw [J];exact ay _ (by omega)
    have R:Hid (Gss 4294967296 R1 t0 y1 y0 Q0 r0):=by
     unfold Hid;rw [D,J];exact Gss.start (by omega) (by omega) (by omega) b0 (by rw [i.out];exact t)
    clear D J O X;go_wp2_with fail;generalize q'=qa at *;go_loop [18,16] (fun a b=>∃ q r:Nat,a=.int .u64 (q:Int)/\b=.int .u64 (r:Int)/\r<4294967296/\Hid (Gss 4294967296 R1 t0 y1 y0 q r)) (fun a _=>(intOf a).toNat)
    case atStart=>exact ⟨Q0,r0,rfl,rfl,by omega,R⟩
    case round=>
     clear R;obtain ⟨q,r,rfl,rfl,aj,hG⟩:=hrel;have G:=hG.out.le;by_cases hq:q<4294967296
     ·have k1:¬ (4294967296:Int)<=(q:Int):=by omega
      obtain ⟨qy,k⟩:∃ qy,qy=q*y0:=⟨_,rfl⟩
      have p:qy<=4294967295*4294967295:=by rw [k];exact fh (by omega) (by omega)
      have k2:IntKind.u64.wrap ((q:Int)*(y0:Int))=(qy:Int):=by
       rw [show (q:Int)*(y0:Int)=((q*y0:Nat):Int) by simp,<- k,IntKind.wrap_u64];omega
      obtain ⟨br,x⟩:∃ br,br=4294967296*r:=⟨_,rfl⟩
      have k3:IntKind.u64.wrap (4294967296*(r:Int))=(br:Int):=by rw [IntKind.wrap_u64];omega
      obtain ⟨bt,A⟩:∃ bt,bt=br+t0:=⟨_,rfl⟩
      have k4:IntKind.u64.wrap ((br:Int)+(t0:Int))=(bt:Int):=by rw [IntKind.wrap_u64];omega
      by_cases hc:bt<qy
      ·have k5:(bt:Int)<(qy:Int):=by omega
       obtain ⟨F,l⟩:=hG.out.next (by omega) (by rw [i.out];exact t) (.inr (by rw [<- k,<- x,<- A];exact hc));have g:=aa l;obtain ⟨q',o⟩:∃ q',q=q'+1:=⟨q-1,by omega⟩
       rw [show q-1=q' by omega] at g;have H:q'<=4294967296:=by omega
       have k8:IntKind.u64.wrap ((q:Int)-1)=(q':Int):=by rw [IntKind.wrap_u64];omega
       have HQ:=aa o;clear o;clear hG l k x A p G F hq ;obtain ⟨r2,j⟩:∃ r2,r2=r+y1:=⟨_,rfl⟩
       have k6:IntKind.u64.wrap ((r:Int)+(y1:Int))=(r2:Int):=by rw [IntKind.wrap_u64];omega
       rw [<- j] at g;by_cases hov:r2<4294967296
       ·have k7:¬ (4294967296:Int)<=(r2:Int):=by omega
        clear j;go_wp2_with fail;go_round
        case rel=>exact ⟨q',r2,rfl,rfl,hov,g⟩
        case measure=>have:=HQ.out;simp [intOf];omega
       ·have k7:(4294967296:Int)<=(r2:Int):=by omega
        have d:=g.out.stop (by rw [i.out];omega) (Gss.over (by omega) b0 (by omega));rw [i.out] at d;clear j g;have h:=dG (R1*4294967296+t0) Y;rw [<- d,<- Q.out] at h;obtain ⟨p0,c⟩:∃ p0,p0=q'*Y:=⟨_,rfl⟩
        rw [<- c] at h;obtain ⟨S,V,C,n1,n2,n3,n4⟩:=ft h (by omega);have W:IntKind.u64.wrap ((q':Int)*(Y:Int))=(C:Int):=by rw [<- n3,c];try simp
        have f:=(eP (B:=4294967296) (U:=U) (u:=t1) (v:=t0) (Y:=Y) (q0:=q') (by omega) N.out (by rw [<- L.out];exact d)).1;rw [<- P.out,D1.out] at f;obtain ⟨qs,E⟩:∃ qs,qs=qa*4294967296:=⟨_,rfl⟩
        have n5:IntKind.u64.wrap ((qa:Int)*4294967296)=(qs:Int):=by rw [IntKind.wrap_u64];omega
        have n6:IntKind.u64.wrap ((qs:Int)+(q':Int))=(QQ:Int):=by rw [IntKind.wrap_u64];omega
        clear h c d f E n3;go_wp2_with fail;go_ret2;exact ⟨rfl,0,rfl⟩
      ·have k5:¬ (bt:Int)<(qy:Int):=by omega
       have d:=hG.out.stop (by rw [i.out];omega) (by rw [<- k,<- x,<- A];omega);rw [i.out] at d;clear hG k x A p G;have h:=dG (R1*4294967296+t0) Y;rw [<- d,<- Q.out] at h;obtain ⟨p0,c⟩:∃ p0,p0=q*Y:=⟨_,rfl⟩
       rw [<- c] at h;obtain ⟨S,V,C,n1,n2,n3,n4⟩:=ft h (by omega);have W:IntKind.u64.wrap ((q:Int)*(Y:Int))=(C:Int):=by rw [<- n3,c];try simp
       have f:=(eP (B:=4294967296) (U:=U) (u:=t1) (v:=t0) (Y:=Y) (q0:=q) (by omega) N.out (by rw [<- L.out];exact d)).1;rw [<- P.out,D1.out] at f;obtain ⟨qs,E⟩:∃ qs,qs=qa*4294967296:=⟨_,rfl⟩
       have n5:IntKind.u64.wrap ((qa:Int)*4294967296)=(qs:Int):=by rw [IntKind.wrap_u64];omega
       have n6:IntKind.u64.wrap ((qs:Int)+(q:Int))=(QQ:Int):=by rw [IntKind.wrap_u64];omega
       clear h c d f E n3;go_wp2_with fail;go_ret2;exact ⟨rfl,0,rfl⟩
     ·have k1:(4294967296:Int)<=(q:Int):=by omega
      obtain ⟨F,l⟩:=hG.out.next (by omega) (by rw [i.out];exact t) (.inl (by omega));have g:=aa l;obtain ⟨q',o⟩:∃ q',q=q'+1:=⟨q-1,by omega⟩
      rw [show q-1=q' by omega] at g;have H:q'<=4294967296:=by omega
      have k8:IntKind.u64.wrap ((q:Int)-1)=(q':Int):=by rw [IntKind.wrap_u64];omega
      have HQ:=aa o;clear o;clear hG l G F;obtain ⟨r2,j⟩:∃ r2,r2=r+y1:=⟨_,rfl⟩
      have k6:IntKind.u64.wrap ((r:Int)+(y1:Int))=(r2:Int):=by rw [IntKind.wrap_u64];omega
      rw [<- j] at g;by_cases hov:r2<4294967296
      ·have k7:¬ (4294967296:Int)<=(r2:Int):=by omega
       clear j;go_wp2_with fail;go_round
       case rel=>exact ⟨q',r2,rfl,rfl,hov,g⟩
       case measure=>have:=HQ.out;simp [intOf];omega
      ·have k7:(4294967296:Int)<=(r2:Int):=by omega
       have d:=g.out.stop (by rw [i.out];omega) (Gss.over (by omega) b0 (by omega));rw [i.out] at d;clear j g;have h:=dG (R1*4294967296+t0) Y;rw [<- d,<- Q.out] at h;obtain ⟨p0,c⟩:∃ p0,p0=q'*Y:=⟨_,rfl⟩
       rw [<- c] at h;obtain ⟨S,V,C,n1,n2,n3,n4⟩:=ft h (by omega);have W:IntKind.u64.wrap ((q':Int)*(Y:Int))=(C:Int):=by rw [<- n3,c];try simp
       have f:=(eP (B:=4294967296) (U:=U) (u:=t1) (v:=t0) (Y:=Y) (q0:=q') (by omega) N.out (by rw [<- L.out];exact d)).1;rw [<- P.out,D1.out] at f;obtain ⟨qs,E⟩:∃ qs,qs=qa*4294967296:=⟨_,rfl⟩
       have n5:IntKind.u64.wrap ((qa:Int)*4294967296)=(qs:Int):=by rw [IntKind.wrap_u64];omega
       have n6:IntKind.u64.wrap ((qs:Int)+(q':Int))=(QQ:Int):=by rw [IntKind.wrap_u64];omega
       clear h c d f E n3;go_wp2_with fail;go_ret2;exact ⟨rfl,0,rfl⟩

theorem Gr (hi lo y:Nat) (hl:lo<18446744073709551616) (hy:y<18446744073709551616) (hlt:hi<y) (w:World) :
  Calls prog 274 #[.int .u64 (hi:Nat),.int .u64 (lo:Nat),.int .u64 (y:Nat)] w fun e w'=>e=.returned (.tuple #[.int .u64 ((hi*18446744073709551616+lo)/y:Nat),.int .u64 ((hi*18446744073709551616+lo)%y:Nat)])/\∃ m,w'=w.drewN m:=by
 rcases cF hi with h | h
 ·subst h;have:=Gs lo y hl (by omega) w;simpa using this
 ·exact Gt hi lo y hl hy h hlt w

theorem fj {B:Nat} {zs:List Nat} {j:Nat} (h:j<zs.length):val (zs.drop j) B=zs.getD j 0+B*val (zs.drop (j+1)) B:=by
 rw [dU h,aA,aQ h];rfl

end Go.Proofs.YtkaojflnghfmcaaGreatDoor
