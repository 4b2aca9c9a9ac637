/- Put together of: Div1 PrF Quo1. -/
import Derived.Test.YtpkmoamgpjcdeaaGreatDoorRC10

namespace Go.Proofs.YtpkmoamgpjcdeaaGreatDoor
open _root_.Go.Proofs.Tryz
set_option maxRecDepth 100000
set_option maxHeartbeats 4000000
variable {B U V Y Z j n q r u vl y0 y1:Nat} {os qs zs:LN}

structure Gss (B U u y1 y0 q r:Nat):Prop where
 eq:q*y1+r=U
 ge:(U*B+u)/(y1*B+y0)<=q
 le:q<=B+1

theorem sr (q y1 y0 B:Nat):(y1*B+y0)*q=q*y1*B+q*y0:=by
 rw [dn,aD (y1*B) q,<- bh,aD y0 q]

theorem Gss.start (hB:0<B) (hu:u<B) (h1:B<=2*y1) (h0:y0<B) (hU:U<y1*B+y0):Gss B U u y1 y0 (U/y1) (U%y1):=by
 have a:0<y1:=by omega
 refine ⟨by rw [aD];exact dz U y1,?_,?_⟩
 ·have e:(U*B+u)/(y1*B)=U/y1:=by
   rw [aD y1 B,<- dj,aD U B,gG hB,bI hu,aU]
  rw [<- e];exact Nat.div_le_div_left (by omega) (gH a hB)
 ·have h2:U/y1<B+2:=by
   rw [cS a,dn,aD B y1];omega
  omega

theorem tA (hu:u<B) (hU:U<Y):(U*B+u)/Y<B:=by
 rw [cS (by omega)];have:(U+1)*B<=Y*B:=cE _ hU;rw [dn,iF] at this;rw [aD B Y];omega

theorem zN {A:Nat} (hY:0<Y) (h1:A/Y<=q) (h2:Y*q<=A):q=A/Y:=by
 have h3:q<=A/Y:=(nD hY).2 (by rw [aD];exact h2);omega

theorem Gss.stop (g:Gss B U u y1 y0 q r) (hY:0<y1*B+y0) (ht:q*y0<=B*r+u):q=(U*B+u)/(y1*B+y0):=by
 refine zN hY g.ge ?_;rw [sr,<- g.eq,dn,aD r B];omega

theorem Gss.next (g:Gss B U u y1 y0 q r) (hu:u<B) (hU:U<y1*B+y0) (ht:B<=q\/B*r+u<q*y0):0<q/\Gss B U u y1 y0 (q-1) (r+y1):=by
 have hlt:(U*B+u)/(y1*B+y0)<q:=by
  rcases ht with h | h
  ·exact bg (tA hu hU) h
  ·rw [cS (by omega),aD q,sr,<- g.eq,dn,aD r B];omega
 have hq:0<q:=fF (aP _) hlt;refine ⟨hq,?_,Nat.le_sub_one_of_lt hlt,by have:=g.le;omega⟩;obtain ⟨p,rfl⟩:∃ p,q=p+1:=⟨q-1,by omega⟩
 have:=g.eq;rw [dn,iF] at this;rw [gD];omega

theorem Gss.over (hq:q<=B) (h0:y0<B) (hr:B<=r):q*y0<=B*r+u:=by
 have h1:q*y0<=B*B:=aH (cE _ hq) (bD _ (by omega));have h2:B*B<=B*r:=bD _ hr;omega

theorem ef (A Y:Nat):A/Y*Y+A%Y=A:=by rw [aD];exact dz A Y

theorem fA {v q1 q0:Nat} (hY:0<Y) (h1:q1=(U*B+u)/Y) (h0:q0=((U*B+u)%Y*B+v)/Y) :
  q1*B+q0=((U*B+u)*B+v)/Y/\((U*B+u)%Y*B+v)%Y=((U*B+u)*B+v)%Y:=by
 have e:=dz (U*B+u) Y;have e2:(U*B+u)*B+v=Y*(q1*B)+((U*B+u)%Y*B+v):=by
  have:(U*B+u)*B=(Y*((U*B+u)/Y)+(U*B+u)%Y)*B:=by rw [e]
  rw [this,dn,<- h1,bh];omega
 refine ⟨?_,?_⟩
 ·rw [e2,gG hY,<- h0]
 ·rw [e2,iZ]

theorem oU {M y p:Nat} (hp:0<p):(M*p)/(y*p)=M/y/\(M*p)%(y*p)/p=M%y:=by
 refine ⟨Nat.mul_div_mul_right _ _ hp,?_⟩;rw [Nat.mul_mod_mul_right,Nat.mul_div_cancel _ hp]

theorem AG {b ul U3 V2:Nat} (hU:U=U3*b+ul) (d:ul<b) (hV:V=V2*b+vl) (g:vl<b) (f:B<=V2) (hB:0<B) (hQ:U3/V2<=B) :
  U/V<=U3/V2/\U3/V2<=U/V+1:=by
 have hb:0<b:=by omega
 have a:0<V2:=by omega
 have c:0<V:=by
  have:1*1<=V2*b:=er a hb;omega
 refine ⟨?_,?_⟩
 ·have e:U/(V2*b)=U3/V2:=by
   rw [aD V2 b,<- dj,hU,aD U3 b,gG hb,bI d,aU]
  rw [<- e];exact Nat.div_le_div_left (by omega) (gH a hb)
 ·generalize hQq:U3/V2=Q at *;rcases cD Q with h | h
  ·rw [h];exact aP _
  ·obtain ⟨p,rfl⟩:∃ p,Q=p+1:=⟨Q-1,by omega⟩
   have h3:V2*(p+1)<=U3:=by rw [<- hQq];exact Nat.mul_div_le U3 V2
   have:p<=U/V:=by
    rw [nD c,hV,hU,aI];have h4:p*vl<=p*b:=bD _ (by omega);have h5:p*b<=V2*b:=cE _ (by omega);have h6:V2*(p+1)*b<=U3*b:=cE _ h3;rw [aI,bH,dn] at h6;have h7:p*(V2*b)=V2*p*b:=by rw [<- bh,aD p V2]
    omega
   exact Nat.succ_le_succ this

theorem yh {b ul U1 V1:Nat} (hU:U=U1*b+ul) (hV:V=V1*b+vl) (f:vl<b) (a:U<V*B) (e:B<=2*V1) (hB:2<=B) (h:V1*B<=U1) :
  U/V<=B-1/\B-1<=U/V+1:=by
 have d:0<V:=by
  rcases cD V with h | h
  ·rw [h] at a;omega
  ·exact h
 refine ⟨?_,?_⟩
 ·have:U/V<B:=(cS d).2 (by rw [aD];exact a);omega
 ·obtain ⟨c,rfl⟩:∃ c,B=c+2:=⟨B-2,by omega⟩
  have:c<=U/V:=by
   rw [nD d,hV,hU,aI];have h1:V1*(c+2)*b<=U1*b:=cE _ h;have h2:c*vl<=c*b:=bD _ (by omega);have h3:(c+2)*b<=2*V1*b:=cE _ e;rw [aI,dn] at h1;rw [dn] at h3;have h4:c*(V1*b)=V1*c*b:=by rw [<- bh,aD c V1]
   have h5:V1*2*b=2*V1*b:=by rw [aD V1 2]
   omega
  exact Nat.succ_le_succ this

open Go.RowKit

theorem bLz (y:Nat) (hy:y<18446744073709551616) (w:World) :
  ClZ 252 #[.int .u64 (y:Nat)] w fun e w'=>e=.returned (.int .i64 (64-aL y:Nat))/\w'=w:=by
 have b:aL y<=64:=(bf y 64).2 hy;have a:=Any.bits_Len64 GQ (y:Int) w (by omega) (by omega);rw [show ((y:Int).toNat)=y from rfl,lP y hy] at a;generalize aL y=M at *;delta ClZ;go_in;go_wp2_with fail;refine a.mono ?_;rintro e w' ⟨rfl,rfl⟩;go_wp2;go_ret;refine ⟨?_,rfl⟩;simp;omega

theorem yV (x:Nat) (h:x<18446744073709551616):bits .and .u64 (x:Int) 4294967295=((x%4294967296:Nat):Int):=by
 have e:=u64_and_nat x 4294967295 (by omega) (by omega);rw [show (4294967295:Nat)=2^32-1 from rfl,Nat.and_two_pow_sub_one_eq_mod] at e;exact e

theorem CK (hi lo s:Nat) (hs:s<=64) (h1:hi*2^s<18446744073709551616) (h2:lo<18446744073709551616):bits .or .u64 (IntKind.u64.wrap ((hi:Int)*2^s)) ((lo:Int)/2^(64-s))=((hi*2^s+lo/2^(64-s):Nat):Int):=by
 have e1:(hi:Int)*2^s=((hi*2^s:Nat):Int):=by simp
 have e2:(lo:Int)/2^(64-s)=((lo/2^(64-s):Nat):Int):=by simp
 have h3:lo/2^(64-s)<2^s:=by
  rw [cS (aV),<- aO,show s+(64-s)=64 by omega];exact h2
 have h4:lo/2^(64-s)<=lo:=el _ _;rw [e1,e2,IntKind.wrap_u64];have e3:((hi*2^s:Nat):Int)%18446744073709551616=((hi*2^s:Nat):Int):=by omega
 rw [e3,u64_or_nat _ _ (by omega) (by omega),aD hi (2^s),<- ll h3]

theorem fZ {P t R:Nat} (h:P+R=U*4294967296+t) (hR:R<18446744073709551616) :
  ∃ a1 a2 a3:Nat,IntKind.u64.wrap ((U:Int)*4294967296)=(a1:Int)/\IntKind.u64.wrap ((a1:Int)+(t:Int))=(a2:Int)/\IntKind.u64.wrap (P:Int)=(a3:Int)/\IntKind.u64.wrap ((a2:Int)-(a3:Int))=(R:Int):=by
 refine ⟨U*4294967296%18446744073709551616,(U*4294967296+t)%18446744073709551616,P%18446744073709551616,?_,?_,?_,?_⟩ <;> rw [IntKind.wrap_u64] <;> omega

theorem uR {y:Nat} (h0:0<y) (hy:y<18446744073709551616):64-aL y<=63/\y*2^(64-aL y)<18446744073709551616/\9223372036854775808<=y*2^(64-aL y):=by
 have a:aL y<=64:=(bf y 64).2 hy;have h1:¬ aL y<=0:=fun h=>by have:=(bf y 0).1 h;omega
 have h2:=(bf y (aL y)).1 (leR _);have h3:¬ y<2^(aL y-1):=fun h=>by have:=(bf y (aL y-1)).2 h;omega
 refine ⟨by omega,?_,?_⟩
 ·have:y*2^(64-aL y)<2^aL y*2^(64-aL y):=nF h2 (aV)
  rwa [<- aO,show aL y+(64-aL y)=64 by omega] at this
 ·have:2^(aL y-1)*2^(64-aL y)<=y*2^(64-aL y):=cE _ (by omega)
  rwa [<- aO,show aL y-1+(64-aL y)=63 by omega] at this

theorem Ir (lo y:Nat) (hl:lo<18446744073709551616) (h0:0<y) (w:World) :
  ClZ 261 #[.int .u64 0,.int .u64 (lo:Nat),.int .u64 (y:Nat)] w fun e w'=>e=.returned (.tuple #[.int .u64 (lo/y:Nat),.int .u64 (lo%y:Nat)])/\∃ m,w'=w.drewN m:=by
 have g1:((y:Int) == 0)=false:=by simp;omega
 have g2:¬ (y:Int)<=0:=by omega
 obtain ⟨Q,hQ⟩:=aj (lo/y)
 obtain ⟨R,hR⟩:=aj (lo%y)
 have hq:=el lo y;have e1:IntKind.u64.wrap ((lo:Int)/(y:Int))=(Q:Int):=by
  rw [show (lo:Int)/(y:Int)=((lo/y:Nat):Int) by simp,<- hQ,IntKind.wrap_u64];omega
 have e2:(lo:Int)%(y:Int)=(R:Int):=by rw [hR];simp
 rw [<- hQ,<- hR];clear hQ hR hq;delta ClZ;go_in;go_wp2;go_region
 all_goals
  go_wp2;go_ret2;refine ⟨?_,1,rfl⟩;show Ending.returned (.tuple #[.int .u64 (Q:Int),.int .u64 ((lo:Int)%(y:Int))])=_
  rw [e2]

theorem Is (hi lo y:Nat) (hl:lo<18446744073709551616) (hy:y<18446744073709551616) (h0:0<hi) (hlt:hi<y) (w:World) :
  ClZ 261 #[.int .u64 (hi:Nat),.int .u64 (lo:Nat),.int .u64 (y:Nat)] w fun e w'=>e=.returned (.tuple #[.int .u64 ((hi*18446744073709551616+lo)/y:Nat),.int .u64 ((hi*18446744073709551616+lo)%y:Nat)])/\∃ m,w'=w.drewN m:=by
 have g1:((y:Int) == 0)=false:=by simp;omega
 have g2:¬ (y:Int)<=(hi:Int):=by omega
 have g3:((hi:Int) == 0)=false:=by simp;omega
 have hZ:=bLz y hy;obtain ⟨f1,f2,f3⟩:=uR (y:=y) (by omega) hy;generalize 64-aL y=s at *;obtain ⟨Y,hY⟩:=aj (y*2^s)
 have e1:IntKind.u64.wrap ((y:Int)*2^s)=(Y:Int):=by
  rw [show (y:Int)*2^s=((y*2^s:Nat):Int) by simp,<- hY,IntKind.wrap_u64];omega
 have aa:0<2^s:=aV;have ao:hi*2^s<y*2^s:=nF hlt aa;rw [<- hY] at f2 f3 ao;obtain ⟨U,hU⟩:=aj (hi*2^s+lo/2^(64-s))
 obtain ⟨T,hT⟩:=aj (lo*2^s%18446744073709551616)
 have eU:bits .or .u64 (IntKind.u64.wrap ((hi:Int)*2^s)) ((lo:Int)/2^(64-s))=(U:Int):=by rw [hU];exact CK hi lo s (by omega) (by omega) hl
 have eT:IntKind.u64.wrap ((lo:Int)*2^s)=(T:Int):=by
  rw [show (lo:Int)*2^s=((lo*2^s:Nat):Int) by simp,IntKind.wrap_u64];omega
 have hN:(hi*18446744073709551616+lo)*2^s=U*18446744073709551616+T:=by
  have h5:lo/2^(64-s)=lo*2^s/18446744073709551616:=by
   rw [show (18446744073709551616:Nat)=2^(64-s)*2^s by rw [<- aO,show 64-s+s=64 by omega],Nat.mul_div_mul_right _ _ aa]
  rw [hU,h5,hT,dn,dn,Nat.mul_right_comm hi 18446744073709551616];generalize lo*2^s=z;omega
 have an:U<Y:=by
  have h6:(hi*18446744073709551616+lo)*2^s<(y*18446744073709551616)*2^s:=nF (by omega) aa;rw [hN,Nat.mul_right_comm,<- hY] at h6;omega
 have am:T<18446744073709551616:=by rw [hT];exact bk
 obtain ⟨QQ,ab⟩:=aj ((hi*18446744073709551616+lo)/y)
 obtain ⟨RR,ai⟩:=aj ((hi*18446744073709551616+lo)%y)
 obtain ⟨d1,d2⟩:=oU (M:=hi*18446744073709551616+lo) (y:=y) aa;rw [hN,<- hY,<- ab] at d1;rw [hN,<- hY,<- ai] at d2;rw [<- ab,<- ai];have az:QQ<18446744073709551616:=by
  rw [ab,cS (by omega)];have:(hi+1)*18446744073709551616<=y*18446744073709551616:=cE _ hlt;omega
 have D1:=af d1;obtain ⟨y1,aC⟩:=aj (Y/4294967296)
 obtain ⟨y0,aq⟩:=aj (Y%4294967296)
 obtain ⟨t1,aB⟩:=aj (T/4294967296)
 obtain ⟨t0,ap⟩:=aj (T%4294967296)
 have e2:(Y:Int)/4294967296=(y1:Int):=by omega
 have e3:bits .and .u64 (Y:Int) 4294967295=(y0:Int):=by rw [aq];exact yV Y f2
 have e4:(T:Int)/4294967296=(t1:Int):=by omega
 have e5:bits .and .u64 (T:Int) 4294967295=(t0:Int):=by rw [ap];exact yV T am
 have b1:y1<4294967296:=by omega
 have aD:2147483648<=y1:=by omega
 have b0:y0<4294967296:=by omega
 have c1:t1<4294967296:=by omega
 have c0:t0<4294967296:=by omega
 have i:HzD (y1*4294967296+y0=Y):=by unfold HzD;omega
 have P:HzD (U*18446744073709551616+T=(U*4294967296+t1)*4294967296+t0):=by unfold HzD;omega
 have ag:=af an;have aF:U<18446744073709551616:=by omega
 obtain ⟨R1,ac⟩:=aj ((U*4294967296+t1)%Y)
 obtain ⟨R2,ad⟩:=aj ((R1*4294967296+t0)%Y)
 have t:R1<Y:=by rw [ac];exact bk
 have aA:R2<Y:=by rw [ad];exact bk
 have L:=af ac;have Q:=af ad;have aE:(R2:Int)/2^s=(RR:Int):=by
  have:=(fA (B:=4294967296) (U:=U) (u:=t1) (v:=t0) (Y:=Y) (by omega) rfl rfl).2;rw [<- ac,<- ad,<- P.o] at this;rw [<- this] at d2;rw [show (R2:Int)/2^s=((R2/2^s:Nat):Int) by simp,d2]
 clear aC aq aB ap hU hT hN am ao ab ai hY d1 d2 aa ac ad an;obtain ⟨Q1,Z⟩:=aj (U/y1)
 obtain ⟨M1,ah⟩:=aj (Q1*y1)
 obtain ⟨r1,ae⟩:=aj (U%y1)
 have aI:IntKind.u64.wrap ((U:Int)/(y1:Int))=(Q1:Int):=by
  have:=el U y1;rw [<- Z] at this;rw [show (U:Int)/(y1:Int)=((U/y1:Nat):Int) by simp,<- Z,IntKind.wrap_u64];omega
 have av:=ef U y1;rw [<- Z,<- ah,<- ae] at av;have aH:IntKind.u64.wrap ((Q1:Int)*(y1:Int))=(M1:Int):=by
  rw [show (Q1:Int)*(y1:Int)=((Q1*y1:Nat):Int) by simp,<- ah,IntKind.wrap_u64];omega
 have aJ:IntKind.u64.wrap ((U:Int)-(M1:Int))=(r1:Int):=eE
 have aG:r1<y1:=by rw [ae];exact bk
 have al:HzD (Gss 4294967296 U t1 y1 y0 Q1 r1):=by
  unfold HzD;rw [Z,ae];exact Gss.start (by omega) (by omega) (by omega) b0 (by rw [i.o];exact ag.o)
 clear Z ae ah av;delta ClZ;go_in;go_wp2_with fail;refine (hZ _).mono ?_;rintro e w' ⟨rfl,rfl⟩;clear hZ;go_wp2_with fail;go_loop [15,16] (fun a b=>∃ q r:Nat,a=.int .u64 (q:Int)/\b=.int .u64 (r:Int)/\r<4294967296/\HzD (Gss 4294967296 U t1 y1 y0 q r)) (fun a _=>(intOf a).toNat)
 case atStart=>exact ⟨Q1,r1,rfl,rfl,by omega,al⟩
 case round=>
  clear al;obtain ⟨q,r,rfl,rfl,ak,hG⟩:=hrel;have G:=hG.o.le;by_cases hq:q<4294967296
  ·have k1:¬ (4294967296:Int)<=(q:Int):=by omega
   obtain ⟨qy,k⟩:=aj (q*y0)
   have p:qy<=4294967295*4294967295:=by rw [k];exact er (by omega) (by omega)
   have k2:IntKind.u64.wrap ((q:Int)*(y0:Int))=(qy:Int):=by
    rw [show (q:Int)*(y0:Int)=((q*y0:Nat):Int) by simp,<- k,IntKind.wrap_u64];omega
   obtain ⟨br,x⟩:=aj (4294967296*r)
   have k3:IntKind.u64.wrap (4294967296*(r:Int))=(br:Int):=eE
   obtain ⟨bt,A⟩:=aj (br+t1)
   have k4:IntKind.u64.wrap ((br:Int)+(t1:Int))=(bt:Int):=eE
   by_cases hc:bt<qy
   ·have k5:(bt:Int)<(qy:Int):=by omega
    obtain ⟨F,l⟩:=hG.o.next (by omega) (by rw [i.o];exact ag.o) (.inr (by rw [<- k,<- x,<- A];exact hc));have g:=af l;obtain ⟨q',o⟩:∃ q',q=q'+1:=⟨q-1,by omega⟩
    rw [show q-1=q' by omega] at g;have H:q'<=4294967296:=by omega
    have k8:IntKind.u64.wrap ((q:Int)-1)=(q':Int):=eE
    have HQ:=af o;clear o;clear hG l k x A p G F hq ;obtain ⟨r2,j⟩:=aj (r+y1)
    have k6:IntKind.u64.wrap ((r:Int)+(y1:Int))=(r2:Int):=eE
    rw [<- j] at g;by_cases hov:r2<4294967296
    ·have k7:¬ (4294967296:Int)<=(r2:Int):=by omega
     clear j;go_wp2_with fail;go_round
     case rel=>exact ⟨q',r2,rfl,rfl,hov,g⟩
     case measure=>have:=HQ.o;simp [intOf];omega
    ·have k7:(4294967296:Int)<=(r2:Int):=by omega
     have d:=g.o.stop (by rw [i.o];omega) (Gss.over (by omega) b0 (by omega));rw [i.o] at d;clear j g;have I:=ef (U*4294967296+t1) Y;rw [<- d,<- L.o] at I;obtain ⟨p1,n⟩:=aj (q'*Y)
     rw [<- n] at I;obtain ⟨a1,a2,a3,m1,m2,m3,m4⟩:=fZ I (by omega);have ar:IntKind.u64.wrap ((q':Int)*(Y:Int))=(a3:Int):=by rw [<- m3,n];try simp
     have N:=af d;clear I n m3 d;obtain ⟨Q0,D⟩:=aj (R1/y1)
     obtain ⟨M0,O⟩:=aj (Q0*y1)
     obtain ⟨r0,J⟩:=aj (R1%y1)
     have ax:IntKind.u64.wrap ((R1:Int)/(y1:Int))=(Q0:Int):=by
      have:=el R1 y1;rw [<- D] at this;rw [show (R1:Int)/(y1:Int)=((R1/y1:Nat):Int) by simp,<- D,IntKind.wrap_u64];omega
     have X:=ef R1 y1;rw [<- D,<- O,<- J] at X;have aw:IntKind.u64.wrap ((Q0:Int)*(y1:Int))=(M0:Int):=by
      rw [show (Q0:Int)*(y1:Int)=((Q0*y1:Nat):Int) by simp,<- O,IntKind.wrap_u64];omega
     have ay:IntKind.u64.wrap ((R1:Int)-(M0:Int))=(r0:Int):=eE
     have au:r0<y1:=by rw [J];exact bk
     have R:HzD (Gss 4294967296 R1 t0 y1 y0 Q0 r0):=by
      unfold HzD;rw [D,J];exact Gss.start (by omega) (by omega) (by omega) b0 (by rw [i.o];exact t)
     clear D J O X;go_wp2_with fail;generalize q'=qa at *;go_loop [18,16] (fun a b=>∃ q r:Nat,a=.int .u64 (q:Int)/\b=.int .u64 (r:Int)/\r<4294967296/\HzD (Gss 4294967296 R1 t0 y1 y0 q r)) (fun a _=>(intOf a).toNat)
     case atStart=>exact ⟨Q0,r0,rfl,rfl,by omega,R⟩
     case round=>
      clear R;obtain ⟨q,r,rfl,rfl,ak,hG⟩:=hrel;have G:=hG.o.le;by_cases hq:q<4294967296
      ·have k1:¬ (4294967296:Int)<=(q:Int):=by omega
       obtain ⟨qy,k⟩:=aj (q*y0)
       have p:qy<=4294967295*4294967295:=by rw [k];exact er (by omega) (by omega)
       have k2:IntKind.u64.wrap ((q:Int)*(y0:Int))=(qy:Int):=by
        rw [show (q:Int)*(y0:Int)=((q*y0:Nat):Int) by simp,<- k,IntKind.wrap_u64];omega
       obtain ⟨br,x⟩:=aj (4294967296*r)
       have k3:IntKind.u64.wrap (4294967296*(r:Int))=(br:Int):=eE
       obtain ⟨bt,A⟩:=aj (br+t0)
       have k4:IntKind.u64.wrap ((br:Int)+(t0:Int))=(bt:Int):=eE
       by_cases hc:bt<qy
       ·have k5:(bt:Int)<(qy:Int):=by omega
        obtain ⟨F,l⟩:=hG.o.next (by omega) (by rw [i.o];exact t) (.inr (by rw [<- k,<- x,<- A];exact hc));have g:=af l;obtain ⟨q',o⟩:∃ q',q=q'+1:=⟨q-1,by omega⟩
        rw [show q-1=q' by omega] at g;have H:q'<=4294967296:=by omega
        have k8:IntKind.u64.wrap ((q:Int)-1)=(q':Int):=eE
        have HQ:=af o;clear o;clear hG l k x A p G F hq ;obtain ⟨r2,j⟩:=aj (r+y1)
        have k6:IntKind.u64.wrap ((r:Int)+(y1:Int))=(r2:Int):=eE
        rw [<- j] at g;by_cases hov:r2<4294967296
        ·have k7:¬ (4294967296:Int)<=(r2:Int):=by omega
         clear j;go_wp2_with fail;go_round
         case rel=>exact ⟨q',r2,rfl,rfl,hov,g⟩
         case measure=>have:=HQ.o;simp [intOf];omega
        ·have k7:(4294967296:Int)<=(r2:Int):=by omega
         have d:=g.o.stop (by rw [i.o];omega) (Gss.over (by omega) b0 (by omega));rw [i.o] at d;clear j g;have h:=ef (R1*4294967296+t0) Y;rw [<- d,<- Q.o] at h;obtain ⟨p0,c⟩:=aj (q'*Y)
         rw [<- c] at h;obtain ⟨S,V,C,n1,n2,n3,n4⟩:=fZ h (by omega);have W:IntKind.u64.wrap ((q':Int)*(Y:Int))=(C:Int):=by rw [<- n3,c];try simp
         have f:=(fA (B:=4294967296) (U:=U) (u:=t1) (v:=t0) (Y:=Y) (q0:=q') (by omega) N.o (by rw [<- L.o];exact d)).1;rw [<- P.o,D1.o] at f;obtain ⟨qs,E⟩:=aj (qa*4294967296)
         have n5:IntKind.u64.wrap ((qa:Int)*4294967296)=(qs:Int):=eE
         have n6:IntKind.u64.wrap ((qs:Int)+(q':Int))=(QQ:Int):=eE
         clear h c d f E n3;go_wp2_with fail;go_ret2;exact ⟨rfl,0,rfl⟩
       ·have k5:¬ (bt:Int)<(qy:Int):=by omega
        have d:=hG.o.stop (by rw [i.o];omega) (by rw [<- k,<- x,<- A];omega);rw [i.o] at d;clear hG k x A p G;have h:=ef (R1*4294967296+t0) Y;rw [<- d,<- Q.o] at h;obtain ⟨p0,c⟩:=aj (q*Y)
        rw [<- c] at h;obtain ⟨S,V,C,n1,n2,n3,n4⟩:=fZ h (by omega);have W:IntKind.u64.wrap ((q:Int)*(Y:Int))=(C:Int):=by rw [<- n3,c];try simp
        have f:=(fA (B:=4294967296) (U:=U) (u:=t1) (v:=t0) (Y:=Y) (q0:=q) (by omega) N.o (by rw [<- L.o];exact d)).1;rw [<- P.o,D1.o] at f;obtain ⟨qs,E⟩:=aj (qa*4294967296)
        have n5:IntKind.u64.wrap ((qa:Int)*4294967296)=(qs:Int):=eE
        have n6:IntKind.u64.wrap ((qs:Int)+(q:Int))=(QQ:Int):=eE
        clear h c d f E n3;go_wp2_with fail;go_ret2;exact ⟨rfl,0,rfl⟩
      ·have k1:(4294967296:Int)<=(q:Int):=by omega
       obtain ⟨F,l⟩:=hG.o.next (by omega) (by rw [i.o];exact t) (.inl (by omega));have g:=af l;obtain ⟨q',o⟩:∃ q',q=q'+1:=⟨q-1,by omega⟩
       rw [show q-1=q' by omega] at g;have H:q'<=4294967296:=by omega
       have k8:IntKind.u64.wrap ((q:Int)-1)=(q':Int):=eE
       have HQ:=af o;clear o;clear hG l G F;obtain ⟨r2,j⟩:=aj (r+y1)
       have k6:IntKind.u64.wrap ((r:Int)+(y1:Int))=(r2:Int):=eE
       rw [<- j] at g;by_cases hov:r2<4294967296
       ·have k7:¬ (4294967296:Int)<=(r2:Int):=by omega
        clear j;go_wp2_with fail;go_round
        case rel=>exact ⟨q',r2,rfl,rfl,hov,g⟩
        case measure=>have:=HQ.o;simp [intOf];omega
       ·have k7:(4294967296:Int)<=(r2:Int):=by omega
        have d:=g.o.stop (by rw [i.o];omega) (Gss.over (by omega) b0 (by omega));rw [i.o] at d;clear j g;have h:=ef (R1*4294967296+t0) Y;rw [<- d,<- Q.o] at h;obtain ⟨p0,c⟩:=aj (q'*Y)
        rw [<- c] at h;obtain ⟨S,V,C,n1,n2,n3,n4⟩:=fZ h (by omega);have W:IntKind.u64.wrap ((q':Int)*(Y:Int))=(C:Int):=by rw [<- n3,c];try simp
        have f:=(fA (B:=4294967296) (U:=U) (u:=t1) (v:=t0) (Y:=Y) (q0:=q') (by omega) N.o (by rw [<- L.o];exact d)).1;rw [<- P.o,D1.o] at f;obtain ⟨qs,E⟩:=aj (qa*4294967296)
        have n5:IntKind.u64.wrap ((qa:Int)*4294967296)=(qs:Int):=eE
        have n6:IntKind.u64.wrap ((qs:Int)+(q':Int))=(QQ:Int):=eE
        clear h c d f E n3;go_wp2_with fail;go_ret2;exact ⟨rfl,0,rfl⟩
   ·have k5:¬ (bt:Int)<(qy:Int):=by omega
    have d:=hG.o.stop (by rw [i.o];omega) (by rw [<- k,<- x,<- A];omega);rw [i.o] at d;clear hG k x A p G;have I:=ef (U*4294967296+t1) Y;rw [<- d,<- L.o] at I;obtain ⟨p1,n⟩:=aj (q*Y)
    rw [<- n] at I;obtain ⟨a1,a2,a3,m1,m2,m3,m4⟩:=fZ I (by omega);have ar:IntKind.u64.wrap ((q:Int)*(Y:Int))=(a3:Int):=by rw [<- m3,n];try simp
    have N:=af d;clear I n m3 d;obtain ⟨Q0,D⟩:=aj (R1/y1)
    obtain ⟨M0,O⟩:=aj (Q0*y1)
    obtain ⟨r0,J⟩:=aj (R1%y1)
    have ax:IntKind.u64.wrap ((R1:Int)/(y1:Int))=(Q0:Int):=by
     have:=el R1 y1;rw [<- D] at this;rw [show (R1:Int)/(y1:Int)=((R1/y1:Nat):Int) by simp,<- D,IntKind.wrap_u64];omega
    have X:=ef R1 y1;rw [<- D,<- O,<- J] at X;have aw:IntKind.u64.wrap ((Q0:Int)*(y1:Int))=(M0:Int):=by
     rw [show (Q0:Int)*(y1:Int)=((Q0*y1:Nat):Int) by simp,<- O,IntKind.wrap_u64];omega
    have ay:IntKind.u64.wrap ((R1:Int)-(M0:Int))=(r0:Int):=eE
    have au:r0<y1:=by rw [J];exact bk
    have R:HzD (Gss 4294967296 R1 t0 y1 y0 Q0 r0):=by
     unfold HzD;rw [D,J];exact Gss.start (by omega) (by omega) (by omega) b0 (by rw [i.o];exact t)
    clear D J O X;go_wp2_with fail;generalize q=qa at *;go_loop [18,16] (fun a b=>∃ q r:Nat,a=.int .u64 (q:Int)/\b=.int .u64 (r:Int)/\r<4294967296/\HzD (Gss 4294967296 R1 t0 y1 y0 q r)) (fun a _=>(intOf a).toNat)
    case atStart=>exact ⟨Q0,r0,rfl,rfl,by omega,R⟩
    case round=>
     clear R;obtain ⟨q,r,rfl,rfl,ak,hG⟩:=hrel;have G:=hG.o.le;by_cases hq:q<4294967296
     ·have k1:¬ (4294967296:Int)<=(q:Int):=by omega
      obtain ⟨qy,k⟩:=aj (q*y0)
      have p:qy<=4294967295*4294967295:=by rw [k];exact er (by omega) (by omega)
      have k2:IntKind.u64.wrap ((q:Int)*(y0:Int))=(qy:Int):=by
       rw [show (q:Int)*(y0:Int)=((q*y0:Nat):Int) by simp,<- k,IntKind.wrap_u64];omega
      obtain ⟨br,x⟩:=aj (4294967296*r)
      have k3:IntKind.u64.wrap (4294967296*(r:Int))=(br:Int):=eE
      obtain ⟨bt,A⟩:=aj (br+t0)
      have k4:IntKind.u64.wrap ((br:Int)+(t0:Int))=(bt:Int):=eE
      by_cases hc:bt<qy
      ·have k5:(bt:Int)<(qy:Int):=by omega
       obtain ⟨F,l⟩:=hG.o.next (by omega) (by rw [i.o];exact t) (.inr (by rw [<- k,<- x,<- A];exact hc));have g:=af l;obtain ⟨q',o⟩:∃ q',q=q'+1:=⟨q-1,by omega⟩
       rw [show q-1=q' by omega] at g;have H:q'<=4294967296:=by omega
       have k8:IntKind.u64.wrap ((q:Int)-1)=(q':Int):=eE
       have HQ:=af o;clear o;clear hG l k x A p G F hq ;obtain ⟨r2,j⟩:=aj (r+y1)
       have k6:IntKind.u64.wrap ((r:Int)+(y1:Int))=(r2:Int):=eE
       rw [<- j] at g;by_cases hov:r2<4294967296
       ·have k7:¬ (4294967296:Int)<=(r2:Int):=by omega
        clear j;go_wp2_with fail;go_round
        case rel=>exact ⟨q',r2,rfl,rfl,hov,g⟩
        case measure=>have:=HQ.o;simp [intOf];omega
       ·have k7:(4294967296:Int)<=(r2:Int):=by omega
        have d:=g.o.stop (by rw [i.o];omega) (Gss.over (by omega) b0 (by omega));rw [i.o] at d;clear j g;have h:=ef (R1*4294967296+t0) Y;rw [<- d,<- Q.o] at h;obtain ⟨p0,c⟩:=aj (q'*Y)
        rw [<- c] at h;obtain ⟨S,V,C,n1,n2,n3,n4⟩:=fZ h (by omega);have W:IntKind.u64.wrap ((q':Int)*(Y:Int))=(C:Int):=by rw [<- n3,c];try simp
        have f:=(fA (B:=4294967296) (U:=U) (u:=t1) (v:=t0) (Y:=Y) (q0:=q') (by omega) N.o (by rw [<- L.o];exact d)).1;rw [<- P.o,D1.o] at f;obtain ⟨qs,E⟩:=aj (qa*4294967296)
        have n5:IntKind.u64.wrap ((qa:Int)*4294967296)=(qs:Int):=eE
        have n6:IntKind.u64.wrap ((qs:Int)+(q':Int))=(QQ:Int):=eE
        clear h c d f E n3;go_wp2_with fail;go_ret2;exact ⟨rfl,0,rfl⟩
      ·have k5:¬ (bt:Int)<(qy:Int):=by omega
       have d:=hG.o.stop (by rw [i.o];omega) (by rw [<- k,<- x,<- A];omega);rw [i.o] at d;clear hG k x A p G;have h:=ef (R1*4294967296+t0) Y;rw [<- d,<- Q.o] at h;obtain ⟨p0,c⟩:=aj (q*Y)
       rw [<- c] at h;obtain ⟨S,V,C,n1,n2,n3,n4⟩:=fZ h (by omega);have W:IntKind.u64.wrap ((q:Int)*(Y:Int))=(C:Int):=by rw [<- n3,c];try simp
       have f:=(fA (B:=4294967296) (U:=U) (u:=t1) (v:=t0) (Y:=Y) (q0:=q) (by omega) N.o (by rw [<- L.o];exact d)).1;rw [<- P.o,D1.o] at f;obtain ⟨qs,E⟩:=aj (qa*4294967296)
       have n5:IntKind.u64.wrap ((qa:Int)*4294967296)=(qs:Int):=eE
       have n6:IntKind.u64.wrap ((qs:Int)+(q:Int))=(QQ:Int):=eE
       clear h c d f E n3;go_wp2_with fail;go_ret2;exact ⟨rfl,0,rfl⟩
     ·have k1:(4294967296:Int)<=(q:Int):=by omega
      obtain ⟨F,l⟩:=hG.o.next (by omega) (by rw [i.o];exact t) (.inl (by omega));have g:=af l;obtain ⟨q',o⟩:∃ q',q=q'+1:=⟨q-1,by omega⟩
      rw [show q-1=q' by omega] at g;have H:q'<=4294967296:=by omega
      have k8:IntKind.u64.wrap ((q:Int)-1)=(q':Int):=eE
      have HQ:=af o;clear o;clear hG l G F;obtain ⟨r2,j⟩:=aj (r+y1)
      have k6:IntKind.u64.wrap ((r:Int)+(y1:Int))=(r2:Int):=eE
      rw [<- j] at g;by_cases hov:r2<4294967296
      ·have k7:¬ (4294967296:Int)<=(r2:Int):=by omega
       clear j;go_wp2_with fail;go_round
       case rel=>exact ⟨q',r2,rfl,rfl,hov,g⟩
       case measure=>have:=HQ.o;simp [intOf];omega
      ·have k7:(4294967296:Int)<=(r2:Int):=by omega
       have d:=g.o.stop (by rw [i.o];omega) (Gss.over (by omega) b0 (by omega));rw [i.o] at d;clear j g;have h:=ef (R1*4294967296+t0) Y;rw [<- d,<- Q.o] at h;obtain ⟨p0,c⟩:=aj (q'*Y)
       rw [<- c] at h;obtain ⟨S,V,C,n1,n2,n3,n4⟩:=fZ h (by omega);have W:IntKind.u64.wrap ((q':Int)*(Y:Int))=(C:Int):=by rw [<- n3,c];try simp
       have f:=(fA (B:=4294967296) (U:=U) (u:=t1) (v:=t0) (Y:=Y) (q0:=q') (by omega) N.o (by rw [<- L.o];exact d)).1;rw [<- P.o,D1.o] at f;obtain ⟨qs,E⟩:=aj (qa*4294967296)
       have n5:IntKind.u64.wrap ((qa:Int)*4294967296)=(qs:Int):=eE
       have n6:IntKind.u64.wrap ((qs:Int)+(q':Int))=(QQ:Int):=eE
       clear h c d f E n3;go_wp2_with fail;go_ret2;exact ⟨rfl,0,rfl⟩
  ·have k1:(4294967296:Int)<=(q:Int):=by omega
   obtain ⟨F,l⟩:=hG.o.next (by omega) (by rw [i.o];exact ag.o) (.inl (by omega));have g:=af l;obtain ⟨q',o⟩:∃ q',q=q'+1:=⟨q-1,by omega⟩
   rw [show q-1=q' by omega] at g;have H:q'<=4294967296:=by omega
   have k8:IntKind.u64.wrap ((q:Int)-1)=(q':Int):=eE
   have HQ:=af o;clear o;clear hG l G F;obtain ⟨r2,j⟩:=aj (r+y1)
   have k6:IntKind.u64.wrap ((r:Int)+(y1:Int))=(r2:Int):=eE
   rw [<- j] at g;by_cases hov:r2<4294967296
   ·have k7:¬ (4294967296:Int)<=(r2:Int):=by omega
    clear j;go_wp2_with fail;go_round
    case rel=>exact ⟨q',r2,rfl,rfl,hov,g⟩
    case measure=>have:=HQ.o;simp [intOf];omega
   ·have k7:(4294967296:Int)<=(r2:Int):=by omega
    have d:=g.o.stop (by rw [i.o];omega) (Gss.over (by omega) b0 (by omega));rw [i.o] at d;clear j g;have I:=ef (U*4294967296+t1) Y;rw [<- d,<- L.o] at I;obtain ⟨p1,n⟩:=aj (q'*Y)
    rw [<- n] at I;obtain ⟨a1,a2,a3,m1,m2,m3,m4⟩:=fZ I (by omega);have ar:IntKind.u64.wrap ((q':Int)*(Y:Int))=(a3:Int):=by rw [<- m3,n];try simp
    have N:=af d;clear I n m3 d;obtain ⟨Q0,D⟩:=aj (R1/y1)
    obtain ⟨M0,O⟩:=aj (Q0*y1)
    obtain ⟨r0,J⟩:=aj (R1%y1)
    have ax:IntKind.u64.wrap ((R1:Int)/(y1:Int))=(Q0:Int):=by
     have:=el R1 y1;rw [<- D] at this;rw [show (R1:Int)/(y1:Int)=((R1/y1:Nat):Int) by simp,<- D,IntKind.wrap_u64];omega
    have X:=ef R1 y1;rw [<- D,<- O,<- J] at X;have aw:IntKind.u64.wrap ((Q0:Int)*(y1:Int))=(M0:Int):=by
     rw [show (Q0:Int)*(y1:Int)=((Q0*y1:Nat):Int) by simp,<- O,IntKind.wrap_u64];omega
    have ay:IntKind.u64.wrap ((R1:Int)-(M0:Int))=(r0:Int):=eE
    have au:r0<y1:=by rw [J];exact bk
    have R:HzD (Gss 4294967296 R1 t0 y1 y0 Q0 r0):=by
     unfold HzD;rw [D,J];exact Gss.start (by omega) (by omega) (by omega) b0 (by rw [i.o];exact t)
    clear D J O X;go_wp2_with fail;generalize q'=qa at *;go_loop [18,16] (fun a b=>∃ q r:Nat,a=.int .u64 (q:Int)/\b=.int .u64 (r:Int)/\r<4294967296/\HzD (Gss 4294967296 R1 t0 y1 y0 q r)) (fun a _=>(intOf a).toNat)
    case atStart=>exact ⟨Q0,r0,rfl,rfl,by omega,R⟩
    case round=>
     clear R;obtain ⟨q,r,rfl,rfl,ak,hG⟩:=hrel;have G:=hG.o.le;by_cases hq:q<4294967296
     ·have k1:¬ (4294967296:Int)<=(q:Int):=by omega
      obtain ⟨qy,k⟩:=aj (q*y0)
      have p:qy<=4294967295*4294967295:=by rw [k];exact er (by omega) (by omega)
      have k2:IntKind.u64.wrap ((q:Int)*(y0:Int))=(qy:Int):=by
       rw [show (q:Int)*(y0:Int)=((q*y0:Nat):Int) by simp,<- k,IntKind.wrap_u64];omega
      obtain ⟨br,x⟩:=aj (4294967296*r)
      have k3:IntKind.u64.wrap (4294967296*(r:Int))=(br:Int):=eE
      obtain ⟨bt,A⟩:=aj (br+t0)
      have k4:IntKind.u64.wrap ((br:Int)+(t0:Int))=(bt:Int):=eE
      by_cases hc:bt<qy
      ·have k5:(bt:Int)<(qy:Int):=by omega
       obtain ⟨F,l⟩:=hG.o.next (by omega) (by rw [i.o];exact t) (.inr (by rw [<- k,<- x,<- A];exact hc));have g:=af l;obtain ⟨q',o⟩:∃ q',q=q'+1:=⟨q-1,by omega⟩
       rw [show q-1=q' by omega] at g;have H:q'<=4294967296:=by omega
       have k8:IntKind.u64.wrap ((q:Int)-1)=(q':Int):=eE
       have HQ:=af o;clear o;clear hG l k x A p G F hq ;obtain ⟨r2,j⟩:=aj (r+y1)
       have k6:IntKind.u64.wrap ((r:Int)+(y1:Int))=(r2:Int):=eE
       rw [<- j] at g;by_cases hov:r2<4294967296
       ·have k7:¬ (4294967296:Int)<=(r2:Int):=by omega
        clear j;go_wp2_with fail;go_round
        case rel=>exact ⟨q',r2,rfl,rfl,hov,g⟩
        case measure=>have:=HQ.o;simp [intOf];omega
       ·have k7:(4294967296:Int)<=(r2:Int):=by omega
        have d:=g.o.stop (by rw [i.o];omega) (Gss.over (by omega) b0 (by omega));rw [i.o] at d;clear j g;have h:=ef (R1*4294967296+t0) Y;rw [<- d,<- Q.o] at h;obtain ⟨p0,c⟩:=aj (q'*Y)
        rw [<- c] at h;obtain ⟨S,V,C,n1,n2,n3,n4⟩:=fZ h (by omega);have W:IntKind.u64.wrap ((q':Int)*(Y:Int))=(C:Int):=by rw [<- n3,c];try simp
        have f:=(fA (B:=4294967296) (U:=U) (u:=t1) (v:=t0) (Y:=Y) (q0:=q') (by omega) N.o (by rw [<- L.o];exact d)).1;rw [<- P.o,D1.o] at f;obtain ⟨qs,E⟩:=aj (qa*4294967296)
        have n5:IntKind.u64.wrap ((qa:Int)*4294967296)=(qs:Int):=eE
        have n6:IntKind.u64.wrap ((qs:Int)+(q':Int))=(QQ:Int):=eE
        clear h c d f E n3;go_wp2_with fail;go_ret2;exact ⟨rfl,0,rfl⟩
      ·have k5:¬ (bt:Int)<(qy:Int):=by omega
       have d:=hG.o.stop (by rw [i.o];omega) (by rw [<- k,<- x,<- A];omega);rw [i.o] at d;clear hG k x A p G;have h:=ef (R1*4294967296+t0) Y;rw [<- d,<- Q.o] at h;obtain ⟨p0,c⟩:=aj (q*Y)
       rw [<- c] at h;obtain ⟨S,V,C,n1,n2,n3,n4⟩:=fZ h (by omega);have W:IntKind.u64.wrap ((q:Int)*(Y:Int))=(C:Int):=by rw [<- n3,c];try simp
       have f:=(fA (B:=4294967296) (U:=U) (u:=t1) (v:=t0) (Y:=Y) (q0:=q) (by omega) N.o (by rw [<- L.o];exact d)).1;rw [<- P.o,D1.o] at f;obtain ⟨qs,E⟩:=aj (qa*4294967296)
       have n5:IntKind.u64.wrap ((qa:Int)*4294967296)=(qs:Int):=eE
       have n6:IntKind.u64.wrap ((qs:Int)+(q:Int))=(QQ:Int):=eE
       clear h c d f E n3;go_wp2_with fail;go_ret2;exact ⟨rfl,0,rfl⟩
     ·have k1:(4294967296:Int)<=(q:Int):=by omega
      obtain ⟨F,l⟩:=hG.o.next (by omega) (by rw [i.o];exact t) (.inl (by omega));have g:=af l;obtain ⟨q',o⟩:∃ q',q=q'+1:=⟨q-1,by omega⟩
      rw [show q-1=q' by omega] at g;have H:q'<=4294967296:=by omega
      have k8:IntKind.u64.wrap ((q:Int)-1)=(q':Int):=eE
      have HQ:=af o;clear o;clear hG l G F;obtain ⟨r2,j⟩:=aj (r+y1)
      have k6:IntKind.u64.wrap ((r:Int)+(y1:Int))=(r2:Int):=eE
      rw [<- j] at g;by_cases hov:r2<4294967296
      ·have k7:¬ (4294967296:Int)<=(r2:Int):=by omega
       clear j;go_wp2_with fail;go_round
       case rel=>exact ⟨q',r2,rfl,rfl,hov,g⟩
       case measure=>have:=HQ.o;simp [intOf];omega
      ·have k7:(4294967296:Int)<=(r2:Int):=by omega
       have d:=g.o.stop (by rw [i.o];omega) (Gss.over (by omega) b0 (by omega));rw [i.o] at d;clear j g;have h:=ef (R1*4294967296+t0) Y;rw [<- d,<- Q.o] at h;obtain ⟨p0,c⟩:=aj (q'*Y)
       rw [<- c] at h;obtain ⟨S,V,C,n1,n2,n3,n4⟩:=fZ h (by omega);have W:IntKind.u64.wrap ((q':Int)*(Y:Int))=(C:Int):=by rw [<- n3,c];try simp
       have f:=(fA (B:=4294967296) (U:=U) (u:=t1) (v:=t0) (Y:=Y) (q0:=q') (by omega) N.o (by rw [<- L.o];exact d)).1;rw [<- P.o,D1.o] at f;obtain ⟨qs,E⟩:=aj (qa*4294967296)
       have n5:IntKind.u64.wrap ((qa:Int)*4294967296)=(qs:Int):=eE
       have n6:IntKind.u64.wrap ((qs:Int)+(q':Int))=(QQ:Int):=eE
       clear h c d f E n3;go_wp2_with fail;go_ret2;exact ⟨rfl,0,rfl⟩

theorem Iq (hi lo y:Nat) (hl:lo<18446744073709551616) (hy:y<18446744073709551616) (hlt:hi<y) (w:World) :
  ClZ 261 #[.int .u64 (hi:Nat),.int .u64 (lo:Nat),.int .u64 (y:Nat)] w fun e w'=>e=.returned (.tuple #[.int .u64 ((hi*18446744073709551616+lo)/y:Nat),.int .u64 ((hi*18446744073709551616+lo)%y:Nat)])/\∃ m,w'=w.drewN m:=by
 rcases cD hi with h | h
 ·subst h;have:=Ir lo y hl (by omega) w;simpa using this
 ·exact Is hi lo y hl hy h hlt w

theorem fU (h:j<zs.length):val (zs.drop j) B=zs.getD j 0+B*val (zs.drop (j+1)) B:=by
 rw [eF h,ay,aS h];rfl

theorem Aw {a:LN} {i d:Nat} (hi:i<a.length) (h:d*val qs B+r=val (a.drop (i+1)) B) :
  d*val ((r*B+a.getD i 0)/d :: qs) B+(r*B+a.getD i 0)%d=val (a.drop i) B:=by
 rw [fU hi,<- h];simp only [val];generalize a.getD i 0=x;have e:=dz (r*B+x) d;rw [aI,iE d B,aI,aD B r];omega

theorem oT (h:j<zs.length):(zs.take (j+1) ++ qs).set j q=zs.take j ++ q :: qs:=by
 rw [List.set_append_left _ _ (by rw [aQ];omega),ml h,iq _ _ (by rw [aQ];omega),aQ,show j-min j zs.length=0 by omega];simp

theorem Jf (g base L cp:Nat) (ao:OA) (n:Nat) (xs zs:LN) (X D R:Nat) (hX:X=val xs) (hR:R=X%D) (hD:D<18446744073709551616) (o:0<D) (w:World) (ho:OwnN .u64 24 w base (.slice (some ⟨g,0,none⟩) L cp) L zs) (F:zs.length=L) (hu:Row .u64 w (.slice ao L n) xs) (A:Digs xs) (J:xs≠[]->∀ b,(Value.slice ao L n).ownBlock=some b->b≠g) (hL:L<=1000000) :
  ClZ 251 #[.slice (some ⟨g,0,none⟩) L cp,.slice ao L n,.int .u64 (D:Nat)] w fun e w'=>e=.returned (.int .u64 (R:Nat))/\OwnN .u64 24 w' base (.slice (some ⟨g,0,none⟩) L cp) L (digs (X/D) L)/\Kept (fun b=>b=g) w w':=by
 obtain ⟨_,_,_,e1,v,_,_,_,_⟩:=hu.open;cases e1
 have eL:=af v.o;have HU:=af hu;have s:HzD (∀ k,xs.getD k 0<18446744073709551616):=fun k=>A.getD (by omega) _
 have HX:=af hX;have HR:=af hR;have t:=af F;have HO:=af ho;clear hu A v hX hR F ho;delta ClZ;go_in;go_wp2_with fail;go_loopw [7,12] (fun ra i wr=>∃ (k r:Nat) (qs:LN),k<=L/\r<D/\i=.int .i64 (k:Int)/\ra=.int .u64 (r:Int)/\HzD (qs.length=k)/\Digs qs/\OwnN .u64 24 wr base (.slice (some ⟨g,0,none⟩) L cp) L (zs.take (L-k) ++ qs)/\Kept (fun b=>b=g) w wr/\HzD (D*val qs+r=val (xs.drop (L-k)))) (fun _ i _=>L-(intOf i).toNat)
 case atStart=>exact ⟨0,0,[],aP _,o,rfl,rfl,rfl,Digs.nil _,by rw [et,dU,dV (by rw [t.o];exact leR _)];exact HO.o,ah _ _,by unfold HzD;rw [et,kU (by rw [eL.o];exact leR _)];rfl⟩
 case round=>
  obtain ⟨k,r,qs,hk,hr,rfl,rfl,HL,q,ho,f,HV⟩:=hrel;by_cases hkn:k<L
  ·have V:(0:Int)<=(k:Int):=cL _;have N:(k:Int)<(L:Int):=by omega
   obtain ⟨j,hj⟩:=aj (L-1-k)
   have gj:(L:Int)-1-(k:Int)=(j:Int):=by omega
   have S:(j:Int)<(L:Int):=by omega
   obtain ⟨_,_,_,e2,_,_,_,_,c⟩:=(HU.o.kept' f J).open;cases e2
   obtain ⟨b2,P,rfl,T⟩:=c j (by omega);have hx:=s.o j;have M:j<xs.length:=by rw [eL.o];omega
   have C:j<zs.length:=by rw [t.o];omega
   have p:L-k=j+1:=by omega
   have a:L-(k+1)=j:=by omega
   have E:=Aw (B:=18446744073709551616) (i:=j) (r:=r) (d:=D) (qs:=qs) M (by rw [<- p];exact HV.o);have y:wr.cell? ⟨g,j,none⟩=some (.int .u64 (zs.getD j 0:Nat)):=by
    rw [World.ownsRow.cellAt ho j (by omega),bV,il (by rw [aQ];omega),eH,bZ,ay,aS C];rfl
   have U:=World.ownsRow.frozenAt ho j;have H:=fun W=>Iq r (xs.getD j 0) D hx hD hr W
   have Y:(r*18446744073709551616+xs.getD j 0)/D<18446744073709551616:=tA hx hr;have O:(r*18446744073709551616+xs.getD j 0)%D<D:=aW _ o;have I:HzD (∀ z:Nat,OwnN .u64 24 (wr.setCell ⟨g,j,none⟩ (.int .u64 (z:Int))) base (.slice (some ⟨g,0,none⟩) L cp) L (zs.take j ++ z :: qs)):=fun z=>by
    have:=(World.ownsRow.stored ho j (.int .u64 (z:Int))).1;unfold OwnN;rw [<- oT C,<- p,cI];exact this
   have l:=af E;clear E c s hj;generalize (r*18446744073709551616+xs.getD j 0)/D=Q at *;generalize (r*18446744073709551616+xs.getD j 0)%D=R2 at *;generalize xs.getD j 0=x at *;generalize zs.getD j 0=z0 at *;have H2:=af a;have G:=af f;clear p a ho f;go_wp2_with fail;refine (H _).mono ?_;rintro e w7 ⟨rfl,m,rfl⟩;go_wp2_with fail;go_roundw
   case rel=>exact ⟨k+1,R2,Q :: qs,by omega,O,by go_num,rfl,by unfold HzD;rw [dg,HL.o],(fun d hd=>by rcases fL.1 hd with h | h;omega;exact q d h),by rw [H2.o];exact I.o Q,(G.o.setCell ⟨g,j,none⟩ (fun _=>rfl) _).drewN m,by unfold HzD;rw [H2.o];exact l.o⟩
   case measure=>simp [intOf];omega
  ·have N:¬ (k:Int)<(L:Int):=by omega
   obtain rfl:k=L:=by omega
   have e:=HV.o;rw [cj,ik,<- HX.o] at e;rw [cj,nB,bY] at ho;have e1:val qs=X/D:=by rw [<- e,gG o,bI hr,aU]
   have e2:r=R:=by rw [HR.o,<- e,iZ,aA hr]
   have e3:qs=digs (X/D) k:=cN (by omega) q HL.o (by rw [<- e1,aA];have:=aC (by omega) q;rwa [HL.o] at this);have E2:=af e2;have E3:=af e3;clear s e e1 e2 e3 HV;go_wp2_with fail;go_ret;rw [<- E2.o,<- E3.o];exact ⟨rfl,ho,f⟩

theorem pj {x c s:Nat} (hs:s<=63) (hx:x<18446744073709551616) (hc:c<2^s) :
  bits .or .u64 (IntKind.u64.wrap ((x:Int)*2^s)) (c:Int)=(((x*2^s)%18446744073709551616+c:Nat):Int)/\(x*2^s)%18446744073709551616+c<18446744073709551616/\(x*2^s)%18446744073709551616+c+18446744073709551616*(x/2^(64-s))=x*2^s+c/\x/2^(64-s)<2^s:=by
 have hp:(18446744073709551616:Nat)=2^(64-s)*2^s:=by rw [<- aO,show 64-s+s=64 by omega]
 have h1:(x*2^s)%18446744073709551616=2^s*(x%2^(64-s)):=by
  rw [hp,Nat.mul_mod_mul_right,aD]
 have h2:x*2^s/18446744073709551616=x/2^(64-s):=by
  rw [hp,Nat.mul_div_mul_right _ _ (aV)]
 have h3:x%2^(64-s)+1<=2^(64-s):=aW _ (aV);have h4:2^s*(x%2^(64-s)+1)<=18446744073709551616:=by
  rw [hp,aD (2^(64-s))];exact bD _ h3
 rw [aI,bH] at h4;have a:(x*2^s)%18446744073709551616+c<18446744073709551616:=by rw [h1];omega
 refine ⟨?_,a,?_,?_⟩
 ·rw [show (x:Int)*2^s=((x*2^s:Nat):Int) by simp,IntKind.wrap_u64,show ((x*2^s:Nat):Int)%18446744073709551616=(((x*2^s)%18446744073709551616:Nat):Int) by omega,u64_or_nat _ _ (by omega) (by omega),h1,<- ll hc]
 ·rw [<- h2];generalize x*2^s=y;omega
 ·rw [cS (aV),<- aO,show s+(64-s)=64 by omega];exact hx

theorem tw (ao:OA) (L r:Nat) (xs:LN) (X s n:Nat) (hX:X=val xs) (hs:s<=63) (w:World) (hu:Row .u64 w (.slice ao L r) xs) (f:Digs xs) (hn:n<=1000000) (A:L<=n) :
  ClZ 253 #[.slice ao L r,.int .i64 (s:Nat),.int .i64 (n:Nat)] w fun e w'=>e=.returned (.slice (some ⟨w.heap.size,0,none⟩) n n)/\OwnN .u64 24 w' w.heap.size (.slice (some ⟨w.heap.size,0,none⟩) n n) n (digs (X*2^s) n)/\Kept aa w w':=by
 obtain ⟨i0,E,J,M,N⟩:=info_parts Tryz.info24;obtain ⟨_,_,_,e1,l,_,_,_,_⟩:=hu.open;cases e1
 have B:HzD (X<18446744073709551616^n):=by unfold HzD;rw [hX];exact eY f (by rw [l.o];exact A)
 have a:HzD (∀ k,dig X k=xs.getD k 0):=fun k=>by rw [hX];exact dr (by omega) f k
 have j:HzD (∀ k,xs.getD k 0<18446744073709551616):=fun k=>f.getD (by omega) _
 have HU:=af hu;have eL:=af l.o;clear hX hu f l;delta ClZ;go_in;go_wp2_with (at_make;refine wpList_make_full _ rfl _ _ 23 rfl w.heap.size 24 i0 _ 1 underlying23 E J M _ _ _ _ n rfl rfl rfl rfl (by rw [N];omega) (by unfold maxLen;omega) (leR _) ?_;intro w1 m t);rw [bw] at m;have k1:=bd t;clear t;obtain ⟨s2,v⟩:=aj (64-s)
 have P:IntKind.i64.wrap (64-(s:Int))=(s2:Int):=jN
 have Q:(s2:Int)<=64:=by omega
 have p:=af v;clear v;go_loopw [8,14] (fun bl i wr=>∃ (k x':Nat) (os:LN),k<=n/\x'<18446744073709551616/\i=.int .i64 (k:Int)/\bl=.int .u64 (x':Int)/\HzD (os.length=k)/\Digs os/\OwnN .u64 24 wr w.heap.size (.slice (some ⟨w.heap.size,0,none⟩) n n) n (os ++ List.replicate (n-k) 0)/\Kept aa w wr /\
   HzD (val os+18446744073709551616^k*(x'/2^s2)=0%18446744073709551616^k+X%18446744073709551616^k*2^s)) (fun _ i _=>n-(intOf i).toNat)
 case atStart=>exact ⟨0,0,[],aP _,by omega,rfl,rfl,rfl,Digs.nil _,by rw [bY,et];exact m,k1,by unfold HzD;simp [val,Nat.mod_one]⟩
 case round=>
  clear m k1;obtain ⟨k,x',os,hk,H,rfl,rfl,HL,o,ho,g,HV⟩:=hrel;by_cases hkn:k<n
  ·have S:(0:Int)<=(k:Int):=cL _;have F:(k:Int)<(n:Int):=by omega
   have R:=jg ho HL.o hkn;have hf:=World.ownsRow.frozenAt ho k;have q:HzD (∀ u:Nat,OwnN .u64 24 (wr.setCell ⟨w.heap.size,k,none⟩ (.int .u64 (u:Int))) w.heap.size (.slice (some ⟨w.heap.size,0,none⟩) n n) n ((os ++ [u]) ++ List.replicate (n-(k+1)) 0)):=fun u=>by
    have:=(World.ownsRow.stored ho k (.int .u64 (u:Int))).1;unfold OwnN;rw [<- kM os n k u HL.o hkn,cI];exact this
   obtain ⟨c,hc⟩:=aj (x'/2^s2)
   have ec:(x':Int)/2^s2=(c:Int):=by rw [hc];simp
   have D:c<2^s:=by rw [hc,p.o];exact (pj hs H (c:=0) (aV)).2.2.2
   obtain ⟨x,b⟩:=aj (xs.getD k 0)
   have hx:x<18446744073709551616:=by rw [b];exact j.o k
   obtain ⟨s1,s3,s4,_⟩:=pj hs hx D;obtain ⟨z,y⟩:=aj ((x*2^s)%18446744073709551616+c)
   rw [<- y] at s1 s3 s4;have hz:=s3;have HS:HzD (val (os ++ [z])+18446744073709551616^(k+1)*(x/2^s2)=0%18446744073709551616^(k+1)+X%18446744073709551616^(k+1)*2^s):=oN (c:=c) HL.o (by rw [hc];exact HV.o) (by rw [a.o k,<- b,show dig 0 k=0 by simp [dig],p.o,s4,aU]);clear hc y s3 s4 HV;by_cases hkL:k<L
   ·have G:(k:Int)<(L:Int):=by omega
    obtain ⟨_,_,_,e2,_,_,_,_,d⟩:=(HU.o.g g).open;cases e2
    obtain ⟨b2,O,rfl,C⟩:=d k hkL;rw [<- b] at C;clear d b j a;go_wp2_with fail;go_region
    all_goals
     go_wp2_with fail;go_roundw
     case rel=>exact ⟨k+1,x,os ++ [z],by omega,hx,by go_num,rfl,by unfold HzD;rw [bj,HL.o];rfl,o.append (Digs.one hz),q.o z,(g.setCell _ (fun h=>by simp at h) _).drew,HS.o⟩
     case measure=>simp [intOf];omega
   ·have G:¬ (k:Int)<(L:Int):=by omega
    have I:x=0:=by rw [b,ay,io (by rw [eL.o];omega)];rfl
    subst I;have s5:bits .or .u64 0 (c:Int)=(z:Int):=by rw [<- s1];simp [IntKind.wrap_u64]
    clear b j a;go_wp2_with fail;go_region
    all_goals
     go_wp2_with fail;go_roundw
     case rel=>exact ⟨k+1,0,os ++ [z],by omega,hx,by go_num,rfl,by unfold HzD;rw [bj,HL.o];rfl,o.append (Digs.one hz),q.o z,(g.setCell _ (fun h=>by simp at h) _).drew,HS.o⟩
     case measure=>simp [intOf];omega
  ·have F:¬ (k:Int)<(n:Int):=by omega
   obtain rfl:k=n:=by omega
   have e:=HV.o;rw [it,dX,aA B.o] at e;rw [cj,fg,dU] at ho;obtain ⟨e1,_⟩:=tH (by omega) HL.o o e;have E1:=af e1;clear e e1 j a HV;go_wp2_with fail;go_ret;rw [<- E1.o];exact ⟨rfl,ho,g⟩

theorem Be {Q k a b l a' z b':Nat} (hl:os.length=k) (h:val os B+V%B^k*Q=U%B^k+B^k*(a+b)) (h1:l+B*a'=dig V k B*Q+a) (h2:z+l+b=dig U k B+B*b') :
  val (os ++ [z]) B+V%B^(k+1)*Q=U%B^(k+1)+B^(k+1)*(a'+b'):=by
 rw [dF,hl,fz,fz,aF,bh,dn,bh];have e1:B^k*(l+B*a')=B^k*(dig V k B*Q+a):=by rw [h1]
 have e2:B^k*(z+l+b)=B^k*(dig U k B+B*b'):=by rw [h2]
 rw [aI] at h;rw [aI,aI] at e1;rw [aI,aI,aI] at e2;rw [aI B,aI];omega

theorem DA {Q a b z b':Nat} (hl:os.length=n) (hV:V<B^n) (hU:U<B^(n+1)) (h:val os B+V%B^n*Q=U%B^n+B^n*(a+b)) (h2:z+a+b=dig U n B+B*b') :
  val (os ++ [z]) B+V*Q=U+B^(n+1)*b':=by
 have e3:U%B^(n+1)=U:=aA hU;rw [fz] at e3;rw [dF,hl];rw [aA hV] at h;have e2:B^n*(z+a+b)=B^n*(dig U n B+B*b'):=by rw [h2]
 rw [aI,aI,aI,<- bh,<- aF] at e2;simp only [Nat.succ_eq_add_one] at e2;rw [aI] at h;omega

theorem E0 (g base N o j n c Q:Nat) (zs ys:LN) (v:Value) (w:World) (ho:OwnN .u64 24 w base (.slice (some ⟨g,0,none⟩) N o) N zs) (J:zs.length=N) (r:Digs zs) (hj:j+(n+1)<=N) (hN:N<=100000000)
  (hv:Row .u64 w v ys) (D:ys.length=n) (q:Digs ys) (H:ys≠[]->∀ b,v.ownBlock=some b->b≠g) (hQ:Q<18446744073709551616) :
  ClZ 263 #[.slice (some ⟨g,j,none⟩) (n+1) c,v,.int .u64 (Q:Nat)] w fun e w'=>∃ b:Nat,e=.returned (.int .u64 (b:Nat))/\b<=1/\∃ os:LN,os.length=n+1/\Digs os/\val os+val ys*Q=val ((zs.drop j).take (n+1))+18446744073709551616^(n+1)*b /\
   OwnN .u64 24 w' base (.slice (some ⟨g,0,none⟩) N o) N (zs.take j ++ (os ++ zs.drop (j+(n+1))))/\Kept (fun b=>b=g) w w':=by
 have hX:=pT (j:=j) (n:=n+1) r;have hY:val ys<18446744073709551616^n:=by rw [<- D];exact aC (by omega) q
 have p:HzD (∀ k,k<n+1->dig (val ((zs.drop j).take (n+1))) k=zs.getD (j+k) 0):=fun k hk=>qW r hk
 have A:HzD (∀ k,dig (val ys) k=ys.getD k 0):=fun k=>dr (by omega) q k
 have E:HzD (∀ k,zs.getD (j+k) 0<18446744073709551616):=fun k=>r.getD (by omega) _
 have C:HzD (∀ k,ys.getD k 0<18446744073709551616):=fun k=>q.getD (by omega) _
 have d:HzD (∀ W',Kept (fun b=>b=g) w W'->Row .u64 W' v ys):=fun W' k=>hv.kept' k H
 generalize val ((zs.drop j).take (n+1))=X at *;generalize val ys=Y at *;have HX:=af hX;have HY:=af hY;have G:=af J;have HO:=af ho;obtain ⟨bo,m,bc,rfl,hM,_,_,_,_⟩:=hv.open;obtain rfl:m=n:=hM.o.symm.trans D;clear ho J hX hY D q r H hv hM;delta ClZ;go_in;go_wp2_with fail;go_loopw [7,9,13] (fun av bv i wr=>∃ (k a b:Nat) (os:LN),k<=m/\a<18446744073709551616/\b<=1/\i=.int .i64 (k:Int)/\av=.int .u64 (a:Int)/\bv=.int .u64 (b:Int)/\HzD (os.length=k)/\Digs os/\OwnN .u64 24 wr base (.slice (some ⟨g,0,none⟩) N o) N (zs.take j ++ (os ++ zs.drop (j+k)))/\Kept (fun b=>b=g) w wr /\
   HzD (val os+Y%18446744073709551616^k*Q=X%18446744073709551616^k+18446744073709551616^k*(a+b))) (fun _ _ i _=>m-(intOf i).toNat)
 case atStart=>exact ⟨0,0,0,[],aP _,by omega,by omega,rfl,rfl,rfl,rfl,Digs.nil _,by rw [aU,bY,kh];exact HO.o,ah _ _,by unfold HzD;simp [val,Nat.mod_one]⟩
 case round=>
  obtain ⟨k,a,b,os,hk,ha,hb,rfl,rfl,rfl,HL,I,ho,B,HV⟩:=hrel;have S:=jX ho G.o HL.o (by omega);have hf:=World.ownsRow.frozenAt ho (j+k);have hx:=E.o k;have F:HzD (∀ u:Nat,OwnN .u64 24 (wr.setCell ⟨g,j+k,none⟩ (.int .u64 (u:Int))) base (.slice (some ⟨g,0,none⟩) N o) N (zs.take j ++ ((os ++ [u]) ++ zs.drop (j+(k+1))))):=fun u=>by
   have:=(World.ownsRow.stored ho (j+k) (.int .u64 (u:Int))).1;unfold OwnN;rw [<- kK zs os j k u HL.o (by have:=G.o;omega),cI];exact this
  by_cases hkn:k<m
  ·have U:(0:Int)<=(k:Int):=cL _;have O:(k:Int)<(m:Int):=by omega
   have P:(k:Int)<(m:Int)+1:=by omega
   obtain ⟨_,_,_,e2,_,_,_,_,h⟩:=(d.o wr B).open;cases e2
   obtain ⟨b2,R,rfl,T⟩:=h k hkn;have hy:=C.o k;have s:HzD (∀ l a' z b',l+18446744073709551616*a'=ys.getD k 0*Q+a->z+l+b=zs.getD (j+k) 0+18446744073709551616*b'->val (os ++ [z])+Y%18446744073709551616^(k+1)*Q=X%18446744073709551616^(k+1)+18446744073709551616^(k+1)*(a'+b')):=fun l a' z b' h1 h2=>Be HL.o HV.o (by rw [A.o k];exact h1) (by rw [p.o k (by omega)];exact h2)
   clear HV d h p A E C HO HX HY;generalize zs.getD (j+k) 0=x at *;generalize ys.getD k 0=y at *;go_wp2_with fail;refine (Ac y Q a 0 hy hQ ha (by omega) _).mono ?_;rintro e w7 ⟨a',l,rfl,M,hl,L,rfl⟩;rw [aU] at L;go_wp2_with fail;refine (Ad x l b hx hl hb _).mono ?_;rintro e w8 ⟨z,b',rfl,hz,t,f,rfl⟩;go_wp2_with fail;go_roundw
   case rel=>exact ⟨k+1,a',b',os ++ [z],by omega,M,t,by go_num,rfl,rfl,by unfold HzD;rw [bj,HL.o];rfl,I.append (Digs.one hz),F.o z,B.setCell _ (fun _=>rfl) _,s.o l a' z b' L f⟩
   case measure=>simp [intOf];omega
  ·have O:¬ (k:Int)<(m:Int):=by omega
   obtain rfl:k=m:=by omega
   have P:(k:Int)<(k:Int)+1:=by omega
   have s:HzD (∀ z b',z+a+b=zs.getD (j+k) 0+18446744073709551616*b'->val (os ++ [z])+Y*Q=X+18446744073709551616^(k+1)*b'):=fun z b' h2=>DA HL.o HY.o HX.o HV.o (by rw [p.o k (by omega)];exact h2)
   clear HV d p A E C HO HX HY;generalize zs.getD (j+k) 0=x at *;go_wp2_with fail;refine (Ad x a b hx ha hb _).mono ?_;rintro e w8 ⟨z,b',rfl,hz,t,f,rfl⟩;go_wp2_with fail;go_ret;exact ⟨b',rfl,t,os ++ [z],by rw [bj,HL.o];rfl,I.append (Digs.one hz),s.o z b' f,F.o z,B.setCell _ (fun _=>rfl) _⟩

theorem Af {p l h lo:Nat} (a:lo<18446744073709551616) (hl:l<18446744073709551616) (e:lo+18446744073709551616*h=p):(u*18446744073709551616+l<p)↔(u<h\/(h=u/\l<lo)):=by
 constructor <;> intro hh <;> omega

theorem Hb (a b u l:Nat) (ha:a<18446744073709551616) (hb:b<18446744073709551616) (hl:l<18446744073709551616) (R:Bool) (hR:R=decide (u*18446744073709551616+l<a*b)) (w:World) :
  ClZ 265 #[.int .u64 (a:Nat),.int .u64 (b:Nat),.int .u64 (u:Nat),.int .u64 (l:Nat)] w fun e w'=>e=.returned (.bool R)/\w'=w:=by
 have hM:=Ac a b 0 0 ha hb (by omega) (by omega);have HR:=af hR;clear hR;delta ClZ;go_in;go_wp2_with fail;refine (hM _).mono ?_;rintro e w1 ⟨h,lo,rfl,hh,c,d,rfl⟩;have hi:=Af (u:=u) (p:=a*b) c hl (by omega);clear d hM;by_cases c1:u<h
 ·have g1:(u:Int)<(h:Int):=by omega
  have hT:HzD (R=true):=by unfold HzD;rw [HR.o];exact dR (hi.2 (.inl c1))
  clear hi;go_wp2_with fail;go_ret;rw [hT.o];exact ⟨rfl,rfl⟩
 ·have g1:¬ (u:Int)<(h:Int):=by omega
  by_cases c2:h=u
  ·subst c2;have hT:HzD (R=decide (l<lo)):=by unfold HzD;rw [HR.o];exact decide_eq_decide.2 (hi.trans ⟨fun x=>by omega,fun x=>.inr ⟨rfl,x⟩⟩)
   clear hi;by_cases c3:l<lo
   ·have g3:(l:Int)<(lo:Int):=by omega
    rw [dR c3] at hT;go_wp2_with fail;go_ret;rw [hT.o];exact ⟨rfl,rfl⟩
   ·have g3:¬ (l:Int)<(lo:Int):=by omega
    rw [cG c3] at hT;go_wp2_with fail;go_ret;rw [hT.o];exact ⟨rfl,rfl⟩
  ·have g2:((h:Int) == (u:Int))=false:=by simp;omega
   have hT:HzD (R=false):=by unfold HzD;rw [HR.o];exact cG (fun x=>by have:=hi.1 x;omega)
   clear hi;go_wp2_with fail;go_ret;rw [hT.o];exact ⟨rfl,rfl⟩

theorem Hd (u2 u1 u0 v1 v0:Nat) (h1:u1<18446744073709551616) (h0:u0<18446744073709551616) (p:v1<18446744073709551616) (l:v0<18446744073709551616) (hn:9223372036854775808<=v1) (w:World) :
  ClZ 262 #[.int .u64 (u2:Nat),.int .u64 (u1:Nat),.int .u64 (u0:Nat),.int .u64 (v1:Nat),.int .u64 (v0:Nat)] w fun e w'=>∃ q:Nat,e=.returned (.int .u64 (q:Nat))/\q<18446744073709551616/\((v1<=u2/\q=18446744073709551615)\/(u2<v1/\q=(((u2*18446744073709551616+u1)*18446744073709551616+u0)/(v1*18446744073709551616+v0))))/\∃ m,w'=w.drewN m:=by
 by_cases hc:v1<=u2
 ·have g:(v1:Int)<=(u2:Int):=by omega
  delta ClZ;go_in;go_wp2_with fail;go_ret;exact ⟨18446744073709551615,rfl,by omega,.inl ⟨hc,rfl⟩,0,rfl⟩
 ·have g:¬ (v1:Int)<=(u2:Int):=by omega
  have i:=Iq u2 u1 v1 h1 p (by omega) w;have hU:u2*18446744073709551616+u1<v1*18446744073709551616+v0:=by
   have:(u2+1)*18446744073709551616<=v1*18446744073709551616:=cE _ (by omega);omega
  have hG:=Gss.start (B:=18446744073709551616) (U:=u2*18446744073709551616+u1) (u:=u0) (y1:=v1) (y0:=v0) (by omega) h0 (by omega) l hU;have o:(u2*18446744073709551616+u1)/v1<18446744073709551616:=tA h1 (by omega);have v:(u2*18446744073709551616+u1)%v1<v1:=bk;obtain ⟨q0,b⟩:=aj ((u2*18446744073709551616+u1)/v1)
  obtain ⟨r0,k⟩:=aj ((u2*18446744073709551616+u1)%v1)
  rw [<- b,<- k] at i hG;rw [<- b] at o;rw [<- k] at v;clear b k;have HG:=af hG;have HU:=af hU;have h:HzD (u2<v1):=by unfold HzD;omega
  clear hG hU;delta ClZ;go_in;go_wp2_with fail;refine i.mono ?_;rintro e w1 ⟨rfl,m,rfl⟩;clear i;go_wp2_with fail;go_loop [11,12,13] (fun qv rv cv=>∃ q r c:Nat,q<18446744073709551616/\r<18446744073709551616/\c<=1/\qv=.int .u64 (q:Int)/\rv=.int .u64 (r:Int)/\cv=.int .u64 (c:Int)/\HzD (Gss 18446744073709551616 (u2*18446744073709551616+u1) u0 v1 v0 q (r+18446744073709551616*c))) (fun qv _ _=>(intOf qv).toNat)
  case atStart=>exact ⟨q0,r0,0,o,by omega,by omega,rfl,rfl,rfl,by rw [cY,aU];exact HG⟩
  case round=>
   clear HG;obtain ⟨q,r,c,hq,hr,y,rfl,rfl,rfl,HG⟩:=hrel;by_cases c0:c=0
   ·subst c0;have a:=HG.o;rw [cY,aU] at a;have f:=Hb q v0 r u0 hq l h0;by_cases ct:r*18446744073709551616+u0<q*v0
    ·have hA:=fun W=>f true (dR ct).symm W
     obtain ⟨b,j⟩:=a.next h0 HU.o (.inr (by rw [aD];exact ct));obtain ⟨q',n⟩:∃ q',q=q'+1:=⟨q-1,by omega⟩
     rw [show q-1=q' by omega] at j;have k8:IntKind.u64.wrap ((q:Int)-1)=(q':Int):=eE
     have HQ:=af n;have s:=af j;clear f HG a j b ct n;go_wp2_with fail;refine (hA _).mono ?_;rintro e w2 ⟨rfl,rfl⟩;clear hA;go_wp2_with fail;refine (DL r v1 0 hr p (by omega) _).mono ?_;rintro e w3 ⟨z,c',rfl,hz,t,x,rfl⟩;go_wp2_with fail;go_round
     case rel=>exact ⟨q',z,c',by have:=HQ.o;omega,hz,t,rfl,rfl,rfl,by rw [x,aU];exact s⟩
     case measure=>have:=HQ.o;simp [intOf];omega
    ·have hA:=fun W=>f false (cG ct).symm W
     have d:=af (a.stop (by omega) (by rw [aD 18446744073709551616 r];omega));clear f HG a ct;go_wp2_with fail;refine (hA _).mono ?_;rintro e w2 ⟨rfl,rfl⟩;clear hA;go_wp2_with fail;go_ret;exact ⟨q,rfl,hq,(by first | exact .inr ⟨h.o,d.o⟩ | exact ⟨h.o,d.o⟩),m,rfl⟩
   ·have c1:c=1:=by omega
    subst c1;have d:=af (HG.o.stop (by omega) (Gss.over (by omega) l (by omega)));clear HG;go_wp2_with fail;go_ret;exact ⟨q,rfl,hq,(by first | exact .inr ⟨h.o,d.o⟩ | exact ⟨h.o,d.o⟩),m,rfl⟩

theorem yM (hB:0<B) {us:LN} (hd:Digs us B) (hl:us.length=n+3) :
  val us B=((us.getD (n+2) 0*B+us.getD (n+1) 0)*B+us.getD n 0)*B^n+val (us.take n) B/\val (us.take n) B<B^n:=by
 have h0:=aZ B us n (by omega);have hlt:=aC hB (hd.take n);rw [aQ,fT] at hlt;refine ⟨?_,hlt⟩;rw [fU (by omega),fU (by omega),fU (by omega),jH] at h0;simp only [val,cY,aU] at h0;rw [h0,lf]
 congr 1
 rw [aD (B^n)]
 congr 1
 rw [aI,dn,aD B (us.getD (n+1) 0),aD B (us.getD (n+2) 0),aD B (us.getD (n+2) 0*B)];omega

theorem xj (hB:0<B) {vs:LN} (hd:Digs vs B) (hl:vs.length=n+2) :
  val vs B=(vs.getD (n+1) 0*B+vs.getD n 0)*B^n+val (vs.take n) B/\val (vs.take n) B<B^n:=by
 have h0:=aZ B vs n (by omega);have hlt:=aC hB (hd.take n);rw [aQ,fT] at hlt;refine ⟨?_,hlt⟩;rw [fU (by omega),fU (by omega),jH] at h0;simp only [val,cY,aU] at h0;rw [h0,lf]
 congr 1
 rw [aD (B^n)]
 congr 1
 rw [aD B (vs.getD (n+1) 0)];omega

theorem EK {v0:Nat} (h:v0<B) (hl:vl<B^n):v0*B^n+vl<B^(n+1):=by
 have h1:(v0+1)*B^n<=B*B^n:=cE _ h;rw [dn,iF] at h1;rw [aF,aD (B^n)];omega

theorem DJ (B a b n ul:Nat):(a*B+b)*B^n+ul=a*B^(n+1)+(b*B^n+ul):=by
 rw [dn,bh a,aF,aD (B^n) B,iX]

theorem B9 {us vs:LN} (a:Digs us) (c:Digs vs) (f:us.length=n+3) (g:vs.length=n+2) (hn:9223372036854775808<=vs.getD (n+1) 0) (hlt:val us<val vs*18446744073709551616)
  (hq:q<18446744073709551616) (h:(vs.getD (n+1) 0<=us.getD (n+2) 0/\q=18446744073709551615)\/(us.getD (n+2) 0<vs.getD (n+1) 0/\q=((us.getD (n+2) 0*18446744073709551616+us.getD (n+1) 0)*18446744073709551616+us.getD n 0)/(vs.getD (n+1) 0*18446744073709551616+vs.getD n 0))) :
  val us/val vs<=q/\q<=val us/val vs+1:=by
 have d:18446744073709551616<=2*vs.getD (n+1) 0:=by omega
 have e:18446744073709551616<=vs.getD (n+1) 0*18446744073709551616+vs.getD n 0:=by omega
 obtain ⟨e1,l1⟩:=yM (by omega) a f;obtain ⟨e2,l2⟩:=xj (by omega) c g;have b0:=a.getD (by omega) n;have b1:=a.getD (by omega) (n+1);have b2:=c.getD (by omega) n;generalize val us=U at *;generalize val vs=V at *;generalize val (us.take n)=ul at *;generalize val (vs.take n)=vl at *;generalize us.getD (n+2) 0=u2 at *;generalize us.getD (n+1) 0=u1 at *;generalize us.getD n 0=u0 at *;generalize vs.getD (n+1) 0=v1 at *;generalize vs.getD n 0=v0 at *;rcases h with ⟨h1,rfl⟩ | ⟨h1,h2⟩
 ·have hU:U=(u2*18446744073709551616+u1)*(18446744073709551616^(n+1))+(u0*18446744073709551616^n+ul):=by
   rw [e1];exact DJ _ _ _ _ _
  have hV:V=v1*18446744073709551616^(n+1)+(v0*18446744073709551616^n+vl):=by
   rw [e2];exact DJ _ _ _ _ _
  have b:v0*18446744073709551616^n+vl<18446744073709551616^(n+1):=EK b2 l2;have h3:v1*18446744073709551616<=u2*18446744073709551616+u1:=by
   exact aH (cE _ h1) (Nat.le_add_right _ _)
  exact yh hU hV b hlt d (by decide) h3
 ·have hQ:((u2*18446744073709551616+u1)*18446744073709551616+u0)/(v1*18446744073709551616+v0)<=18446744073709551616:=by rw [<- h2];exact eI hq
  have:=AG (B:=18446744073709551616) e1 l1 e2 l2 e (by decide) hQ;rw [<- h2] at this;exact this

theorem Bq (hB:0<B) {R M:Nat} (f:os.length=M+1) (c:Digs os B) (hV:V<B^M) (a:val os B+V*(q+1)=U+B^(M+1)) (hR:V*q+R=U) (e:R<V) :
  os.getD M 0+(val (os.take M) B+V)/B^M=B/\digs (val (os.take M) B+V) M B=digs R M B/\digs R (M+1) B=digs R M B ++ [0]:=by
 have e1:=aZ B os M (by omega);rw [fU (by omega),jH] at e1;simp only [val,cY,aU] at e1;have hlt:=aC hB (c.take M);rw [aQ,fT] at hlt;have ht:os.getD M 0<B:=c.getD hB M;generalize val (os.take M) B=lo at *;generalize os.getD M 0=top at *;rw [e1,aI,bH,aF] at a;have hp:0<B^M:=iG hB;have b:R<B^M:=by omega
 generalize hP:B^M=P at *;have hS:lo+V=R+P*(B-top):=by
  have h1:P*(B-top)=P*B-P*top:=lh P B top;have h2:P*top<=P*B:=bD _ (by omega);omega
 have d:(lo+V)/P=B-top:=by rw [hS,jQ _ _ hp,bI b,dX]
 refine ⟨by rw [d];omega,?_,?_⟩
 ·refine cN hB (ak hB _ _) (ag _ _ _) ?_;rw [ax,hP,hS,eP]
 ·rw [digs]
  congr 1
  rw [dig,hP,bI b,it]

theorem Gb (g base N l j n n1 M c:Nat) (J:n1=n+1) (hM:M=n+2) (zs vs:LN) (bo:OA) (bc U V Q R:Nat) (w:World) (ho:OwnN .u64 24 w base (.slice (some ⟨g,0,none⟩) N l) N zs) (T:zs.length=N) (s:Digs zs) (hj:j+(M+1)<=N) (hN:N<=100000000) (aP:M+1<=c)
  (hv:Row .u64 w (.slice bo M bc) vs) (x:Digs vs) (ad:∀ b,(Value.slice bo M bc).ownBlock=some b->b≠g) (hn:9223372036854775808<=vs.getD n1 0) (hU:U=val ((zs.drop j).take (M+1))) (hV:V=val vs) (hlt:U<V*18446744073709551616) (hQ:Q=U/V) (hR:R=U%V) :
  ClZ 254 #[.slice (some ⟨g,j,none⟩) (M+1) c,.slice bo M bc] w fun e w'=>e=.returned (.int .u64 (Q:Nat)) /\
   OwnN .u64 24 w' base (.slice (some ⟨g,0,none⟩) N l) N (zs.take j ++ (digs R (M+1) ++ zs.drop (j+(M+1))))/\Kept (fun b=>b=g) w w':=by
 obtain ⟨_,_,_,e1,E,_,_,_,o⟩:=hv.open;cases e1
 have eV:=af E.o;have am:((zs.drop j).take (M+1)).length=n+3:=by rw [aQ,cP,T];omega
 have al:Digs ((zs.drop j).take (M+1)):=(s.drop j).take _;have z:∀ k,k<M+1->((zs.drop j).take (M+1)).getD k 0=zs.getD (j+k) 0:=fun k hk=>by rw [ay,eH,ai hk,fd,<- ay]
 have y:∀ k,k<M+1->w.cell? ⟨g,j+k,none⟩=some (.int .u64 (zs.getD (j+k) 0:Nat)):=fun k hk=>by
  rw [World.ownsRow.cellAt ho (j+k) (by omega),bV,ay,aS (by omega)];rfl
 have F:=af (fun q hq h=>B9 (q:=q) (n:=n) al x am (E.o.trans hM) (by rw [<- J];exact hn) (by rw [<- hU,<- hV];exact hlt) hq h);rw [<- hU,<- hV,<- hM,<- J,z M (by omega),z n1 (by omega),z n (by omega)] at F;have aw:=y M (by omega);have av:=y n1 (by omega);have au:=y n (by omega);obtain ⟨b2,p,rfl,az⟩:=o n1 (by omega);obtain ⟨_,_,e2,ax⟩:=o n (by omega);cases e2
 have aK:=s.getD (by omega) (j+M);have ar:=s.getD (by omega) (j+n1);have aq:=s.getD (by omega) (j+n);have aD:=x.getD (by omega) n1;have aB:=x.getD (by omega) n;have hG:=fun W=>Hd (zs.getD (j+M) 0) (zs.getD (j+n1) 0) (zs.getD (j+n) 0) (vs.getD n1 0) (vs.getD n 0) ar aq aD aB hn W
 have ac:0<V:=by
  rcases cD V with h | h
  ·rw [h] at hlt;omega
  ·exact h
 have aL:IntKind.i64.wrap ((M:Int)-1)=(n1:Int):=jN
 have aM:IntKind.i64.wrap ((M:Int)-2)=(n:Int):=jN
 have g1:(M:Int)<(M:Int)+1:=by omega
 have g2:(n1:Int)<(M:Int)+1:=by omega
 have g3:(n:Int)<(M:Int)+1:=by omega
 have g4:(n1:Int)<(M:Int):=by omega
 have g5:(n:Int)<(M:Int):=by omega
 have HO:=af ho;have D:=af T;have X:=af s;have HV:=af hv;have B:=af x;have HU:=af hU;have C:=af hV;have HQ:=af hQ;have HR:=af hR;have A:=af ad;clear ho T s hv x hU hV hQ hR E o am al z y hn ad J hM;generalize zs.getD (j+M) 0=u2 at *;generalize zs.getD (j+n1) 0=u1 at *;generalize zs.getD (j+n) 0=u0 at *;generalize vs.getD n1 0=v1 at *;generalize vs.getD n 0=v0 at *;delta ClZ;go_in;go_wp2_with fail;go_still_tail 24,(by kernel_rfl)
 change wpList _ _ _ _ _ w.drew
 go_wp2_with fail;refine (hG _).mono ?_;rintro e w1 ⟨q,rfl,hq,ak,m,rfl⟩;obtain ⟨t1,t2⟩:=F.o q hq ak;have hS:=E0 g base N l j M c q zs vs (.slice (some ⟨b2,p,none⟩) M bc) (w.drew.drewN m) (((ah aa w).drew.drewN m).own HO.o (fun _ _ f=>f)) D.o X.o hj hN (HV.o.g ((ah aa w).drew.drewN m)) eV.o B.o (fun _=>A.o) hq;rw [<- HU.o,<- C.o] at hS;have k1:=(ah (fun b=>b=g) w).drew.drewN m;generalize w.drew.drewN m=W1 at *;clear hG F ak aw av au az ax;go_wp2_with fail;refine hS.mono ?_;rintro e w2 ⟨b,rfl,hb,os,r,v,d,t,k2⟩;clear hS;by_cases hb1:b=1
 ·subst hb1;rw [bH] at d;have ab:V<18446744073709551616^M:=by
   rw [C.o,<- eV.o];exact aC (by omega) B.o
  have H:=dz U V;rw [<- HQ.o,<- HR.o] at H;rw [<- HQ.o] at t1 t2;have Z:R<V:=by rw [HR.o];exact aW _ ac
  have O:val os<18446744073709551616^(M+1):=by
   have:=aC (by omega) v
   rwa [r] at this
  have aJ:q=Q+1:=by
   have h1:q≠Q:=fun e=>by
    rw [e] at d;exact absurd d (Nat.ne_of_lt (by omega))
   exact Nat.le_antisymm t2 (by omega)
  subst aJ;obtain ⟨a1,a2,a3⟩:=Bq (by omega) r v ab d H Z;obtain ⟨a,i⟩:=aj (zs.take j ++ (os ++ zs.drop (j+(M+1))))
  have I:(zs.take j).length=j:=by rw [aQ,D.o];omega
  have z1:a.length=N:=by rw [i];exact th D.o r hj
  have z2:Digs a:=by rw [i];exact ku X.o v
  have z3:a.take j=zs.take j:=by rw [i,List.take_left' I]
  have z4:a.drop j=os ++ zs.drop (j+(M+1)):=by rw [i,List.drop_left' I]
  have z5:a.drop (j+(M+1))=zs.drop (j+(M+1)):=by rw [<- jq,z4,List.drop_left' r]
  have z6:(a.drop j).take M=os.take M:=by rw [z4,List.take_append_of_le_length (by omega)]
  have z7:a.getD (j+M) 0=os.getD M 0:=by
   rw [ay,<- fd,z4,il (by omega),<- ay]
  rw [<- i] at t;obtain ⟨S,hS⟩:=aj (val (os.take M)+V)
  rw [<- hS] at a1 a2;obtain ⟨R2,G⟩:=aj (S/18446744073709551616^M)
  rw [<- G,<- z7] at a1;have Y:=fun W (kk:Kept aa w2 W)=>ts g base N l j M c 1 a vs (.slice (some ⟨b2,p,none⟩) M bc) W (kk.own t (fun _ _ f=>f)) z1 z2 (by omega) ((HV.o.kept' (k1.trans k2) (fun _=>A.o)).g kk) eV.o B.o (fun _=>A.o) (by omega) R2 S (by rw [z6,bH,<- C.o];exact hS) G
  have aO:w2.cell? ⟨g,j+M,none⟩=some (.int .u64 (a.getD (j+M) 0:Nat)):=by
   rw [World.ownsRow.cellAt t (j+M) (by omega),bV,ay,aS (by omega)];rfl
  have aE:∀ W',OwnN .u64 24 W' base (.slice (some ⟨g,0,none⟩) N l) N (a.take j ++ (digs S M ++ a.drop (j+M)))->W'.cell? ⟨g,j+M,none⟩=some (.int .u64 (a.getD (j+M) 0:Nat)):=fun W' h=>jX h z1 (ag _ _ _) (by omega)
  have aF:∀ W',OwnN .u64 24 W' base (.slice (some ⟨g,0,none⟩) N l) N (a.take j ++ (digs S M ++ a.drop (j+M)))->W'.frozen? ⟨g,j+M,none⟩=false:=fun W' h=>World.ownsRow.frozenAt h (j+M)
  have aG:HzD (∀ W',OwnN .u64 24 W' base (.slice (some ⟨g,0,none⟩) N l) N (a.take j ++ (digs S M ++ a.drop (j+M)))->OwnN .u64 24 (W'.setCell ⟨g,j+M,none⟩ (.int .u64 0)) base (.slice (some ⟨g,0,none⟩) N l) N (zs.take j ++ (digs R (M+1) ++ zs.drop (j+(M+1))))):=fun W' h=>by
   have:=(World.ownsRow.stored h (j+M) (.int .u64 0)).1;unfold OwnN;rw [a3,<- a2,<- z3,<- z5,<- kK a _ j M 0 (ag _ _ _) (by omega),cI];exact this
  have aH:IntKind.u64.wrap ((a.getD (j+M) 0:Nat)+(R2:Int))=0:=eE
  change ∀ W,Kept aa w2 W->ClZ 218 #[.slice (some ⟨g,j,none⟩) M c,.slice (some ⟨b2,p,none⟩) M bc,.int .u64 1] W _ at Y
  have gc:(M:Int)<=(c:Int):=by omega
  have ap:=af (k1.trans k2);clear d H Z O a1 a2 a3 i z1 z2 z3 z4 z5 z6 z7 hS G t k1 k2 I t1 t2 ab;generalize a.getD (j+M) 0=tp at *;generalize a.take j ++ (digs S M ++ a.drop (j+M))=zs3 at *;go_wp2_with fail;go_region_with (go_at_call 218;refine (Y _ ((ah _ _).drew)).mono ?_;rintro e w3 ⟨rfl,L,k3⟩;have aN:=aE _ L;have aR:=aF _ L)
  all_goals
   go_wp2_with fail;go_ret;exact ⟨rfl,aG.o _ L,(((ap.o.drew).trans k3).setCell _ (fun _=>rfl) _)⟩
 ·have aI:b=0:=by omega
  subst aI;rw [cY,aU] at d;have P:q=Q:=by
   rw [HQ.o];exact zN ac t1 (by omega)
  have ae:os=digs R (M+1):=cN (by omega) v r (by
   have h1:val os=R:=by
    rw [HR.o];have:=dz U V;rw [<- HQ.o,<- P] at this;omega
   rw [<- h1,aA];have:=aC (by omega) v
   rwa [r] at this)
  have ao:=af P;have an:=af ae;clear P ae d t1 t2;go_wp2_with fail;go_ret;rw [<- ao.o,<- an.o];exact ⟨rfl,t,k1.trans k2⟩

theorem qh (hB:0<B) {a:LN} {N:Nat} (hd:Digs zs B) (hl:zs.length=N) (s:a.length=N) (hj:j+(n+1)<=N) (hV:V<B^n) (l:0<V) (hR:val (zs.drop (j+1)) B<V) (c:zs.take (j+1)=a.take (j+1))
  (hinv:V*val qs B+val (zs.drop (j+1)) B=val (a.drop (j+1)) B) (U:Nat) (hU:U=val ((zs.drop j).take (n+1)) B) :
  U<V*B /\
  ∀ b,b=zs.take j ++ (digs (U%V) (n+1) B ++ zs.drop (j+(n+1))) ->
   b.length=N/\Digs b B/\b.take j=a.take j/\val (b.drop j) B<V/\V*val (U/V :: qs) B+val (b.drop j) B=val (a.drop j) B:=by
 have e1:=aZ B (zs.drop (j+1)) n (by rw [cP];omega);rw [jq] at e1;have hz:val (zs.drop (j+1+n)) B=0:=by
  rcases cD (val (zs.drop (j+1+n)) B) with h | h
  ·exact h
  ·have:B^n*1<=B^n*val (zs.drop (j+1+n)) B:=bD _ h;omega
 have e2:=aZ B (zs.drop j) (n+1) (by rw [cP];omega);rw [jq,show j+(n+1)=j+1+n by omega,hz,cY,aU,<- hU] at e2;have e3:=fU (B:=B) (zs:=zs) (j:=j) (by omega);have o:zs.getD j 0=a.getD j 0:=by
  have h1:(zs.take (j+1)).getD j 0=(a.take (j+1)).getD j 0:=by rw [c]
  rw [ay,ay,eH,eH,bZ,bZ] at h1;rw [ay,ay];exact h1
 have p:=hd.getD hB j;have i:U=zs.getD j 0+B*val (zs.drop (j+1)) B:=e2.symm.trans e3;have k:U<V*B:=by
  rw [i];have:B*(val (zs.drop (j+1)) B+1)<=B*V:=bD _ hR;rw [aI,bH] at this;rw [aD V];omega
 refine ⟨k,fun b e=>?_⟩;have g:(zs.take j).length=j:=by rw [aQ];omega
 have d:b.drop j=digs (U%V) (n+1) B ++ zs.drop (j+(n+1)):=by rw [e,List.drop_left' g]
 have m:=aW U l;have f:val (b.drop j) B=U%V:=by
  rw [d,eN,ax,show j+(n+1)=j+1+n by omega,hz,cY,aU];apply aA;have h1:B^n<=B^(n+1):=bi hB (by omega);omega
 refine ⟨by rw [e];simp [ag];omega,by rw [e];exact (hd.take j).append ((ak hB _ _).append (hd.drop _)),?_,by omega,?_⟩
 ·rw [e,List.take_left' g];have h1:(zs.take (j+1)).take j=(a.take (j+1)).take j:=by rw [c]
  rwa [nA,nA,fT] at h1
 ·rw [f,fU (zs:=a) (j:=j) (by omega),<- o,<- hinv];simp only [val];have h1:=dz U V;rw [aI,iE V B,aI];generalize U/V=q at *;generalize U%V=r at *;generalize V*val qs B=y at *;omega

theorem vf {K t s:Nat} (hY:Y<18446744073709551616^(K+1)) (ht:t=Y/18446744073709551616^K) (g:0<t) (hs:s=64-aL t) :
  s<=63/\Y*2^s<18446744073709551616^(K+1)/\9223372036854775808<=dig (Y*2^s) K/\9223372036854775808*18446744073709551616^K<=Y*2^s:=by
 have hp:0<18446744073709551616^K:=aV;have h:t<18446744073709551616:=by
  rw [ht,cS hp,<- li];exact hY
 obtain ⟨f1,f2,f3⟩:=uR g h;rw [<- hs] at f1 f2 f3;have f:0<2^s:=aV;have b:t*2^s+2^s<=18446744073709551616:=by
  have c:(18446744073709551616:Nat)=2^(64-s)*2^s:=by rw [<- aO,show 64-s+s=64 by omega]
  have h1:t<2^(64-s):=Nat.lt_of_mul_lt_mul_right (a:=2^s) (by rw [<- c];exact f2);have h2:(t+1)*2^s<=2^(64-s)*2^s:=cE _ h1;rw [<- c,dn,iF] at h2;exact h2
 have e:=dz Y (18446744073709551616^K);rw [<- ht] at e;have d:t*2^s*18446744073709551616^K<=Y*2^s:=by
  have:18446744073709551616^K*t<=Y:=by rw [<- e];exact Nat.le_add_right _ _
  have:=cE (2^s) this;rw [aD (t*2^s),<- bh];exact this
 have hlt:Y*2^s<18446744073709551616^(K+1):=by
  have h1:Y+1<=18446744073709551616^K*(t+1):=by
   rw [aI,bH];omega
  have h2:(Y+1)*2^s<=18446744073709551616^K*(t+1)*2^s:=cE _ h1;have h3:18446744073709551616^K*((t+1)*2^s)<=18446744073709551616^K*18446744073709551616:=bD _ (by rw [dn,iF];exact b);rw [bh] at h2;have h4:Y*2^s<(Y+1)*2^s:=nF (Nat.lt_succ_self _) f;rw [aF];exact bg h4 (aH h2 h3)
 refine ⟨f1,hlt,?_,aH (cE _ f3) d⟩;have hq:Y*2^s/18446744073709551616^K<18446744073709551616:=by
  rw [cS hp,<- li];exact hlt
 rw [dig,aA hq];exact aH f3 ((nD hp).2 d)

theorem qp {s i:Nat} (hs:s<=63) :
  bits .or .u64 ((dig Z i/2^s:Nat):Int) (IntKind.u64.wrap ((dig Z (i+1):Int)*2^(64-s)))=(dig (Z/2^s) i:Int):=by
 have a:(18446744073709551616:Nat)=2^(64-s)*2^s:=by rw [<- aO,show 64-s+s=64 by omega]
 have hp:0<2^s:=aV;have l:0<2^(64-s):=aV;have b:dig Z i/2^s<2^(64-s):=by
  rw [cS hp,<- a];exact bk
 have f:dig Z (i+1)=Z/18446744073709551616^i/18446744073709551616%18446744073709551616:=by
  rw [dig,aF,dj]
 have g:dig (Z/2^s) i=Z/18446744073709551616^i/2^s%18446744073709551616:=by
  rw [dig,dj,aD,<- dj]
 have c:dig Z i=Z/18446744073709551616^i%18446744073709551616:=rfl;generalize Z/18446744073709551616^i=A at *;have hA:A/2^s=2^(64-s)*(A/18446744073709551616)+A%18446744073709551616/2^s:=by
  have e:=dz A 18446744073709551616;have:A=2^s*(2^(64-s)*(A/18446744073709551616))+A%18446744073709551616:=by
   rw [<- bh,aD (2^s),<- a];exact e.symm
  rw [this,gG hp,<- this]
 have hlt:A%18446744073709551616/2^s<2^(64-s):=by rw [<- c];exact b
 have d:A/2^s%18446744073709551616=2^(64-s)*(A/18446744073709551616%2^s)+A%18446744073709551616/2^s:=by
  rw [hA];clear hA c f g b;generalize A/18446744073709551616=A1 at *;generalize A%18446744073709551616/2^s=a0 at *;rw [show (2^(64-s)*A1+a0)%18446744073709551616=(2^(64-s)*A1+a0)%(2^(64-s)*2^s) by rw [<- a],Nat.mod_mul,iZ,aA hlt,gG l,bI hlt,aU,lf]
 have h:dig Z (i+1)*2^(64-s)%18446744073709551616=2^(64-s)*(A/18446744073709551616%2^s):=by
  rw [f,aD];generalize A/18446744073709551616=A1;rw [show 2^(64-s)*(A1%18446744073709551616)%18446744073709551616=2^(64-s)*(A1%18446744073709551616)%(2^(64-s)*2^s) by rw [<- a],pH,nE];exact ⟨2^(64-s),by rw [aD];exact a⟩
 rw [g,d,<- c];generalize dig Z i/2^s=lo at *;generalize dig Z (i+1)=d1 at *;rw [show (d1:Int)*2^(64-s)=((d1*2^(64-s):Nat):Int) by simp,IntKind.wrap_u64,show ((d1*2^(64-s):Nat):Int)%18446744073709551616=((d1*2^(64-s)%18446744073709551616:Nat):Int) by simp,h];have j:2^(64-s)*(A/18446744073709551616%2^s)<18446744073709551616:=by rw [<- h];exact bk
 have k:lo<18446744073709551616:=bg b (by rw [show (18446744073709551616:Nat)=2^64 from rfl];exact bi (by omega) (by omega));rw [u64_or_nat _ _ k j,Nat.or_comm,ll b]

theorem xp {s L N:Nat} (h:Z<2^s*18446744073709551616^L) (hs:s<=63) (hN:L+1<=N):Z<18446744073709551616^N:=by
 have h1:2^s<=18446744073709551616:=by rw [show (18446744073709551616:Nat)=2^64 from rfl];exact bi (by omega) (by omega)
 have h2:2^s*18446744073709551616^L<=18446744073709551616*18446744073709551616^L:=cE _ h1;have h3:18446744073709551616*18446744073709551616^L=18446744073709551616^(L+1):=(li ..).symm;rw [h3] at h2;exact bg h (aH h2 (bi (by omega) hN))

theorem pk {s L T nk:Nat} (h:Z<2^s*18446744073709551616^L) (hs:s<=63) (hV:9223372036854775808*18446744073709551616^nk<=V) (hT:L<=nk+T):Z/18446744073709551616^T<V:=by
 rw [cS (aV)];have h1:2^s<=9223372036854775808:=by rw [show (9223372036854775808:Nat)=2^63 from rfl];exact bi (by omega) hs
 have h2:18446744073709551616^L<=18446744073709551616^(nk+T):=bi (by omega) hT;have h3:2^s*18446744073709551616^L<=9223372036854775808*18446744073709551616^(nk+T):=er h1 h2;rw [aO,<- bh] at h3;exact bg h (aH h3 (cE _ hV))

end Go.Proofs.YtpkmoamgpjcdeaaGreatDoor
