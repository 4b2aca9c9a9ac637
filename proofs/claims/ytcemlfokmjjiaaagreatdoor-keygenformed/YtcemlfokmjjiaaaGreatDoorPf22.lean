/- Put together of: Div1 PrF PrG. -/
import Derived.Test.YtcemlfokmjjiaaaGreatDoorPf8
import Derived.Test.YtcemlfokmjjiaaaGreatDoorPf12
import Derived.StillTailTactics

namespace Go.Proofs.YtcemlfokmjjiaaaGreatDoor
set_option maxRecDepth 100000
set_option maxHeartbeats 4000000

structure Gss (B U u y1 y0 q r:Nat):Prop where
 eq:q*y1+r=U
 ge:(U*B+u)/(y1*B+y0)≤q
 le:q≤B+1

theorem kN (q y1 y0 B:Nat):(y1*B+y0)*q=q*y1*B+q*y0:=by
 rw [Nat.add_mul,Nat.mul_comm (y1*B) q,← Nat.mul_assoc,Nat.mul_comm y0 q]

theorem Gss.start {B U u y1 y0:Nat} (hB:0<B) (hu:u<B) (h1:B≤2*y1) (h0:y0<B) (hU:U<y1*B+y0):Gss B U u y1 y0 (U/y1) (U%y1):=by
 have a:0<y1:=by omega
 refine ⟨by rw [Nat.mul_comm];exact Nat.div_add_mod U y1,?_,?_⟩
 ·have e:(U*B+u)/(y1*B)=U/y1:=by
   rw [Nat.mul_comm y1 B,← Nat.div_div_eq_div_mul,Nat.mul_comm U B,Nat.mul_add_div hB,Nat.div_eq_of_lt hu,Nat.add_zero]
  rw [← e];exact Nat.div_le_div_left (by omega) (Nat.mul_pos a hB)
 ·have h2:U/y1<B+2:=by
   rw [Nat.div_lt_iff_lt_mul a,Nat.add_mul,Nat.mul_comm B y1];omega
  omega

theorem l8 {B U u Y:Nat} (hu:u<B) (hU:U<Y):(U*B+u)/Y<B:=by
 rw [Nat.div_lt_iff_lt_mul (by omega)];have:(U+1)*B≤Y*B:=Nat.mul_le_mul_right _ hU;rw [Nat.add_mul,Nat.one_mul] at this;rw [Nat.mul_comm B Y];omega

theorem pV {q A Y:Nat} (hY:0<Y) (h1:A/Y≤q) (h2:Y*q≤A):q=A/Y:=by
 have h3:q≤A/Y:=(Nat.le_div_iff_mul_le hY).2 (by rw [Nat.mul_comm];exact h2);omega

theorem Gss.stop {B U u y1 y0 q r:Nat} (g:Gss B U u y1 y0 q r) (hY:0<y1*B+y0) (ht:q*y0≤B*r+u):q=(U*B+u)/(y1*B+y0):=by
 refine pV hY g.ge ?_;rw [kN,← g.eq,Nat.add_mul,Nat.mul_comm r B];omega

theorem Gss.next {B U u y1 y0 q r:Nat} (g:Gss B U u y1 y0 q r) (hu:u<B) (hU:U<y1*B+y0) (ht:B≤q∨B*r+u<q*y0):0<q∧Gss B U u y1 y0 (q-1) (r+y1):=by
 have hlt:(U*B+u)/(y1*B+y0)<q:=by
  rcases ht with h | h
  ·exact Nat.lt_of_lt_of_le (l8 hu hU) h
  ·rw [Nat.div_lt_iff_lt_mul (by omega),Nat.mul_comm q,kN,← g.eq,Nat.add_mul,Nat.mul_comm r B];omega
 have hq:0<q:=Nat.lt_of_le_of_lt (Nat.zero_le _) hlt;refine ⟨hq,?_,Nat.le_sub_one_of_lt hlt,by have:=g.le;omega⟩;obtain ⟨p,rfl⟩:∃ p,q=p+1:=⟨q-1,by omega⟩
 have:=g.eq;rw [Nat.add_mul,Nat.one_mul] at this;rw [Nat.add_sub_cancel];omega

theorem Gss.over {B u y0 q r:Nat} (hq:q≤B) (h0:y0<B) (hr:B≤r):q*y0≤B*r+u:=by
 have h1:q*y0≤B*B:=Nat.le_trans (Nat.mul_le_mul_right _ hq) (Nat.mul_le_mul_left _ (by omega));have h2:B*B≤B*r:=Nat.mul_le_mul_left _ hr;omega

theorem bf (A Y:Nat):A/Y*Y+A%Y=A:=by rw [Nat.mul_comm];exact Nat.div_add_mod A Y

theorem cH {B U u v Y q1 q0:Nat} (hY:0<Y) (h1:q1=(U*B+u)/Y) (h0:q0=((U*B+u)%Y*B+v)/Y) :
  q1*B+q0=((U*B+u)*B+v)/Y∧((U*B+u)%Y*B+v)%Y=((U*B+u)*B+v)%Y:=by
 have e:=Nat.div_add_mod (U*B+u) Y;have e2:(U*B+u)*B+v=Y*(q1*B)+((U*B+u)%Y*B+v):=by
  have:(U*B+u)*B=(Y*((U*B+u)/Y)+(U*B+u)%Y)*B:=by rw [e]
  rw [this,Nat.add_mul,← h1,Nat.mul_assoc];omega
 refine ⟨?_,?_⟩
 ·rw [e2,Nat.mul_add_div hY,← h0]
 ·rw [e2,Nat.mul_add_mod]

theorem jf {M y p:Nat} (hp:0<p):(M*p)/(y*p)=M/y∧(M*p)%(y*p)/p=M%y:=by
 refine ⟨Nat.mul_div_mul_right _ _ hp,?_⟩;rw [Nat.mul_mod_mul_right,Nat.mul_div_cancel _ hp]

theorem qQ {B b U V ul vl U3 V2:Nat} (hU:U=U3*b+ul) (c:ul<b) (hV:V=V2*b+vl) (f:vl<b) (g:B≤V2) (hB:0<B) (hQ:U3/V2≤B) :
  U/V≤U3/V2∧U3/V2≤U/V+1:=by
 have hb:0<b:=by omega
 have a:0<V2:=by omega
 have d:0<V:=by
  have:1*1≤V2*b:=Nat.mul_le_mul a hb;omega
 refine ⟨?_,?_⟩
 ·have e:U/(V2*b)=U3/V2:=by
   rw [Nat.mul_comm V2 b,← Nat.div_div_eq_div_mul,hU,Nat.mul_comm U3 b,Nat.mul_add_div hb,Nat.div_eq_of_lt c,Nat.add_zero]
  rw [← e];exact Nat.div_le_div_left (by omega) (Nat.mul_pos a hb)
 ·generalize hQq:U3/V2=Q at *;rcases Nat.eq_zero_or_pos Q with h | h
  ·rw [h];exact Nat.zero_le _
  ·obtain ⟨p,rfl⟩:∃ p,Q=p+1:=⟨Q-1,by omega⟩
   have h3:V2*(p+1)≤U3:=by rw [← hQq];exact Nat.mul_div_le U3 V2
   have:p≤U/V:=by
    rw [Nat.le_div_iff_mul_le d,hV,hU,Nat.mul_add];have h4:p*vl≤p*b:=Nat.mul_le_mul_left _ (by omega);have h5:p*b≤V2*b:=Nat.mul_le_mul_right _ (by omega);have h6:V2*(p+1)*b≤U3*b:=Nat.mul_le_mul_right _ h3;rw [Nat.mul_add,Nat.mul_one,Nat.add_mul] at h6;have h7:p*(V2*b)=V2*p*b:=by rw [← Nat.mul_assoc,Nat.mul_comm p V2]
    omega
   exact Nat.succ_le_succ this

theorem oZ {B b U V ul vl U1 V1:Nat} (hU:U=U1*b+ul) (hV:V=V1*b+vl) (f:vl<b) (d:U<V*B) (e:B≤2*V1) (hB:2≤B) (h:V1*B≤U1) :
  U/V≤B-1∧B-1≤U/V+1:=by
 have a:0<V:=by
  rcases Nat.eq_zero_or_pos V with h | h
  ·rw [h] at d;omega
  ·exact h
 refine ⟨?_,?_⟩
 ·have:U/V<B:=(Nat.div_lt_iff_lt_mul a).2 (by rw [Nat.mul_comm];exact d);omega
 ·obtain ⟨c,rfl⟩:∃ c,B=c+2:=⟨B-2,by omega⟩
  have:c≤U/V:=by
   rw [Nat.le_div_iff_mul_le a,hV,hU,Nat.mul_add];have h1:V1*(c+2)*b≤U1*b:=Nat.mul_le_mul_right _ h;have h2:c*vl≤c*b:=Nat.mul_le_mul_left _ (by omega);have h3:(c+2)*b≤2*V1*b:=Nat.mul_le_mul_right _ e;rw [Nat.mul_add,Nat.add_mul] at h1;rw [Nat.add_mul] at h3;have h4:c*(V1*b)=V1*c*b:=by rw [← Nat.mul_assoc,Nat.mul_comm c V1]
   have h5:V1*2*b=2*V1*b:=by rw [Nat.mul_comm V1 2]
   omega
  exact Nat.succ_le_succ this

open Go.RowKit

theorem bLz (y:Nat) (hy:y<18446744073709551616) (w:World) :
  Calls Tryz.prog 193 #[.int .u64 (y:Nat)] w fun e w'=>e=.returned (.int .i64 (64-au y:Nat))∧w'=w:=by
 have b:au y≤64:=(aA y 64).2 hy;have a:=Any.bits_Len64 Ak (y:Int) w (by omega) (by omega);rw [show ((y:Int).toNat)=y from rfl,gU y hy] at a;generalize au y=M at *;go_enter Tryz.func193,Tryz.ntmps193;go_wp2_with fail;refine a.mono ?_;rintro e w' ⟨rfl,rfl⟩;go_wp2;go_ret;refine ⟨?_,rfl⟩;simp;omega

theorem pP (x:Nat) (h:x<18446744073709551616):bits .and .u64 (x:Int) 4294967295=((x%4294967296:Nat):Int):=by
 have e:=u64_and_nat x 4294967295 (by omega) (by omega);rw [show (4294967295:Nat)=2^32-1 from rfl,Nat.and_two_pow_sub_one_eq_mod] at e;exact e

theorem sB (hi lo s:Nat) (hs:s≤64) (h1:hi*2^s<18446744073709551616) (h2:lo<18446744073709551616):bits .or .u64 (IntKind.u64.wrap ((hi:Int)*2^s)) ((lo:Int)/2^(64-s))=((hi*2^s+lo/2^(64-s):Nat):Int):=by
 have e1:(hi:Int)*2^s=((hi*2^s:Nat):Int):=by simp
 have e2:(lo:Int)/2^(64-s)=((lo/2^(64-s):Nat):Int):=by simp
 have h3:lo/2^(64-s)<2^s:=by
  rw [Nat.div_lt_iff_lt_mul (Nat.pow_pos (by omega)),← Nat.pow_add,show s+(64-s)=64 by omega];exact h2
 have h4:lo/2^(64-s)≤lo:=Nat.div_le_self _ _;rw [e1,e2,IntKind.wrap_u64];have e3:((hi*2^s:Nat):Int)%18446744073709551616=((hi*2^s:Nat):Int):=by omega
 rw [e3,u64_or_nat _ _ (by omega) (by omega),Nat.mul_comm hi (2^s),← Nat.two_pow_add_eq_or_of_lt h3]

theorem cZ {P U t R:Nat} (h:P+R=U*4294967296+t) (hR:R<18446744073709551616) :
  ∃ a1 a2 a3:Nat,IntKind.u64.wrap ((U:Int)*4294967296)=(a1:Int)∧IntKind.u64.wrap ((a1:Int)+(t:Int))=(a2:Int)∧IntKind.u64.wrap (P:Int)=(a3:Int)∧IntKind.u64.wrap ((a2:Int)-(a3:Int))=(R:Int):=by
 refine ⟨U*4294967296%18446744073709551616,(U*4294967296+t)%18446744073709551616,P%18446744073709551616,?_,?_,?_,?_⟩ <;> rw [IntKind.wrap_u64] <;> omega

theorem mQ {y:Nat} (h0:0<y) (hy:y<18446744073709551616):64-au y≤63∧y*2^(64-au y)<18446744073709551616∧9223372036854775808≤y*2^(64-au y):=by
 have a:au y≤64:=(aA y 64).2 hy;have h1:¬ au y≤0:=fun h=>by have:=(aA y 0).1 h;omega
 have h2:=(aA y (au y)).1 (leR _);have h3:¬ y<2^(au y-1):=fun h=>by have:=(aA y (au y-1)).2 h;omega
 refine ⟨by omega,?_,?_⟩
 ·have:y*2^(64-au y)<2^au y*2^(64-au y):=Nat.mul_lt_mul_of_pos_right h2 (Nat.pow_pos (by omega))
  rwa [← Nat.pow_add,show au y+(64-au y)=64 by omega] at this
 ·have:2^(au y-1)*2^(64-au y)≤y*2^(64-au y):=Nat.mul_le_mul_right _ (by omega)
  rwa [← Nat.pow_add,show au y-1+(64-au y)=63 by omega] at this

theorem Bx (lo y:Nat) (hl:lo<18446744073709551616) (h0:0<y) (w:World) :
  Calls Tryz.prog 166 #[.int .u64 0,.int .u64 (lo:Nat),.int .u64 (y:Nat)] w fun e w'=>e=.returned (.tuple #[.int .u64 (lo/y:Nat),.int .u64 (lo%y:Nat)])∧∃ m,w'=w.drewN m:=by
 have g1:((y:Int) == 0)=false:=by simp;omega
 have g2:¬ (y:Int)≤0:=by omega
 have g3:¬ (y:Int)=0:=by omega
 obtain ⟨Q,hQ⟩:∃ Q,Q=lo/y:=⟨_,rfl⟩
 obtain ⟨R,hR⟩:∃ R,R=lo%y:=⟨_,rfl⟩
 have hq:=Nat.div_le_self lo y;have e1:IntKind.u64.wrap ((lo:Int)/(y:Int))=(Q:Int):=by
  rw [show (lo:Int)/(y:Int)=((lo/y:Nat):Int) by simp,← hQ,IntKind.wrap_u64];omega
 have e2:(lo:Int)%(y:Int)=(R:Int):=by rw [hR];simp
 rw [← hQ,← hR];clear hQ hR hq;go_enter Tryz.func166,Tryz.ntmps166;go_wp2;go_region
 all_goals
  go_wp2;go_ret2;refine ⟨?_,1,rfl⟩;show Ending.returned (.tuple #[.int .u64 (Q:Int),.int .u64 ((lo:Int)%(y:Int))])=_
  rw [e2]

theorem BQ (hi lo y:Nat) (hl:lo<18446744073709551616) (hy:y<18446744073709551616) (h0:0<hi) (hlt:hi<y) (w:World) :
  Calls Tryz.prog 166 #[.int .u64 (hi:Nat),.int .u64 (lo:Nat),.int .u64 (y:Nat)] w fun e w'=>e=.returned (.tuple #[.int .u64 ((hi*18446744073709551616+lo)/y:Nat),.int .u64 ((hi*18446744073709551616+lo)%y:Nat)])∧∃ m,w'=w.drewN m:=by
 have g1:((y:Int) == 0)=false:=by simp;omega
 have g2:¬ (y:Int)≤(hi:Int):=by omega
 have g3:((hi:Int) == 0)=false:=by simp;omega
 have hZ:=bLz y hy;obtain ⟨f1,f2,f3⟩:=mQ (y:=y) (by omega) hy;generalize 64-au y=s at *;obtain ⟨Y,hY⟩:∃ Y,Y=y*2^s:=⟨_,rfl⟩
 have e1:IntKind.u64.wrap ((y:Int)*2^s)=(Y:Int):=by
  rw [show (y:Int)*2^s=((y*2^s:Nat):Int) by simp,← hY,IntKind.wrap_u64];omega
 have Z:0<2^s:=Nat.pow_pos (by omega);have ar:hi*2^s<y*2^s:=Nat.mul_lt_mul_of_pos_right hlt Z;rw [← hY] at f2 f3 ar;obtain ⟨U,hU⟩:∃ U,U=hi*2^s+lo/2^(64-s):=⟨_,rfl⟩
 obtain ⟨T,hT⟩:∃ T,T=lo*2^s%18446744073709551616:=⟨_,rfl⟩
 have eU:bits .or .u64 (IntKind.u64.wrap ((hi:Int)*2^s)) ((lo:Int)/2^(64-s))=(U:Int):=by rw [hU];exact sB hi lo s (by omega) (by omega) hl
 have eT:IntKind.u64.wrap ((lo:Int)*2^s)=(T:Int):=by
  rw [show (lo:Int)*2^s=((lo*2^s:Nat):Int) by simp,IntKind.wrap_u64];omega
 have hN:(hi*18446744073709551616+lo)*2^s=U*18446744073709551616+T:=by
  have h5:lo/2^(64-s)=lo*2^s/18446744073709551616:=by
   rw [show (18446744073709551616:Nat)=2^(64-s)*2^s by rw [← Nat.pow_add,show 64-s+s=64 by omega],Nat.mul_div_mul_right _ _ Z]
  rw [hU,h5,hT,Nat.add_mul,Nat.add_mul,Nat.mul_right_comm hi 18446744073709551616];generalize lo*2^s=z;omega
 have an:U<Y:=by
  have h6:(hi*18446744073709551616+lo)*2^s<(y*18446744073709551616)*2^s:=Nat.mul_lt_mul_of_pos_right (by omega) Z;rw [hN,Nat.mul_right_comm,← hY] at h6;omega
 have ay:T<18446744073709551616:=by rw [hT];exact Nat.mod_lt _ (by omega)
 obtain ⟨QQ,ac⟩:∃ QQ,QQ=(hi*18446744073709551616+lo)/y:=⟨_,rfl⟩
 obtain ⟨RR,ag⟩:∃ RR,RR=(hi*18446744073709551616+lo)%y:=⟨_,rfl⟩
 obtain ⟨d1,d2⟩:=jf (M:=hi*18446744073709551616+lo) (y:=y) Z;rw [hN,← hY,← ac] at d1;rw [hN,← hY,← ag] at d2;rw [← ac,← ag];have az:QQ<18446744073709551616:=by
  rw [ac,Nat.div_lt_iff_lt_mul (by omega)];have:(hi+1)*18446744073709551616≤y*18446744073709551616:=Nat.mul_le_mul_right _ hlt;omega
 have D1:=aa d1;have D2:=aa d2;obtain ⟨y1,aA⟩:∃ y1,y1=Y/4294967296:=⟨_,rfl⟩
 obtain ⟨y0,ao⟩:∃ y0,y0=Y%4294967296:=⟨_,rfl⟩
 obtain ⟨t1,aB⟩:∃ t1,t1=T/4294967296:=⟨_,rfl⟩
 obtain ⟨t0,ak⟩:∃ t0,t0=T%4294967296:=⟨_,rfl⟩
 have e2:(Y:Int)/4294967296=(y1:Int):=by omega
 have e3:bits .and .u64 (Y:Int) 4294967295=(y0:Int):=by rw [ao];exact pP Y f2
 have e4:(T:Int)/4294967296=(t1:Int):=by omega
 have e5:bits .and .u64 (T:Int) 4294967295=(t0:Int):=by rw [ak];exact pP T ay
 have g4:¬ (y1:Int)=0:=by omega
 have b1:y1<4294967296:=by omega
 have aE:2147483648≤y1:=by omega
 have b0:y0<4294967296:=by omega
 have c1:t1<4294967296:=by omega
 have c0:t0<4294967296:=by omega
 have i:Hid (y1*4294967296+y0=Y):=by unfold Hid;omega
 have P:Hid (U*18446744073709551616+T=(U*4294967296+t1)*4294967296+t0):=by unfold Hid;omega
 have aj:=aa an;have HS:Hid (0<2^s):=Z;have aH:U<18446744073709551616:=by omega
 obtain ⟨R1,af⟩:∃ R1,R1=(U*4294967296+t1)%Y:=⟨_,rfl⟩
 obtain ⟨R2,ae⟩:∃ R2,R2=(R1*4294967296+t0)%Y:=⟨_,rfl⟩
 have t:R1<Y:=by rw [af];exact Nat.mod_lt _ (by omega)
 have aC:R2<Y:=by rw [ae];exact Nat.mod_lt _ (by omega)
 have L:=aa af;have Q:=aa ae;have aG:(R2:Int)/2^s=(RR:Int):=by
  have:=(cH (B:=4294967296) (U:=U) (u:=t1) (v:=t0) (Y:=Y) (by omega) rfl rfl).2;rw [← af,← ae,← P.out] at this;rw [← this] at d2;rw [show (R2:Int)/2^s=((R2/2^s:Nat):Int) by simp,d2]
 clear aA ao aB ak hU hT hN ay ar ac ag hY d1 d2 Z af ae an;obtain ⟨Q1,ab⟩:∃ q,q=U/y1:=⟨_,rfl⟩
 obtain ⟨M1,ai⟩:∃ q,q=Q1*y1:=⟨_,rfl⟩
 obtain ⟨r1,ad⟩:∃ q,q=U%y1:=⟨_,rfl⟩
 have aJ:IntKind.u64.wrap ((U:Int)/(y1:Int))=(Q1:Int):=by
  have:=Nat.div_le_self U y1;rw [← ab] at this;rw [show (U:Int)/(y1:Int)=((U/y1:Nat):Int) by simp,← ab,IntKind.wrap_u64];omega
 have aw:=bf U y1;rw [← ab,← ai,← ad] at aw;have aI:IntKind.u64.wrap ((Q1:Int)*(y1:Int))=(M1:Int):=by
  rw [show (Q1:Int)*(y1:Int)=((Q1*y1:Nat):Int) by simp,← ai,IntKind.wrap_u64];omega
 have aF:IntKind.u64.wrap ((U:Int)-(M1:Int))=(r1:Int):=by
  rw [IntKind.wrap_u64];omega
 have aD:r1<y1:=by rw [ad];exact Nat.mod_lt _ (by omega)
 have av:Hid (Gss 4294967296 U t1 y1 y0 Q1 r1):=by
  unfold Hid;rw [ab,ad];exact Gss.start (by omega) (by omega) (by omega) b0 (by rw [i.out];exact aj.out)
 clear ab ad ai aw;go_enter Tryz.func166,Tryz.ntmps166;go_wp2_with fail;refine (hZ _).mono ?_;rintro e w' ⟨rfl,rfl⟩;clear hZ;go_wp2_with fail;go_loop [15,16] (fun a b=>∃ q r:Nat,a=.int .u64 (q:Int)∧b=.int .u64 (r:Int)∧r<4294967296∧Hid (Gss 4294967296 U t1 y1 y0 q r)) (fun a _=>(intOf a).toNat)
 case atStart=>exact ⟨Q1,r1,rfl,rfl,by omega,av⟩
 case round=>
  clear av;obtain ⟨q,r,rfl,rfl,ah,hG⟩:=hrel;have H:=hG.out.le;by_cases hq:q<4294967296
  ·have k1:¬ (4294967296:Int)≤(q:Int):=by omega
   obtain ⟨qy,k⟩:∃ qy,qy=q*y0:=⟨_,rfl⟩
   have p:qy≤4294967295*4294967295:=by rw [k];exact Nat.mul_le_mul (by omega) (by omega)
   have k2:IntKind.u64.wrap ((q:Int)*(y0:Int))=(qy:Int):=by
    rw [show (q:Int)*(y0:Int)=((q*y0:Nat):Int) by simp,← k,IntKind.wrap_u64];omega
   obtain ⟨br,x⟩:∃ br,br=4294967296*r:=⟨_,rfl⟩
   have k3:IntKind.u64.wrap (4294967296*(r:Int))=(br:Int):=by rw [IntKind.wrap_u64];omega
   obtain ⟨bt,A⟩:∃ bt,bt=br+t1:=⟨_,rfl⟩
   have k4:IntKind.u64.wrap ((br:Int)+(t1:Int))=(bt:Int):=by rw [IntKind.wrap_u64];omega
   by_cases hc:bt<qy
   ·have k5:(bt:Int)<(qy:Int):=by omega
    obtain ⟨G,o⟩:=hG.out.next (by omega) (by rw [i.out];exact aj.out) (.inr (by rw [← k,← x,← A];exact hc));have g:=aa o;obtain ⟨q',l⟩:∃ q',q=q'+1:=⟨q-1,by omega⟩
    rw [show q-1=q' by omega] at g;have F:q'≤4294967296:=by omega
    have k8:IntKind.u64.wrap ((q:Int)-1)=(q':Int):=by rw [IntKind.wrap_u64];omega
    have HQ:=aa l;clear l;clear hG o k x A p H G hq ;obtain ⟨r2,j⟩:∃ r2,r2=r+y1:=⟨_,rfl⟩
    have k6:IntKind.u64.wrap ((r:Int)+(y1:Int))=(r2:Int):=by rw [IntKind.wrap_u64];omega
    rw [← j] at g;by_cases hov:r2<4294967296
    ·have k7:¬ (4294967296:Int)≤(r2:Int):=by omega
     clear j;go_wp2_with fail;go_round
     case rel=>exact ⟨q',r2,rfl,rfl,hov,g⟩
     case measure=>have:=HQ.out;simp [intOf];omega
    ·have k7:(4294967296:Int)≤(r2:Int):=by omega
     have d:=g.out.stop (by rw [i.out];omega) (Gss.over (by omega) b0 (by omega));rw [i.out] at d;clear j g;have I:=bf (U*4294967296+t1) Y;rw [← d,← L.out] at I;obtain ⟨p1,n⟩:∃ p1,p1=q'*Y:=⟨_,rfl⟩
     rw [← n] at I;obtain ⟨a1,a2,a3,m1,m2,m3,m4⟩:=cZ I (by omega);have ap:IntKind.u64.wrap ((q':Int)*(Y:Int))=(a3:Int):=by rw [← m3,n];try simp
     have O:=aa d;clear I n m3 d;obtain ⟨Q0,E⟩:∃ q,q=R1/y1:=⟨_,rfl⟩
     obtain ⟨M0,N⟩:∃ q,q=Q0*y1:=⟨_,rfl⟩
     obtain ⟨r0,J⟩:∃ q,q=R1%y1:=⟨_,rfl⟩
     have ax:IntKind.u64.wrap ((R1:Int)/(y1:Int))=(Q0:Int):=by
      have:=Nat.div_le_self R1 y1;rw [← E] at this;rw [show (R1:Int)/(y1:Int)=((R1/y1:Nat):Int) by simp,← E,IntKind.wrap_u64];omega
     have S:=bf R1 y1;rw [← E,← N,← J] at S;have aq:IntKind.u64.wrap ((Q0:Int)*(y1:Int))=(M0:Int):=by
      rw [show (Q0:Int)*(y1:Int)=((Q0*y1:Nat):Int) by simp,← N,IntKind.wrap_u64];omega
     have al:IntKind.u64.wrap ((R1:Int)-(M0:Int))=(r0:Int):=by
      rw [IntKind.wrap_u64];omega
     have am:r0<y1:=by rw [J];exact Nat.mod_lt _ (by omega)
     have V:Hid (Gss 4294967296 R1 t0 y1 y0 Q0 r0):=by
      unfold Hid;rw [E,J];exact Gss.start (by omega) (by omega) (by omega) b0 (by rw [i.out];exact t)
     clear E J N S;go_wp2_with fail;generalize q'=qa at *;go_loop [18,16] (fun a b=>∃ q r:Nat,a=.int .u64 (q:Int)∧b=.int .u64 (r:Int)∧r<4294967296∧Hid (Gss 4294967296 R1 t0 y1 y0 q r)) (fun a _=>(intOf a).toNat)
     case atStart=>exact ⟨Q0,r0,rfl,rfl,by omega,V⟩
     case round=>
      clear V;obtain ⟨q,r,rfl,rfl,ah,hG⟩:=hrel;have H:=hG.out.le;by_cases hq:q<4294967296
      ·have k1:¬ (4294967296:Int)≤(q:Int):=by omega
       obtain ⟨qy,k⟩:∃ qy,qy=q*y0:=⟨_,rfl⟩
       have p:qy≤4294967295*4294967295:=by rw [k];exact Nat.mul_le_mul (by omega) (by omega)
       have k2:IntKind.u64.wrap ((q:Int)*(y0:Int))=(qy:Int):=by
        rw [show (q:Int)*(y0:Int)=((q*y0:Nat):Int) by simp,← k,IntKind.wrap_u64];omega
       obtain ⟨br,x⟩:∃ br,br=4294967296*r:=⟨_,rfl⟩
       have k3:IntKind.u64.wrap (4294967296*(r:Int))=(br:Int):=by rw [IntKind.wrap_u64];omega
       obtain ⟨bt,A⟩:∃ bt,bt=br+t0:=⟨_,rfl⟩
       have k4:IntKind.u64.wrap ((br:Int)+(t0:Int))=(bt:Int):=by rw [IntKind.wrap_u64];omega
       by_cases hc:bt<qy
       ·have k5:(bt:Int)<(qy:Int):=by omega
        obtain ⟨G,o⟩:=hG.out.next (by omega) (by rw [i.out];exact t) (.inr (by rw [← k,← x,← A];exact hc));have g:=aa o;obtain ⟨q',l⟩:∃ q',q=q'+1:=⟨q-1,by omega⟩
        rw [show q-1=q' by omega] at g;have F:q'≤4294967296:=by omega
        have k8:IntKind.u64.wrap ((q:Int)-1)=(q':Int):=by rw [IntKind.wrap_u64];omega
        have HQ:=aa l;clear l;clear hG o k x A p H G hq ;obtain ⟨r2,j⟩:∃ r2,r2=r+y1:=⟨_,rfl⟩
        have k6:IntKind.u64.wrap ((r:Int)+(y1:Int))=(r2:Int):=by rw [IntKind.wrap_u64];omega
        rw [← j] at g;by_cases hov:r2<4294967296
        ·have k7:¬ (4294967296:Int)≤(r2:Int):=by omega
         clear j;go_wp2_with fail;go_round
         case rel=>exact ⟨q',r2,rfl,rfl,hov,g⟩
         case measure=>have:=HQ.out;simp [intOf];omega
        ·have k7:(4294967296:Int)≤(r2:Int):=by omega
         have d:=g.out.stop (by rw [i.out];omega) (Gss.over (by omega) b0 (by omega));rw [i.out] at d;clear j g;have h:=bf (R1*4294967296+t0) Y;rw [← d,← Q.out] at h;obtain ⟨p0,c⟩:∃ p0,p0=q'*Y:=⟨_,rfl⟩
         rw [← c] at h;obtain ⟨X,R,C,n1,n2,n3,n4⟩:=cZ h (by omega);have W:IntKind.u64.wrap ((q':Int)*(Y:Int))=(C:Int):=by rw [← n3,c];try simp
         have f:=(cH (B:=4294967296) (U:=U) (u:=t1) (v:=t0) (Y:=Y) (q0:=q') (by omega) O.out (by rw [← L.out];exact d)).1;rw [← P.out,D1.out] at f;obtain ⟨qs,D⟩:∃ qs,qs=qa*4294967296:=⟨_,rfl⟩
         have n5:IntKind.u64.wrap ((qa:Int)*4294967296)=(qs:Int):=by rw [IntKind.wrap_u64];omega
         have n6:IntKind.u64.wrap ((qs:Int)+(q':Int))=(QQ:Int):=by rw [IntKind.wrap_u64];omega
         clear h c d f D n3;go_wp2_with fail;go_ret2;exact ⟨rfl,0,rfl⟩
       ·have k5:¬ (bt:Int)<(qy:Int):=by omega
        have d:=hG.out.stop (by rw [i.out];omega) (by rw [← k,← x,← A];omega);rw [i.out] at d;clear hG k x A p H;have h:=bf (R1*4294967296+t0) Y;rw [← d,← Q.out] at h;obtain ⟨p0,c⟩:∃ p0,p0=q*Y:=⟨_,rfl⟩
        rw [← c] at h;obtain ⟨X,R,C,n1,n2,n3,n4⟩:=cZ h (by omega);have W:IntKind.u64.wrap ((q:Int)*(Y:Int))=(C:Int):=by rw [← n3,c];try simp
        have f:=(cH (B:=4294967296) (U:=U) (u:=t1) (v:=t0) (Y:=Y) (q0:=q) (by omega) O.out (by rw [← L.out];exact d)).1;rw [← P.out,D1.out] at f;obtain ⟨qs,D⟩:∃ qs,qs=qa*4294967296:=⟨_,rfl⟩
        have n5:IntKind.u64.wrap ((qa:Int)*4294967296)=(qs:Int):=by rw [IntKind.wrap_u64];omega
        have n6:IntKind.u64.wrap ((qs:Int)+(q:Int))=(QQ:Int):=by rw [IntKind.wrap_u64];omega
        clear h c d f D n3;go_wp2_with fail;go_ret2;exact ⟨rfl,0,rfl⟩
      ·have k1:(4294967296:Int)≤(q:Int):=by omega
       obtain ⟨G,o⟩:=hG.out.next (by omega) (by rw [i.out];exact t) (.inl (by omega));have g:=aa o;obtain ⟨q',l⟩:∃ q',q=q'+1:=⟨q-1,by omega⟩
       rw [show q-1=q' by omega] at g;have F:q'≤4294967296:=by omega
       have k8:IntKind.u64.wrap ((q:Int)-1)=(q':Int):=by rw [IntKind.wrap_u64];omega
       have HQ:=aa l;clear l;clear hG o H G;obtain ⟨r2,j⟩:∃ r2,r2=r+y1:=⟨_,rfl⟩
       have k6:IntKind.u64.wrap ((r:Int)+(y1:Int))=(r2:Int):=by rw [IntKind.wrap_u64];omega
       rw [← j] at g;by_cases hov:r2<4294967296
       ·have k7:¬ (4294967296:Int)≤(r2:Int):=by omega
        clear j;go_wp2_with fail;go_round
        case rel=>exact ⟨q',r2,rfl,rfl,hov,g⟩
        case measure=>have:=HQ.out;simp [intOf];omega
       ·have k7:(4294967296:Int)≤(r2:Int):=by omega
        have d:=g.out.stop (by rw [i.out];omega) (Gss.over (by omega) b0 (by omega));rw [i.out] at d;clear j g;have h:=bf (R1*4294967296+t0) Y;rw [← d,← Q.out] at h;obtain ⟨p0,c⟩:∃ p0,p0=q'*Y:=⟨_,rfl⟩
        rw [← c] at h;obtain ⟨X,R,C,n1,n2,n3,n4⟩:=cZ h (by omega);have W:IntKind.u64.wrap ((q':Int)*(Y:Int))=(C:Int):=by rw [← n3,c];try simp
        have f:=(cH (B:=4294967296) (U:=U) (u:=t1) (v:=t0) (Y:=Y) (q0:=q') (by omega) O.out (by rw [← L.out];exact d)).1;rw [← P.out,D1.out] at f;obtain ⟨qs,D⟩:∃ qs,qs=qa*4294967296:=⟨_,rfl⟩
        have n5:IntKind.u64.wrap ((qa:Int)*4294967296)=(qs:Int):=by rw [IntKind.wrap_u64];omega
        have n6:IntKind.u64.wrap ((qs:Int)+(q':Int))=(QQ:Int):=by rw [IntKind.wrap_u64];omega
        clear h c d f D n3;go_wp2_with fail;go_ret2;exact ⟨rfl,0,rfl⟩
   ·have k5:¬ (bt:Int)<(qy:Int):=by omega
    have d:=hG.out.stop (by rw [i.out];omega) (by rw [← k,← x,← A];omega);rw [i.out] at d;clear hG k x A p H;have I:=bf (U*4294967296+t1) Y;rw [← d,← L.out] at I;obtain ⟨p1,n⟩:∃ p1,p1=q*Y:=⟨_,rfl⟩
    rw [← n] at I;obtain ⟨a1,a2,a3,m1,m2,m3,m4⟩:=cZ I (by omega);have ap:IntKind.u64.wrap ((q:Int)*(Y:Int))=(a3:Int):=by rw [← m3,n];try simp
    have O:=aa d;clear I n m3 d;obtain ⟨Q0,E⟩:∃ q,q=R1/y1:=⟨_,rfl⟩
    obtain ⟨M0,N⟩:∃ q,q=Q0*y1:=⟨_,rfl⟩
    obtain ⟨r0,J⟩:∃ q,q=R1%y1:=⟨_,rfl⟩
    have ax:IntKind.u64.wrap ((R1:Int)/(y1:Int))=(Q0:Int):=by
     have:=Nat.div_le_self R1 y1;rw [← E] at this;rw [show (R1:Int)/(y1:Int)=((R1/y1:Nat):Int) by simp,← E,IntKind.wrap_u64];omega
    have S:=bf R1 y1;rw [← E,← N,← J] at S;have aq:IntKind.u64.wrap ((Q0:Int)*(y1:Int))=(M0:Int):=by
     rw [show (Q0:Int)*(y1:Int)=((Q0*y1:Nat):Int) by simp,← N,IntKind.wrap_u64];omega
    have al:IntKind.u64.wrap ((R1:Int)-(M0:Int))=(r0:Int):=by
     rw [IntKind.wrap_u64];omega
    have am:r0<y1:=by rw [J];exact Nat.mod_lt _ (by omega)
    have V:Hid (Gss 4294967296 R1 t0 y1 y0 Q0 r0):=by
     unfold Hid;rw [E,J];exact Gss.start (by omega) (by omega) (by omega) b0 (by rw [i.out];exact t)
    clear E J N S;go_wp2_with fail;generalize q=qa at *;go_loop [18,16] (fun a b=>∃ q r:Nat,a=.int .u64 (q:Int)∧b=.int .u64 (r:Int)∧r<4294967296∧Hid (Gss 4294967296 R1 t0 y1 y0 q r)) (fun a _=>(intOf a).toNat)
    case atStart=>exact ⟨Q0,r0,rfl,rfl,by omega,V⟩
    case round=>
     clear V;obtain ⟨q,r,rfl,rfl,ah,hG⟩:=hrel;have H:=hG.out.le;by_cases hq:q<4294967296
     ·have k1:¬ (4294967296:Int)≤(q:Int):=by omega
      obtain ⟨qy,k⟩:∃ qy,qy=q*y0:=⟨_,rfl⟩
      have p:qy≤4294967295*4294967295:=by rw [k];exact Nat.mul_le_mul (by omega) (by omega)
      have k2:IntKind.u64.wrap ((q:Int)*(y0:Int))=(qy:Int):=by
       rw [show (q:Int)*(y0:Int)=((q*y0:Nat):Int) by simp,← k,IntKind.wrap_u64];omega
      obtain ⟨br,x⟩:∃ br,br=4294967296*r:=⟨_,rfl⟩
      have k3:IntKind.u64.wrap (4294967296*(r:Int))=(br:Int):=by rw [IntKind.wrap_u64];omega
      obtain ⟨bt,A⟩:∃ bt,bt=br+t0:=⟨_,rfl⟩
      have k4:IntKind.u64.wrap ((br:Int)+(t0:Int))=(bt:Int):=by rw [IntKind.wrap_u64];omega
      by_cases hc:bt<qy
      ·have k5:(bt:Int)<(qy:Int):=by omega
       obtain ⟨G,o⟩:=hG.out.next (by omega) (by rw [i.out];exact t) (.inr (by rw [← k,← x,← A];exact hc));have g:=aa o;obtain ⟨q',l⟩:∃ q',q=q'+1:=⟨q-1,by omega⟩
       rw [show q-1=q' by omega] at g;have F:q'≤4294967296:=by omega
       have k8:IntKind.u64.wrap ((q:Int)-1)=(q':Int):=by rw [IntKind.wrap_u64];omega
       have HQ:=aa l;clear l;clear hG o k x A p H G hq ;obtain ⟨r2,j⟩:∃ r2,r2=r+y1:=⟨_,rfl⟩
       have k6:IntKind.u64.wrap ((r:Int)+(y1:Int))=(r2:Int):=by rw [IntKind.wrap_u64];omega
       rw [← j] at g;by_cases hov:r2<4294967296
       ·have k7:¬ (4294967296:Int)≤(r2:Int):=by omega
        clear j;go_wp2_with fail;go_round
        case rel=>exact ⟨q',r2,rfl,rfl,hov,g⟩
        case measure=>have:=HQ.out;simp [intOf];omega
       ·have k7:(4294967296:Int)≤(r2:Int):=by omega
        have d:=g.out.stop (by rw [i.out];omega) (Gss.over (by omega) b0 (by omega));rw [i.out] at d;clear j g;have h:=bf (R1*4294967296+t0) Y;rw [← d,← Q.out] at h;obtain ⟨p0,c⟩:∃ p0,p0=q'*Y:=⟨_,rfl⟩
        rw [← c] at h;obtain ⟨X,R,C,n1,n2,n3,n4⟩:=cZ h (by omega);have W:IntKind.u64.wrap ((q':Int)*(Y:Int))=(C:Int):=by rw [← n3,c];try simp
        have f:=(cH (B:=4294967296) (U:=U) (u:=t1) (v:=t0) (Y:=Y) (q0:=q') (by omega) O.out (by rw [← L.out];exact d)).1;rw [← P.out,D1.out] at f;obtain ⟨qs,D⟩:∃ qs,qs=qa*4294967296:=⟨_,rfl⟩
        have n5:IntKind.u64.wrap ((qa:Int)*4294967296)=(qs:Int):=by rw [IntKind.wrap_u64];omega
        have n6:IntKind.u64.wrap ((qs:Int)+(q':Int))=(QQ:Int):=by rw [IntKind.wrap_u64];omega
        clear h c d f D n3;go_wp2_with fail;go_ret2;exact ⟨rfl,0,rfl⟩
      ·have k5:¬ (bt:Int)<(qy:Int):=by omega
       have d:=hG.out.stop (by rw [i.out];omega) (by rw [← k,← x,← A];omega);rw [i.out] at d;clear hG k x A p H;have h:=bf (R1*4294967296+t0) Y;rw [← d,← Q.out] at h;obtain ⟨p0,c⟩:∃ p0,p0=q*Y:=⟨_,rfl⟩
       rw [← c] at h;obtain ⟨X,R,C,n1,n2,n3,n4⟩:=cZ h (by omega);have W:IntKind.u64.wrap ((q:Int)*(Y:Int))=(C:Int):=by rw [← n3,c];try simp
       have f:=(cH (B:=4294967296) (U:=U) (u:=t1) (v:=t0) (Y:=Y) (q0:=q) (by omega) O.out (by rw [← L.out];exact d)).1;rw [← P.out,D1.out] at f;obtain ⟨qs,D⟩:∃ qs,qs=qa*4294967296:=⟨_,rfl⟩
       have n5:IntKind.u64.wrap ((qa:Int)*4294967296)=(qs:Int):=by rw [IntKind.wrap_u64];omega
       have n6:IntKind.u64.wrap ((qs:Int)+(q:Int))=(QQ:Int):=by rw [IntKind.wrap_u64];omega
       clear h c d f D n3;go_wp2_with fail;go_ret2;exact ⟨rfl,0,rfl⟩
     ·have k1:(4294967296:Int)≤(q:Int):=by omega
      obtain ⟨G,o⟩:=hG.out.next (by omega) (by rw [i.out];exact t) (.inl (by omega));have g:=aa o;obtain ⟨q',l⟩:∃ q',q=q'+1:=⟨q-1,by omega⟩
      rw [show q-1=q' by omega] at g;have F:q'≤4294967296:=by omega
      have k8:IntKind.u64.wrap ((q:Int)-1)=(q':Int):=by rw [IntKind.wrap_u64];omega
      have HQ:=aa l;clear l;clear hG o H G;obtain ⟨r2,j⟩:∃ r2,r2=r+y1:=⟨_,rfl⟩
      have k6:IntKind.u64.wrap ((r:Int)+(y1:Int))=(r2:Int):=by rw [IntKind.wrap_u64];omega
      rw [← j] at g;by_cases hov:r2<4294967296
      ·have k7:¬ (4294967296:Int)≤(r2:Int):=by omega
       clear j;go_wp2_with fail;go_round
       case rel=>exact ⟨q',r2,rfl,rfl,hov,g⟩
       case measure=>have:=HQ.out;simp [intOf];omega
      ·have k7:(4294967296:Int)≤(r2:Int):=by omega
       have d:=g.out.stop (by rw [i.out];omega) (Gss.over (by omega) b0 (by omega));rw [i.out] at d;clear j g;have h:=bf (R1*4294967296+t0) Y;rw [← d,← Q.out] at h;obtain ⟨p0,c⟩:∃ p0,p0=q'*Y:=⟨_,rfl⟩
       rw [← c] at h;obtain ⟨X,R,C,n1,n2,n3,n4⟩:=cZ h (by omega);have W:IntKind.u64.wrap ((q':Int)*(Y:Int))=(C:Int):=by rw [← n3,c];try simp
       have f:=(cH (B:=4294967296) (U:=U) (u:=t1) (v:=t0) (Y:=Y) (q0:=q') (by omega) O.out (by rw [← L.out];exact d)).1;rw [← P.out,D1.out] at f;obtain ⟨qs,D⟩:∃ qs,qs=qa*4294967296:=⟨_,rfl⟩
       have n5:IntKind.u64.wrap ((qa:Int)*4294967296)=(qs:Int):=by rw [IntKind.wrap_u64];omega
       have n6:IntKind.u64.wrap ((qs:Int)+(q':Int))=(QQ:Int):=by rw [IntKind.wrap_u64];omega
       clear h c d f D n3;go_wp2_with fail;go_ret2;exact ⟨rfl,0,rfl⟩
  ·have k1:(4294967296:Int)≤(q:Int):=by omega
   obtain ⟨G,o⟩:=hG.out.next (by omega) (by rw [i.out];exact aj.out) (.inl (by omega));have g:=aa o;obtain ⟨q',l⟩:∃ q',q=q'+1:=⟨q-1,by omega⟩
   rw [show q-1=q' by omega] at g;have F:q'≤4294967296:=by omega
   have k8:IntKind.u64.wrap ((q:Int)-1)=(q':Int):=by rw [IntKind.wrap_u64];omega
   have HQ:=aa l;clear l;clear hG o H G;obtain ⟨r2,j⟩:∃ r2,r2=r+y1:=⟨_,rfl⟩
   have k6:IntKind.u64.wrap ((r:Int)+(y1:Int))=(r2:Int):=by rw [IntKind.wrap_u64];omega
   rw [← j] at g;by_cases hov:r2<4294967296
   ·have k7:¬ (4294967296:Int)≤(r2:Int):=by omega
    clear j;go_wp2_with fail;go_round
    case rel=>exact ⟨q',r2,rfl,rfl,hov,g⟩
    case measure=>have:=HQ.out;simp [intOf];omega
   ·have k7:(4294967296:Int)≤(r2:Int):=by omega
    have d:=g.out.stop (by rw [i.out];omega) (Gss.over (by omega) b0 (by omega));rw [i.out] at d;clear j g;have I:=bf (U*4294967296+t1) Y;rw [← d,← L.out] at I;obtain ⟨p1,n⟩:∃ p1,p1=q'*Y:=⟨_,rfl⟩
    rw [← n] at I;obtain ⟨a1,a2,a3,m1,m2,m3,m4⟩:=cZ I (by omega);have ap:IntKind.u64.wrap ((q':Int)*(Y:Int))=(a3:Int):=by rw [← m3,n];try simp
    have O:=aa d;clear I n m3 d;obtain ⟨Q0,E⟩:∃ q,q=R1/y1:=⟨_,rfl⟩
    obtain ⟨M0,N⟩:∃ q,q=Q0*y1:=⟨_,rfl⟩
    obtain ⟨r0,J⟩:∃ q,q=R1%y1:=⟨_,rfl⟩
    have ax:IntKind.u64.wrap ((R1:Int)/(y1:Int))=(Q0:Int):=by
     have:=Nat.div_le_self R1 y1;rw [← E] at this;rw [show (R1:Int)/(y1:Int)=((R1/y1:Nat):Int) by simp,← E,IntKind.wrap_u64];omega
    have S:=bf R1 y1;rw [← E,← N,← J] at S;have aq:IntKind.u64.wrap ((Q0:Int)*(y1:Int))=(M0:Int):=by
     rw [show (Q0:Int)*(y1:Int)=((Q0*y1:Nat):Int) by simp,← N,IntKind.wrap_u64];omega
    have al:IntKind.u64.wrap ((R1:Int)-(M0:Int))=(r0:Int):=by
     rw [IntKind.wrap_u64];omega
    have am:r0<y1:=by rw [J];exact Nat.mod_lt _ (by omega)
    have V:Hid (Gss 4294967296 R1 t0 y1 y0 Q0 r0):=by
     unfold Hid;rw [E,J];exact Gss.start (by omega) (by omega) (by omega) b0 (by rw [i.out];exact t)
    clear E J N S;go_wp2_with fail;generalize q'=qa at *;go_loop [18,16] (fun a b=>∃ q r:Nat,a=.int .u64 (q:Int)∧b=.int .u64 (r:Int)∧r<4294967296∧Hid (Gss 4294967296 R1 t0 y1 y0 q r)) (fun a _=>(intOf a).toNat)
    case atStart=>exact ⟨Q0,r0,rfl,rfl,by omega,V⟩
    case round=>
     clear V;obtain ⟨q,r,rfl,rfl,ah,hG⟩:=hrel;have H:=hG.out.le;by_cases hq:q<4294967296
     ·have k1:¬ (4294967296:Int)≤(q:Int):=by omega
      obtain ⟨qy,k⟩:∃ qy,qy=q*y0:=⟨_,rfl⟩
      have p:qy≤4294967295*4294967295:=by rw [k];exact Nat.mul_le_mul (by omega) (by omega)
      have k2:IntKind.u64.wrap ((q:Int)*(y0:Int))=(qy:Int):=by
       rw [show (q:Int)*(y0:Int)=((q*y0:Nat):Int) by simp,← k,IntKind.wrap_u64];omega
      obtain ⟨br,x⟩:∃ br,br=4294967296*r:=⟨_,rfl⟩
      have k3:IntKind.u64.wrap (4294967296*(r:Int))=(br:Int):=by rw [IntKind.wrap_u64];omega
      obtain ⟨bt,A⟩:∃ bt,bt=br+t0:=⟨_,rfl⟩
      have k4:IntKind.u64.wrap ((br:Int)+(t0:Int))=(bt:Int):=by rw [IntKind.wrap_u64];omega
      by_cases hc:bt<qy
      ·have k5:(bt:Int)<(qy:Int):=by omega
       obtain ⟨G,o⟩:=hG.out.next (by omega) (by rw [i.out];exact t) (.inr (by rw [← k,← x,← A];exact hc));have g:=aa o;obtain ⟨q',l⟩:∃ q',q=q'+1:=⟨q-1,by omega⟩
       rw [show q-1=q' by omega] at g;have F:q'≤4294967296:=by omega
       have k8:IntKind.u64.wrap ((q:Int)-1)=(q':Int):=by rw [IntKind.wrap_u64];omega
       have HQ:=aa l;clear l;clear hG o k x A p H G hq ;obtain ⟨r2,j⟩:∃ r2,r2=r+y1:=⟨_,rfl⟩
       have k6:IntKind.u64.wrap ((r:Int)+(y1:Int))=(r2:Int):=by rw [IntKind.wrap_u64];omega
       rw [← j] at g;by_cases hov:r2<4294967296
       ·have k7:¬ (4294967296:Int)≤(r2:Int):=by omega
        clear j;go_wp2_with fail;go_round
        case rel=>exact ⟨q',r2,rfl,rfl,hov,g⟩
        case measure=>have:=HQ.out;simp [intOf];omega
       ·have k7:(4294967296:Int)≤(r2:Int):=by omega
        have d:=g.out.stop (by rw [i.out];omega) (Gss.over (by omega) b0 (by omega));rw [i.out] at d;clear j g;have h:=bf (R1*4294967296+t0) Y;rw [← d,← Q.out] at h;obtain ⟨p0,c⟩:∃ p0,p0=q'*Y:=⟨_,rfl⟩
        rw [← c] at h;obtain ⟨X,R,C,n1,n2,n3,n4⟩:=cZ h (by omega);have W:IntKind.u64.wrap ((q':Int)*(Y:Int))=(C:Int):=by rw [← n3,c];try simp
        have f:=(cH (B:=4294967296) (U:=U) (u:=t1) (v:=t0) (Y:=Y) (q0:=q') (by omega) O.out (by rw [← L.out];exact d)).1;rw [← P.out,D1.out] at f;obtain ⟨qs,D⟩:∃ qs,qs=qa*4294967296:=⟨_,rfl⟩
        have n5:IntKind.u64.wrap ((qa:Int)*4294967296)=(qs:Int):=by rw [IntKind.wrap_u64];omega
        have n6:IntKind.u64.wrap ((qs:Int)+(q':Int))=(QQ:Int):=by rw [IntKind.wrap_u64];omega
        clear h c d f D n3;go_wp2_with fail;go_ret2;exact ⟨rfl,0,rfl⟩
      ·have k5:¬ (bt:Int)<(qy:Int):=by omega
       have d:=hG.out.stop (by rw [i.out];omega) (by rw [← k,← x,← A];omega);rw [i.out] at d;clear hG k x A p H;have h:=bf (R1*4294967296+t0) Y;rw [← d,← Q.out] at h;obtain ⟨p0,c⟩:∃ p0,p0=q*Y:=⟨_,rfl⟩
       rw [← c] at h;obtain ⟨X,R,C,n1,n2,n3,n4⟩:=cZ h (by omega);have W:IntKind.u64.wrap ((q:Int)*(Y:Int))=(C:Int):=by rw [← n3,c];try simp
       have f:=(cH (B:=4294967296) (U:=U) (u:=t1) (v:=t0) (Y:=Y) (q0:=q) (by omega) O.out (by rw [← L.out];exact d)).1;rw [← P.out,D1.out] at f;obtain ⟨qs,D⟩:∃ qs,qs=qa*4294967296:=⟨_,rfl⟩
       have n5:IntKind.u64.wrap ((qa:Int)*4294967296)=(qs:Int):=by rw [IntKind.wrap_u64];omega
       have n6:IntKind.u64.wrap ((qs:Int)+(q:Int))=(QQ:Int):=by rw [IntKind.wrap_u64];omega
       clear h c d f D n3;go_wp2_with fail;go_ret2;exact ⟨rfl,0,rfl⟩
     ·have k1:(4294967296:Int)≤(q:Int):=by omega
      obtain ⟨G,o⟩:=hG.out.next (by omega) (by rw [i.out];exact t) (.inl (by omega));have g:=aa o;obtain ⟨q',l⟩:∃ q',q=q'+1:=⟨q-1,by omega⟩
      rw [show q-1=q' by omega] at g;have F:q'≤4294967296:=by omega
      have k8:IntKind.u64.wrap ((q:Int)-1)=(q':Int):=by rw [IntKind.wrap_u64];omega
      have HQ:=aa l;clear l;clear hG o H G;obtain ⟨r2,j⟩:∃ r2,r2=r+y1:=⟨_,rfl⟩
      have k6:IntKind.u64.wrap ((r:Int)+(y1:Int))=(r2:Int):=by rw [IntKind.wrap_u64];omega
      rw [← j] at g;by_cases hov:r2<4294967296
      ·have k7:¬ (4294967296:Int)≤(r2:Int):=by omega
       clear j;go_wp2_with fail;go_round
       case rel=>exact ⟨q',r2,rfl,rfl,hov,g⟩
       case measure=>have:=HQ.out;simp [intOf];omega
      ·have k7:(4294967296:Int)≤(r2:Int):=by omega
       have d:=g.out.stop (by rw [i.out];omega) (Gss.over (by omega) b0 (by omega));rw [i.out] at d;clear j g;have h:=bf (R1*4294967296+t0) Y;rw [← d,← Q.out] at h;obtain ⟨p0,c⟩:∃ p0,p0=q'*Y:=⟨_,rfl⟩
       rw [← c] at h;obtain ⟨X,R,C,n1,n2,n3,n4⟩:=cZ h (by omega);have W:IntKind.u64.wrap ((q':Int)*(Y:Int))=(C:Int):=by rw [← n3,c];try simp
       have f:=(cH (B:=4294967296) (U:=U) (u:=t1) (v:=t0) (Y:=Y) (q0:=q') (by omega) O.out (by rw [← L.out];exact d)).1;rw [← P.out,D1.out] at f;obtain ⟨qs,D⟩:∃ qs,qs=qa*4294967296:=⟨_,rfl⟩
       have n5:IntKind.u64.wrap ((qa:Int)*4294967296)=(qs:Int):=by rw [IntKind.wrap_u64];omega
       have n6:IntKind.u64.wrap ((qs:Int)+(q':Int))=(QQ:Int):=by rw [IntKind.wrap_u64];omega
       clear h c d f D n3;go_wp2_with fail;go_ret2;exact ⟨rfl,0,rfl⟩

theorem Ab (hi lo y:Nat) (hl:lo<18446744073709551616) (hy:y<18446744073709551616) (hlt:hi<y) (w:World) :
  Calls Tryz.prog 166 #[.int .u64 (hi:Nat),.int .u64 (lo:Nat),.int .u64 (y:Nat)] w fun e w'=>e=.returned (.tuple #[.int .u64 ((hi*18446744073709551616+lo)/y:Nat),.int .u64 ((hi*18446744073709551616+lo)%y:Nat)])∧∃ m,w'=w.drewN m:=by
 rcases Nat.eq_zero_or_pos hi with h | h
 ·subst h;have:=Bx lo y hl (by omega) w;simpa using this
 ·exact BQ hi lo y hl hy h hlt w

theorem Cr (hi lo y R:Nat) (hl:lo<18446744073709551616) (hy:y<18446744073709551616) (h0:0<y) (hR:R=(hi*18446744073709551616+lo)%y) (w:World) :
  Calls Tryz.prog 121 #[.int .u64 (hi:Nat),.int .u64 (lo:Nat),.int .u64 (y:Nat)] w fun e w'=>e=.returned (.int .u64 (R:Nat))∧∃ m,w'=w.drewN m:=by
 obtain ⟨h1,a⟩:∃ h1,h1=hi%y:=⟨_,rfl⟩
 have hD:=fun W=>Ab h1 lo y hl hy (by rw [a];exact Nat.mod_lt _ h0) W
 have e1:(h1*18446744073709551616+lo)%y=R:=by
  rw [hR,a,Nat.add_mod,Nat.mod_mul_mod,← Nat.add_mod]
 rw [e1] at hD;have e2:(hi:Int)%(y:Int)=(h1:Int):=by rw [a];simp
 have g0:¬ (y:Int)=0:=by omega
 clear a hR e1;generalize (h1*18446744073709551616+lo)/y=Q at *;go_enter Tryz.func121,Tryz.ntmps121;go_wp2_with fail;refine (hD _).mono ?_;rintro e w' ⟨rfl,m,rfl⟩;go_wp2;go_ret;exact ⟨rfl,m,rfl⟩

theorem cG {B:Nat} {zs:List Nat} {j:Nat} (h:j<zs.length):val (zs.drop j) B=zs.getD j 0+B*val (zs.drop (j+1)) B:=by
 rw [List.drop_eq_getElem_cons h,List.getD_eq_getElem?_getD,List.getElem?_eq_getElem h];rfl

theorem pg {B D:Nat} {zs:List Nat} {j:Nat} (h:j<zs.length):val (zs.drop j) B%D=(val (zs.drop (j+1)) B%D*B+zs.getD j 0)%D:=by
 rw [cG h,Nat.add_comm,Nat.mul_comm B,Nat.add_mod (val (zs.drop (j+1)) B%D*B),Nat.mod_mul_mod,← Nat.add_mod]

theorem vK (ao:Option Addr) (L cap:Nat) (xs:List Nat) (D:Nat) (hD:D<18446744073709551616) (bA bD bR:Nat) (w:World) (hu:Row .u64 w (.slice ao L cap) xs) (n:Digs xs) (hL:L≤1000000)
  (hA:Box w bA (.slice ao L cap) 32) (o:Box w bD (.int .u64 (D:Nat)) 23) (hR:Box w bR (.int .u64 0) 23) (z:bA≠bR) (y:bD≠bR) (t:xs≠[]→∀ b,(Value.slice ao L cap).ownBlock=some b→b≠bR) :
  Calls Tryz.prog 119 #[.pointer (some ⟨bD,0,none⟩),.pointer (some ⟨bA,0,none⟩),.pointer (some ⟨bR,0,none⟩)] w fun e w'=>
   (D≠0∧e=.returned (.tuple #[])∧Kept (fun b=>b=bR) w w'∧Box w' bR (.int .u64 (val xs%D:Nat)) 23)∨(D=0∧e=.panicked [refusal 1]∧w'=w):=by
 have cA:=hA.cell;have cD:=o.cell;have cR:=hR.cell;have fR:=hR.free;by_cases h0:D=0
 ·subst h0;have hY:=iu 1 w;clear hu n;go_enter Tryz.func119,Tryz.ntmps119;go_wp2_with fail;refine hY.mono ?_;rintro e w' ⟨rfl,rfl⟩;exact ⟨rfl,.inr ⟨by first | rfl | trivial,rfl,rfl⟩⟩
 ·have hN:=ji 1 w;have g0:((D:Int) == 0)=false:=by simp;omega
  obtain ⟨_,_,_,e1,q,_,_,_,_⟩:=hu.open;cases e1
  have eL:=aa q.out;have HA:=aa hA;have v:=aa o;have HR:=aa hR;have HU:=aa hu;have h:Hid (∀ k,xs.getD k 0<18446744073709551616):=fun k=>n.getD (by omega) _
  have E:0<D:=by omega
  clear hu n q hA o hR h0;go_enter Tryz.func119,Tryz.ntmps119;go_wp2_with fail;refine hN.mono ?_;rintro e w1 ⟨rfl,rfl⟩;clear hN;go_wp2_with fail;go_loopw [9] (fun i wr=>∃ (k:Nat),k≤L∧i=.int .i64 (k:Int)∧Kept (fun b=>b=bR) w1 wr∧Box wr bR (.int .u64 (val (xs.drop (L-k))%D:Nat)) 23) (fun i _=>L-(intOf i).toNat)
  case atStart=>exact ⟨0,Nat.zero_le _,rfl,ai _ _,by rw [Nat.sub_zero,List.drop_of_length_le (by have:=eL.out;omega)];simpa [val] using HR.out⟩
  case round=>
   clear cA cD cR fR;obtain ⟨k,hk,rfl,d,a⟩:=hrel;by_cases hkn:k<L
   ·have J:(0:Int)≤(k:Int):=Int.natCast_nonneg _;have A:(k:Int)<(L:Int):=by omega
    have cA:=(HA.out.kept d z).cell;have cD:=(v.out.kept d y).cell;have cR:=a.cell;obtain ⟨j,hj⟩:∃ j,j=L-1-k:=⟨_,rfl⟩
    obtain ⟨_,_,_,e2,_,_,_,_,c⟩:=(HU.out.kept' d t).open;cases e2
    obtain ⟨b2,s,rfl,M⟩:=c j (by omega);have f:=pg (B:=18446744073709551616) (D:=D) (zs:=xs) (j:=j) (by have:=eL.out;omega);rw [show j+1=L-k by omega] at f;have hx:=h.out j;obtain ⟨r,hr⟩:∃ r,r=val (xs.drop (L-k))%D:=⟨_,rfl⟩
    rw [← hr] at f cR a;obtain ⟨r2,p⟩:∃ r2,r2=val (xs.drop j)%D:=⟨_,rfl⟩
    rw [← p] at f;have l:=fun W=>Cr r (xs.getD j 0) D r2 hx hD E f W
    obtain ⟨L1,F⟩:∃ L1,L1=L-1:=⟨_,rfl⟩
    have I:IntKind.i64.wrap ((L:Int)-1)=(L1:Int):=by rw [IntKind.wrap_i64];omega
    have H:IntKind.i64.wrap ((L1:Int)-(k:Int))=(j:Int):=by rw [IntKind.wrap_i64];omega
    have G:(j:Int)<(L:Int):=by omega
    have HJ:Hid (r2=val (xs.drop (L-(k+1)))%D):=by unfold Hid;rw [p,show L-(k+1)=j by omega]
    have C:=aa a;have fR:=a.free;clear f hr p hj c a h F;generalize xs.getD j 0=x at *;go_wp2_with fail;go_still_tail 10,(by kernel_rfl)
    change wpList _ _ _ _ _ wr.drew
    go_wp2_with fail;refine (l _).mono ?_;rintro e w7 ⟨rfl,m,rfl⟩;have g:=aa (C.out.drew.grew ((ai af wr.drew).drewN m));have c7:=g.out.cell;have f7:=g.out.free;have k7:=aa (d.drew.drewN m);generalize wr.drew.drewN m=W7 at *;go_wp2_with fail;go_roundw
    case rel=>exact ⟨k+1,by omega,by go_num,k7.out.trans (ar _ _ _),by rw [← HJ.out];exact g.out.set _⟩
    case measure=>simp [intOf];omega
   ·have A:¬ (k:Int)<(L:Int):=by omega
    obtain rfl:k=L:=by omega
    rw [Nat.sub_self,List.drop_zero] at a;clear h;go_wp2_with fail;go_end0
    exact .inl ⟨by omega,rfl,d,a⟩

theorem um (ao:Option Addr) (L cap:Nat) (xs:List Nat) (D R E:Nat) (hD:D<18446744073709551616) (hR:R=if D=0 then 0 else val xs%D) (hE:E=if D=0 then 1 else 0) (w:World) (hu:Row .u64 w (.slice ao L cap) xs) (i:Digs xs) (hL:L≤1000000) :
  Calls Tryz.prog 80 #[.slice ao L cap,.int .u64 (D:Nat)] w fun e w'=>e=.returned (.tuple #[.int .u64 (R:Nat),.int .i64 (E:Nat)])∧Kept af w w':=by
 have g:=eR;have d:=lQ w (.slice ao L cap) (.int .u64 (D:Nat)) (.int .u64 0) 32 23 23;have he:∀ args w,(callFunc 119 args).run Tryz.prog w=.ok (.enter 119 args) w:=fun _ _=>by simp [go_sem]
 have HR:=aa hR;have HE:=aa hE;clear hR hE;go_enter Tryz.func80,Tryz.ntmps80;go_wp2_with fail;generalize ((w.alloc (.cells #[.slice ao L cap] 32)).alloc (.cells #[.int .u64 (D:Nat)] 23)).alloc (.cells #[.int .u64 0] 23)=W at *;obtain ⟨k0,x1,x2,x3,hs⟩:=d;have k1:=k0.alloc (.cells #[.int .i64 0] 33);have xe:=Box.new W (.int .i64 0) 33;have c:xs≠[]→∀ b,(Value.slice ao L cap).ownBlock=some b→b≠w.heap.size+1+1:=fun h b hb e=>by have:=hu.lt h b hb;omega
 have h1:=vK ao L cap xs D hD _ _ _ _ (hu.grew k1) i hL (x1.alloc _) (x2.alloc _) (x3.alloc (.cells #[.int .i64 0] 33)) (by omega) (by omega) c;refine (iP 119 _ W (fun n W'=>n=(E:Int)∧Kept af w W'∧Box W' (w.heap.size+1+1) (.int .u64 (R:Nat)) 23) he (h1.mono ?_)).mono ?_
 ·rintro e w' (⟨hl,rfl,hk,hb⟩ | ⟨hl,rfl,rfl⟩)
  ·have e1:=HR.out;have e2:=HE.out;rw [if_neg hl] at e1 e2;rw [← e1] at hb;exact ⟨xe.kept hk (by omega),.inl ⟨rfl,by rw [e2];rfl,k1.next hk (fun x hx e=>by omega),hb⟩⟩
  ·have e1:=HR.out;have e2:=HE.out;rw [if_pos hl] at e1 e2;exact ⟨xe,.inr ⟨1,rfl,by rw [e2];rfl,k1,by rw [e1];exact x3.alloc _⟩⟩
 ·rintro e w' ⟨n,w1,rfl,⟨⟨rfl,hk,hb⟩,f⟩,rfl⟩;have a:=hb.other ⟨W.heap.size,0,none⟩ (by show _≠W.heap.size;omega) (.int .i64 (E:Int));have c1:=a.cell;have f1:=a.free;have c3:=(a.set (.int .u64 (R:Nat))).cell;have k2:=(hk.next (ar w1 W.heap.size (.int .i64 (E:Int))) (fun x hx e=>by omega)).next (ar _ (w.heap.size+1+1) (.int .u64 (R:Nat))) (fun x hx e=>by omega)
  have HK:=aa k2;generalize w1.setCell ⟨W.heap.size,0,none⟩ (.int .i64 (E:Int))=W2 at *;clear h1 hb a hk k2 f hu x1 x2 x3 xe k0 k1 c he g;go_wp2_with fail;refine bodyPost_ret (v:=.tuple #[.int .u64 (R:Nat),.int .i64 (E:Nat)]) (by simp [results,Tryz.results80,go_sem,c3]) rfl ?_;exact ⟨rfl,HK.out⟩

end Go.Proofs.YtcemlfokmjjiaaaGreatDoor
