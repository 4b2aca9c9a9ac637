/- Put together of: Law22 Prw3 Div1 PrF. -/
import Derived.Test.YtkaojflnghfmcaaGreatDoorQA24

namespace Go.Proofs.YtkaojflnghfmcaaGreatDoor
set_option maxRecDepth 100000
set_option maxHeartbeats 4000000
open Go.RowKit

def KS.light (s:KS):Prop:=s.nl≤1000∧s.dl≤1000∧s.pl≤1000∧s.ql≤1000∧s.dpl≤1000∧s.dql≤1000∧s.qil≤1000

theorem KS.few.light {s:KS} (h:s.few):s.light:=by
 obtain ⟨h0,h1,h2,h3,h4,h5,h6⟩:=h;have a0:=h0.le;have a1:=h1.le;have a2:=h2.le;have a3:=h3.le;have a4:=h4.le;have a5:=h5.le;have a6:=h6.le;exact ⟨by omega,by omega,by omega,by omega,by omega,by omega,by omega⟩

def PlaR (l:KL) (e:Nat) (cs:List Nat) (E:Nat) (RL:List Nat):Prop:=
 ((E=190∧¬ KeyGood l.n l.d l.p l.q l.dp l.dq l.qi e)∨(KeyGood l.n l.d l.p l.q l.dp l.dq l.qi e∧E=gr (val l.n) cs))∧RL=(if E=0 then bes (bev cs^val l.d%val l.n) cs.length cs.length else [])

theorem PlaR.digs {l:KL} {e:Nat} {cs:List Nat} {E:Nat} {RL:List Nat} (h:PlaR l e cs E RL):Digs RL 256:=by
 rw [h.2]
 split
 ·exact mw _ _ _
 ·exact Digs.nil _

def Ai:Prop:=∀ (s:KS) (l:KL) (co:Option Addr) (cl cc:Nat) (cs:List Nat) (w:World),s.en<18446744073709551616→s.Rows w l→l.Digs→s.light→Row .u8 w (.slice co cl cc) cs→Digs cs 256→cl≤10000 →
 Calls Tryz.prog 11 #[.agg s.v,.slice co cl cc] w fun q w'=>∃ v' E,q=.returned (.tuple #[v',.int .i64 ((E:Nat):Int)])∧∃ RL,PlaR l s.en cs E RL∧(Row .u8 w' v' RL∧∀ b,v'.ownBlock=some b→w.heap.size≤b)∧Kept af w w'

def uk:Prop:=∀ (p:Option Addr) (B:Nat) (bs ns:List Nat) (ao:Option Addr) (L cap:Nat) (r1:List Nat) (r2 r3:Nat) (r4:List Nat) (w:World),j7 ns bs=(r1,r2,r3,r4)→Lsc w p B bs→B≤w.heap.size→Digs bs 256→bs.length≤10000→Row .u64 w (.slice ao L cap) ns→Digs ns→L≤1000 →
 Calls Tryz.prog 15 #[.pointer p,.slice ao L cap] w fun e w'=>∃ u,e=.returned (.tuple #[u,.int .i64 (r2:Nat),.int .i64 (r3:Nat)])∧(Row .u64 w' u r1∧∀ b,u.ownBlock=some b→w.heap.size≤b)∧Lsc w' p B r4∧Kept (ofP p) w w'

theorem vY (s:KS) (l:KL) (co:Option Addr) (cl cc:Nat) (cs:List Nat) (w:World) (he:s.en<18446744073709551616) (hr:s.Rows w l) (hd:l.Digs) (hl:s.light) (hc:Row .u8 w (.slice co cl cc) cs) (c:Digs cs 256) (f:cl≤10000) (E:Nat) (RL:List Nat) (h:PlaR l s.en cs E RL) :
  Calls Tryz.prog 12 #[.agg s.v,.slice co cl cc] w fun q w'=>∃ v',q=.returned (.tuple #[v',.int .i64 ((E:Nat):Int)])∧Row .u8 w' v' RL∧(∀ b,v'.ownBlock=some b→w.heap.size≤b)∧Kept af w w':=by
 obtain ⟨h0,h1,h2,h3,h4,h5,h6⟩:=hl;obtain ⟨_,_,_,e1,e,-,-,-,-⟩:=hc.open;cases e1
 have a:RL=if E=0 then bes (bev cs^val l.d%val l.n) cl cl else []:=by rw [h.2,e.out]
 exact tr s.no s.dO s.po s.qo s.dpo s.dqo s.qio s.nl s.nc s.dl s.dc s.pl s.pc s.ql s.qc s.dpl s.dpc s.dql s.dqc s.qil s.qic s.en l.n l.d l.p l.q l.dp l.dq l.qi he co cl cc cs E RL h.1 a w hr.n hr.d hr.p hr.q hr.dp hr.dq hr.qi hd.n hd.d hd.p hd.q (by omega) (by omega) (by omega) (by omega) hc c (by omega)

theorem yG (s:KS) (co bo fo:Option Addr) (cl cc bl bc fl fc:Nat) (c:Int) (R:Bool) (hR:R=true↔s.few∧s.nl≤9∧cl≤200∧bl≤500∧fl≤20) (w:World) :
  Calls Tryz.prog 10 #[.agg s.v,.slice co cl cc,.slice bo bl bc,.agg #[.int .i64 c,.slice fo fl fc]] w fun r w'=>r=.returned (.bool R)∧Kept af w w':=by
 obtain ⟨W,hW⟩:∃ W,W=(w.alloc (.cells s.v 26)).alloc (.cells #[.int .i64 c,.slice fo fl fc] 31):=⟨_,rfl⟩
 have k0:Kept af w W:=by rw [hW];exact ((ah af w).alloc _).alloc _
 have b1:W.heap[w.heap.size]? = some (.cells s.v 26 (0,0)):=by rw [hW];exact am (heap_alloc_new _ _)
 have b2:W.heap[w.heap.size+1]? = some (.cells #[.int .i64 c,.slice fo fl fc] 31 (0,0)):=by
  rw [hW];have:=heap_alloc_new (w.alloc (.cells s.v 26)) (.cells #[.int .i64 c,.slice fo fl fc] 31)
  rwa [World.size_alloc] at this
 obtain ⟨d0,d1,d2,d3,d4,d5,d6,d7⟩:=aE b1;have HC:Hid (∀ W',Kept af W W'→W'.cell? ⟨w.heap.size,0,none⟩=some (.slice s.no s.nl s.nc)∧W'.cell? ⟨w.heap.size+1,1,none⟩=some (.slice fo fl fc)):=fun W' k=>⟨(aE ((k.block _ (lt_of_block b1) (fun f=>f)).trans b1)).1,k.cellN ((cell_of_row W _ 1 _ _ _ b2).trans rfl)⟩
 have HW:=aa hW;have b:=aa k0;clear hW k0 b1 b2;by_cases h0:s.few
 ·have J0:=rZ s true (iff_of_true rfl h0) W;by_cases h1:s.nl≤9
  ·have g1:(s.nl:Int)≤9:=by omega
   by_cases h2:cl≤200
   ·have g2:(cl:Int)≤200:=by omega
    by_cases h3:bl≤500
    ·have g3:(bl:Int)≤500:=by omega
     by_cases h4:fl≤20
     ·have g4:(fl:Int)≤20:=by omega
      obtain rfl:R=true:=hR.2 ⟨h0,h1,h2,h3,h4⟩;clear hR h0 h1 h2 h3 h4;unfold KS.v at HW ⊢;go_enter Tryz.func10,Tryz.ntmps10;go_wp2_with (rw [← HW.out]);refine J0.mono ?_;rintro r w1 ⟨rfl,k1⟩;obtain ⟨c0,c1⟩:=HC.out w1 k1;have a:=aa (b.out.trans k1);clear J0 k1 HC;go_wp2_with fail;go_ret;exact ⟨by first | rfl | (simp;omega),a.out⟩
     ·have g4:¬ (fl:Int)≤20:=by omega
      obtain rfl:R=false:=by
       cases e:R with
       | false=>rfl
       | true=>exact absurd (hR.1 e).2.2.2.2 h4
      clear hR h0 h1 h2 h3 h4;unfold KS.v at HW ⊢;go_enter Tryz.func10,Tryz.ntmps10;go_wp2_with (rw [← HW.out]);refine J0.mono ?_;rintro r w1 ⟨rfl,k1⟩;obtain ⟨c0,c1⟩:=HC.out w1 k1;have a:=aa (b.out.trans k1);clear J0 k1 HC;go_wp2_with fail;go_ret;exact ⟨by first | rfl | (simp;omega),a.out⟩
    ·have g3:¬ (bl:Int)≤500:=by omega
     obtain rfl:R=false:=by
      cases e:R with
      | false=>rfl
      | true=>exact absurd (hR.1 e).2.2.2.1 h3
     clear hR h0 h1 h2 h3;unfold KS.v at HW ⊢;go_enter Tryz.func10,Tryz.ntmps10;go_wp2_with (rw [← HW.out]);refine J0.mono ?_;rintro r w1 ⟨rfl,k1⟩;obtain ⟨c0,c1⟩:=HC.out w1 k1;have a:=aa (b.out.trans k1);clear J0 k1 HC;go_wp2_with fail;go_ret;exact ⟨by first | rfl | (simp;omega),a.out⟩
   ·have g2:¬ (cl:Int)≤200:=by omega
    obtain rfl:R=false:=by
     cases e:R with
     | false=>rfl
     | true=>exact absurd (hR.1 e).2.2.1 h2
    clear hR h0 h1 h2;unfold KS.v at HW ⊢;go_enter Tryz.func10,Tryz.ntmps10;go_wp2_with (rw [← HW.out]);refine J0.mono ?_;rintro r w1 ⟨rfl,k1⟩;obtain ⟨c0,c1⟩:=HC.out w1 k1;have a:=aa (b.out.trans k1);clear J0 k1 HC;go_wp2_with fail;go_ret;exact ⟨by first | rfl | (simp;omega),a.out⟩
  ·have g1:¬ (s.nl:Int)≤9:=by omega
   obtain rfl:R=false:=by
    cases e:R with
    | false=>rfl
    | true=>exact absurd (hR.1 e).2.1 h1
   clear hR h0 h1;unfold KS.v at HW ⊢;go_enter Tryz.func10,Tryz.ntmps10;go_wp2_with (rw [← HW.out]);refine J0.mono ?_;rintro r w1 ⟨rfl,k1⟩;obtain ⟨c0,c1⟩:=HC.out w1 k1;have a:=aa (b.out.trans k1);clear J0 k1 HC;go_wp2_with fail;go_ret;exact ⟨by first | rfl | (simp;omega),a.out⟩
 ·have J0:=rZ s false (iff_of_false (by decide) h0) W;obtain rfl:R=false:=by
   cases e:R with
   | false=>rfl
   | true=>exact absurd (hR.1 e).1 h0
  clear hR h0;unfold KS.v at HW ⊢;go_enter Tryz.func10,Tryz.ntmps10;go_wp2_with (rw [← HW.out]);refine J0.mono ?_;rintro r w1 ⟨rfl,k1⟩;obtain ⟨c0,c1⟩:=HC.out w1 k1;have a:=aa (b.out.trans k1);clear J0 k1 HC;go_wp2_with fail;go_ret;exact ⟨by first | rfl | (simp;omega),a.out⟩

theorem xX {P:Program} {md:Region.Mode} {ops:Array Oper} {Q:Exit→Act→World→Prop} {S:World→Prop} {e:Nat} {b:Array Bool} {a:Act} {w:World} (hp:∀ c a d v w,Q (.panic c) (a.put d v) w→Q (.panic c) a w) (h:∀ Q':Exit→Act→World→Prop,(∀ c a d v w,Q' (.panic c) (a.put d v) w→Q' (.panic c) a w)→Shut (∀ a w,Q .normal a w→Q' .normal a w)→wpAnyH P md ops Q' S e b a w):wpAnyH P md ops Q S e b a w:=
 h Q hp (fun _ _ h=>h)

theorem aY {w w':World} {b:Nat} {cs:Array Value} {t:TypeId} {fr:Nat × Nat} (h:w.heap[b]? = some (.cells cs t fr)) (k:Kept af w w'):w'.heap[b]? = some (.cells cs t fr):=(k.block _ (lt_of_block h) (fun f=>f)).trans h

structure Gss (B U u y1 y0 q r:Nat):Prop where
 eq:q*y1+r=U
 ge:(U*B+u)/(y1*B+y0)≤q
 le:q≤B+1

theorem kL (q y1 y0 B:Nat):(y1*B+y0)*q=q*y1*B+q*y0:=by
 rw [Nat.add_mul,Nat.mul_comm (y1*B) q,← Nat.mul_assoc,Nat.mul_comm y0 q]

theorem Gss.start {B U u y1 y0:Nat} (hB:0<B) (hu:u<B) (h1:B≤2*y1) (h0:y0<B) (hU:U<y1*B+y0):Gss B U u y1 y0 (U/y1) (U%y1):=by
 have a:0<y1:=by omega
 refine ⟨by rw [Nat.mul_comm];exact Nat.div_add_mod U y1,?_,?_⟩
 ·have e:(U*B+u)/(y1*B)=U/y1:=by
   rw [Nat.mul_comm y1 B,← Nat.div_div_eq_div_mul,Nat.mul_comm U B,Nat.mul_add_div hB,Nat.div_eq_of_lt hu,Nat.add_zero]
  rw [← e];exact Nat.div_le_div_left (by omega) (Nat.mul_pos a hB)
 ·have h2:U/y1<B+2:=by
   rw [Nat.div_lt_iff_lt_mul a,Nat.add_mul,Nat.mul_comm B y1];omega
  omega

theorem lU {B U u Y:Nat} (hu:u<B) (hU:U<Y):(U*B+u)/Y<B:=by
 rw [Nat.div_lt_iff_lt_mul (by omega)];have:(U+1)*B≤Y*B:=Nat.mul_le_mul_right _ hU;rw [Nat.add_mul,Nat.one_mul] at this;rw [Nat.mul_comm B Y];omega

theorem pF {q A Y:Nat} (hY:0<Y) (h1:A/Y≤q) (h2:Y*q≤A):q=A/Y:=by
 have h3:q≤A/Y:=(Nat.le_div_iff_mul_le hY).2 (by rw [Nat.mul_comm];exact h2);omega

theorem Gss.stop {B U u y1 y0 q r:Nat} (g:Gss B U u y1 y0 q r) (hY:0<y1*B+y0) (ht:q*y0≤B*r+u):q=(U*B+u)/(y1*B+y0):=by
 refine pF hY g.ge ?_;rw [kL,← g.eq,Nat.add_mul,Nat.mul_comm r B];omega

theorem Gss.next {B U u y1 y0 q r:Nat} (g:Gss B U u y1 y0 q r) (hu:u<B) (hU:U<y1*B+y0) (ht:B≤q∨B*r+u<q*y0):0<q∧Gss B U u y1 y0 (q-1) (r+y1):=by
 have hlt:(U*B+u)/(y1*B+y0)<q:=by
  rcases ht with h | h
  ·exact Nat.lt_of_lt_of_le (lU hu hU) h
  ·rw [Nat.div_lt_iff_lt_mul (by omega),Nat.mul_comm q,kL,← g.eq,Nat.add_mul,Nat.mul_comm r B];omega
 have hq:0<q:=Nat.lt_of_le_of_lt (Nat.zero_le _) hlt;refine ⟨hq,?_,Nat.le_sub_one_of_lt hlt,by have:=g.le;omega⟩;obtain ⟨p,rfl⟩:∃ p,q=p+1:=⟨q-1,by omega⟩
 have:=g.eq;rw [Nat.add_mul,Nat.one_mul] at this;rw [Nat.add_sub_cancel];omega

theorem Gss.over {B u y0 q r:Nat} (hq:q≤B) (h0:y0<B) (hr:B≤r):q*y0≤B*r+u:=by
 have h1:q*y0≤B*B:=Nat.le_trans (Nat.mul_le_mul_right _ hq) (Nat.mul_le_mul_left _ (by omega));have h2:B*B≤B*r:=Nat.mul_le_mul_left _ hr;omega

theorem bg (A Y:Nat):A/Y*Y+A%Y=A:=by rw [Nat.mul_comm];exact Nat.div_add_mod A Y

theorem cI {B U u v Y q1 q0:Nat} (hY:0<Y) (h1:q1=(U*B+u)/Y) (h0:q0=((U*B+u)%Y*B+v)/Y) :
  q1*B+q0=((U*B+u)*B+v)/Y∧((U*B+u)%Y*B+v)%Y=((U*B+u)*B+v)%Y:=by
 have e:=Nat.div_add_mod (U*B+u) Y;have e2:(U*B+u)*B+v=Y*(q1*B)+((U*B+u)%Y*B+v):=by
  have:(U*B+u)*B=(Y*((U*B+u)/Y)+(U*B+u)%Y)*B:=by rw [e]
  rw [this,Nat.add_mul,← h1,Nat.mul_assoc];omega
 refine ⟨?_,?_⟩
 ·rw [e2,Nat.mul_add_div hY,← h0]
 ·rw [e2,Nat.mul_add_mod]

theorem iU {M y p:Nat} (hp:0<p):(M*p)/(y*p)=M/y∧(M*p)%(y*p)/p=M%y:=by
 refine ⟨Nat.mul_div_mul_right _ _ hp,?_⟩;rw [Nat.mul_mod_mul_right,Nat.mul_div_cancel _ hp]

theorem qq {B b U V ul vl U3 V2:Nat} (hU:U=U3*b+ul) (d:ul<b) (hV:V=V2*b+vl) (g:vl<b) (f:B≤V2) (hB:0<B) (hQ:U3/V2≤B) :
  U/V≤U3/V2∧U3/V2≤U/V+1:=by
 have hb:0<b:=by omega
 have a:0<V2:=by omega
 have c:0<V:=by
  have:1*1≤V2*b:=Nat.mul_le_mul a hb;omega
 refine ⟨?_,?_⟩
 ·have e:U/(V2*b)=U3/V2:=by
   rw [Nat.mul_comm V2 b,← Nat.div_div_eq_div_mul,hU,Nat.mul_comm U3 b,Nat.mul_add_div hb,Nat.div_eq_of_lt d,Nat.add_zero]
  rw [← e];exact Nat.div_le_div_left (by omega) (Nat.mul_pos a hb)
 ·generalize hQq:U3/V2=Q at *;rcases Nat.eq_zero_or_pos Q with h | h
  ·rw [h];exact Nat.zero_le _
  ·obtain ⟨p,rfl⟩:∃ p,Q=p+1:=⟨Q-1,by omega⟩
   have h3:V2*(p+1)≤U3:=by rw [← hQq];exact Nat.mul_div_le U3 V2
   have:p≤U/V:=by
    rw [Nat.le_div_iff_mul_le c,hV,hU,Nat.mul_add];have h4:p*vl≤p*b:=Nat.mul_le_mul_left _ (by omega);have h5:p*b≤V2*b:=Nat.mul_le_mul_right _ (by omega);have h6:V2*(p+1)*b≤U3*b:=Nat.mul_le_mul_right _ h3;rw [Nat.mul_add,Nat.mul_one,Nat.add_mul] at h6;have h7:p*(V2*b)=V2*p*b:=by rw [← Nat.mul_assoc,Nat.mul_comm p V2]
    omega
   exact Nat.succ_le_succ this

theorem oB {B b U V ul vl U1 V1:Nat} (hU:U=U1*b+ul) (hV:V=V1*b+vl) (f:vl<b) (a:U<V*B) (e:B≤2*V1) (hB:2≤B) (h:V1*B≤U1) :
  U/V≤B-1∧B-1≤U/V+1:=by
 have d:0<V:=by
  rcases Nat.eq_zero_or_pos V with h | h
  ·rw [h] at a;omega
  ·exact h
 refine ⟨?_,?_⟩
 ·have:U/V<B:=(Nat.div_lt_iff_lt_mul d).2 (by rw [Nat.mul_comm];exact a);omega
 ·obtain ⟨c,rfl⟩:∃ c,B=c+2:=⟨B-2,by omega⟩
  have:c≤U/V:=by
   rw [Nat.le_div_iff_mul_le d,hV,hU,Nat.mul_add];have h1:V1*(c+2)*b≤U1*b:=Nat.mul_le_mul_right _ h;have h2:c*vl≤c*b:=Nat.mul_le_mul_left _ (by omega);have h3:(c+2)*b≤2*V1*b:=Nat.mul_le_mul_right _ e;rw [Nat.mul_add,Nat.add_mul] at h1;rw [Nat.add_mul] at h3;have h4:c*(V1*b)=V1*c*b:=by rw [← Nat.mul_assoc,Nat.mul_comm c V1]
   have h5:V1*2*b=2*V1*b:=by rw [Nat.mul_comm V1 2]
   omega
  exact Nat.succ_le_succ this

theorem bLz (y:Nat) (hy:y<18446744073709551616) (w:World) :
  Calls Tryz.prog 265 #[.int .u64 (y:Nat)] w fun e w'=>e=.returned (.int .i64 (64-au y:Nat))∧w'=w:=by
 have b:au y≤64:=(aA y 64).2 hy;have a:=Any.bits_Len64 yX (y:Int) w (by omega) (by omega);rw [show ((y:Int).toNat)=y from rfl,fX y hy] at a;generalize au y=M at *;go_enter Tryz.func265,Tryz.ntmps265;go_wp2_with fail;refine a.mono ?_;rintro e w' ⟨rfl,rfl⟩;go_wp2;go_ret;refine ⟨?_,rfl⟩;simp;omega

theorem pg (x:Nat) (h:x<18446744073709551616):bits .and .u64 (x:Int) 4294967295=((x%4294967296:Nat):Int):=by
 have e:=u64_and_nat x 4294967295 (by omega) (by omega);rw [show (4294967295:Nat)=2^32-1 from rfl,Nat.and_two_pow_sub_one_eq_mod] at e;exact e

theorem sS (hi lo s:Nat) (hs:s≤64) (h1:hi*2^s<18446744073709551616) (h2:lo<18446744073709551616):bits .or .u64 (IntKind.u64.wrap ((hi:Int)*2^s)) ((lo:Int)/2^(64-s))=((hi*2^s+lo/2^(64-s):Nat):Int):=by
 have e1:(hi:Int)*2^s=((hi*2^s:Nat):Int):=by simp
 have e2:(lo:Int)/2^(64-s)=((lo/2^(64-s):Nat):Int):=by simp
 have h3:lo/2^(64-s)<2^s:=by
  rw [Nat.div_lt_iff_lt_mul (Nat.pow_pos (by omega)),← Nat.pow_add,show s+(64-s)=64 by omega];exact h2
 have h4:lo/2^(64-s)≤lo:=Nat.div_le_self _ _;rw [e1,e2,IntKind.wrap_u64];have e3:((hi*2^s:Nat):Int)%18446744073709551616=((hi*2^s:Nat):Int):=by omega
 rw [e3,u64_or_nat _ _ (by omega) (by omega),Nat.mul_comm hi (2^s),← Nat.two_pow_add_eq_or_of_lt h3]

theorem de {P U t R:Nat} (h:P+R=U*4294967296+t) (hR:R<18446744073709551616) :
  ∃ a1 a2 a3:Nat,IntKind.u64.wrap ((U:Int)*4294967296)=(a1:Int)∧IntKind.u64.wrap ((a1:Int)+(t:Int))=(a2:Int)∧IntKind.u64.wrap (P:Int)=(a3:Int)∧IntKind.u64.wrap ((a2:Int)-(a3:Int))=(R:Int):=by
 refine ⟨U*4294967296%18446744073709551616,(U*4294967296+t)%18446744073709551616,P%18446744073709551616,?_,?_,?_,?_⟩ <;> rw [IntKind.wrap_u64] <;> omega

theorem mX {y:Nat} (h0:0<y) (hy:y<18446744073709551616):64-au y≤63∧y*2^(64-au y)<18446744073709551616∧9223372036854775808≤y*2^(64-au y):=by
 have a:au y≤64:=(aA y 64).2 hy;have h1:¬ au y≤0:=fun h=>by have:=(aA y 0).1 h;omega
 have h2:=(aA y (au y)).1 (leR _);have h3:¬ y<2^(au y-1):=fun h=>by have:=(aA y (au y-1)).2 h;omega
 refine ⟨by omega,?_,?_⟩
 ·have:y*2^(64-au y)<2^au y*2^(64-au y):=Nat.mul_lt_mul_of_pos_right h2 (Nat.pow_pos (by omega))
  rwa [← Nat.pow_add,show au y+(64-au y)=64 by omega] at this
 ·have:2^(au y-1)*2^(64-au y)≤y*2^(64-au y):=Nat.mul_le_mul_right _ (by omega)
  rwa [← Nat.pow_add,show au y-1+(64-au y)=63 by omega] at this

theorem Ak (lo y:Nat) (hl:lo<18446744073709551616) (h0:0<y) (w:World) :
  Calls Tryz.prog 274 #[.int .u64 0,.int .u64 (lo:Nat),.int .u64 (y:Nat)] w fun e w'=>e=.returned (.tuple #[.int .u64 (lo/y:Nat),.int .u64 (lo%y:Nat)])∧∃ m,w'=w.drewN m:=by
 have g1:((y:Int) == 0)=false:=by simp;omega
 have g2:¬ (y:Int)≤0:=by omega
 have g3:¬ (y:Int)=0:=by omega
 obtain ⟨Q,hQ⟩:∃ Q,Q=lo/y:=⟨_,rfl⟩
 obtain ⟨R,hR⟩:∃ R,R=lo%y:=⟨_,rfl⟩
 have hq:=Nat.div_le_self lo y;have e1:IntKind.u64.wrap ((lo:Int)/(y:Int))=(Q:Int):=by
  rw [show (lo:Int)/(y:Int)=((lo/y:Nat):Int) by simp,← hQ,IntKind.wrap_u64];omega
 have e2:(lo:Int)%(y:Int)=(R:Int):=by rw [hR];simp
 rw [← hQ,← hR];clear hQ hR hq;go_enter Tryz.func274,Tryz.ntmps274;go_wp2;go_region
 all_goals
  go_wp2;go_ret2;refine ⟨?_,1,rfl⟩;show Ending.returned (.tuple #[.int .u64 (Q:Int),.int .u64 ((lo:Int)%(y:Int))])=_
  rw [e2]

theorem Al (hi lo y:Nat) (hl:lo<18446744073709551616) (hy:y<18446744073709551616) (h0:0<hi) (hlt:hi<y) (w:World) :
  Calls Tryz.prog 274 #[.int .u64 (hi:Nat),.int .u64 (lo:Nat),.int .u64 (y:Nat)] w fun e w'=>e=.returned (.tuple #[.int .u64 ((hi*18446744073709551616+lo)/y:Nat),.int .u64 ((hi*18446744073709551616+lo)%y:Nat)])∧∃ m,w'=w.drewN m:=by
 have g1:((y:Int) == 0)=false:=by simp;omega
 have g2:¬ (y:Int)≤(hi:Int):=by omega
 have g3:((hi:Int) == 0)=false:=by simp;omega
 have hZ:=bLz y hy;obtain ⟨f1,f2,f3⟩:=mX (y:=y) (by omega) hy;generalize 64-au y=s at *;obtain ⟨Y,hY⟩:∃ Y,Y=y*2^s:=⟨_,rfl⟩
 have e1:IntKind.u64.wrap ((y:Int)*2^s)=(Y:Int):=by
  rw [show (y:Int)*2^s=((y*2^s:Nat):Int) by simp,← hY,IntKind.wrap_u64];omega
 have Z:0<2^s:=Nat.pow_pos (by omega);have an:hi*2^s<y*2^s:=Nat.mul_lt_mul_of_pos_right hlt Z;rw [← hY] at f2 f3 an;obtain ⟨U,hU⟩:∃ U,U=hi*2^s+lo/2^(64-s):=⟨_,rfl⟩
 obtain ⟨T,hT⟩:∃ T,T=lo*2^s%18446744073709551616:=⟨_,rfl⟩
 have eU:bits .or .u64 (IntKind.u64.wrap ((hi:Int)*2^s)) ((lo:Int)/2^(64-s))=(U:Int):=by rw [hU];exact sS hi lo s (by omega) (by omega) hl
 have eT:IntKind.u64.wrap ((lo:Int)*2^s)=(T:Int):=by
  rw [show (lo:Int)*2^s=((lo*2^s:Nat):Int) by simp,IntKind.wrap_u64];omega
 have hN:(hi*18446744073709551616+lo)*2^s=U*18446744073709551616+T:=by
  have h5:lo/2^(64-s)=lo*2^s/18446744073709551616:=by
   rw [show (18446744073709551616:Nat)=2^(64-s)*2^s by rw [← Nat.pow_add,show 64-s+s=64 by omega],Nat.mul_div_mul_right _ _ Z]
  rw [hU,h5,hT,Nat.add_mul,Nat.add_mul,Nat.mul_right_comm hi 18446744073709551616];generalize lo*2^s=z;omega
 have am:U<Y:=by
  have h6:(hi*18446744073709551616+lo)*2^s<(y*18446744073709551616)*2^s:=Nat.mul_lt_mul_of_pos_right (by omega) Z;rw [hN,Nat.mul_right_comm,← hY] at h6;omega
 have al:T<18446744073709551616:=by rw [hT];exact Nat.mod_lt _ (by omega)
 obtain ⟨QQ,ac⟩:∃ QQ,QQ=(hi*18446744073709551616+lo)/y:=⟨_,rfl⟩
 obtain ⟨RR,ai⟩:∃ RR,RR=(hi*18446744073709551616+lo)%y:=⟨_,rfl⟩
 obtain ⟨d1,d2⟩:=iU (M:=hi*18446744073709551616+lo) (y:=y) Z;rw [hN,← hY,← ac] at d1;rw [hN,← hY,← ai] at d2;rw [← ac,← ai];have az:QQ<18446744073709551616:=by
  rw [ac,Nat.div_lt_iff_lt_mul (by omega)];have:(hi+1)*18446744073709551616≤y*18446744073709551616:=Nat.mul_le_mul_right _ hlt;omega
 have D1:=aa d1;have D2:=aa d2;obtain ⟨y1,aC⟩:∃ y1,y1=Y/4294967296:=⟨_,rfl⟩
 obtain ⟨y0,ap⟩:∃ y0,y0=Y%4294967296:=⟨_,rfl⟩
 obtain ⟨t1,aB⟩:∃ t1,t1=T/4294967296:=⟨_,rfl⟩
 obtain ⟨t0,ao⟩:∃ t0,t0=T%4294967296:=⟨_,rfl⟩
 have e2:(Y:Int)/4294967296=(y1:Int):=by omega
 have e3:bits .and .u64 (Y:Int) 4294967295=(y0:Int):=by rw [ap];exact pg Y f2
 have e4:(T:Int)/4294967296=(t1:Int):=by omega
 have e5:bits .and .u64 (T:Int) 4294967295=(t0:Int):=by rw [ao];exact pg T al
 have g4:¬ (y1:Int)=0:=by omega
 have b1:y1<4294967296:=by omega
 have aD:2147483648≤y1:=by omega
 have b0:y0<4294967296:=by omega
 have c1:t1<4294967296:=by omega
 have c0:t0<4294967296:=by omega
 have i:Hid (y1*4294967296+y0=Y):=by unfold Hid;omega
 have P:Hid (U*18446744073709551616+T=(U*4294967296+t1)*4294967296+t0):=by unfold Hid;omega
 have ag:=aa am;have HS:Hid (0<2^s):=Z;have aF:U<18446744073709551616:=by omega
 obtain ⟨R1,ad⟩:∃ R1,R1=(U*4294967296+t1)%Y:=⟨_,rfl⟩
 obtain ⟨R2,ae⟩:∃ R2,R2=(R1*4294967296+t0)%Y:=⟨_,rfl⟩
 have t:R1<Y:=by rw [ad];exact Nat.mod_lt _ (by omega)
 have aA:R2<Y:=by rw [ae];exact Nat.mod_lt _ (by omega)
 have L:=aa ad;have Q:=aa ae;have aE:(R2:Int)/2^s=(RR:Int):=by
  have:=(cI (B:=4294967296) (U:=U) (u:=t1) (v:=t0) (Y:=Y) (by omega) rfl rfl).2;rw [← ad,← ae,← P.out] at this;rw [← this] at d2;rw [show (R2:Int)/2^s=((R2/2^s:Nat):Int) by simp,d2]
 clear aC ap aB ao hU hT hN al an ac ai hY d1 d2 Z ad ae am;obtain ⟨Q1,ab⟩:∃ q,q=U/y1:=⟨_,rfl⟩
 obtain ⟨M1,ah⟩:∃ q,q=Q1*y1:=⟨_,rfl⟩
 obtain ⟨r1,af⟩:∃ q,q=U%y1:=⟨_,rfl⟩
 have aI:IntKind.u64.wrap ((U:Int)/(y1:Int))=(Q1:Int):=by
  have:=Nat.div_le_self U y1;rw [← ab] at this;rw [show (U:Int)/(y1:Int)=((U/y1:Nat):Int) by simp,← ab,IntKind.wrap_u64];omega
 have av:=bg U y1;rw [← ab,← ah,← af] at av;have aH:IntKind.u64.wrap ((Q1:Int)*(y1:Int))=(M1:Int):=by
  rw [show (Q1:Int)*(y1:Int)=((Q1*y1:Nat):Int) by simp,← ah,IntKind.wrap_u64];omega
 have aJ:IntKind.u64.wrap ((U:Int)-(M1:Int))=(r1:Int):=by
  rw [IntKind.wrap_u64];omega
 have aG:r1<y1:=by rw [af];exact Nat.mod_lt _ (by omega)
 have ak:Hid (Gss 4294967296 U t1 y1 y0 Q1 r1):=by
  unfold Hid;rw [ab,af];exact Gss.start (by omega) (by omega) (by omega) b0 (by rw [i.out];exact ag.out)
 clear ab af ah av;go_enter Tryz.func274,Tryz.ntmps274;go_wp2_with fail;refine (hZ _).mono ?_;rintro e w' ⟨rfl,rfl⟩;clear hZ;go_wp2_with fail;go_loop [15,16] (fun a b=>∃ q r:Nat,a=.int .u64 (q:Int)∧b=.int .u64 (r:Int)∧r<4294967296∧Hid (Gss 4294967296 U t1 y1 y0 q r)) (fun a _=>(intOf a).toNat)
 case atStart=>exact ⟨Q1,r1,rfl,rfl,by omega,ak⟩
 case round=>
  clear ak;obtain ⟨q,r,rfl,rfl,aj,hG⟩:=hrel;have G:=hG.out.le;by_cases hq:q<4294967296
  ·have k1:¬ (4294967296:Int)≤(q:Int):=by omega
   obtain ⟨qy,k⟩:∃ qy,qy=q*y0:=⟨_,rfl⟩
   have p:qy≤4294967295*4294967295:=by rw [k];exact Nat.mul_le_mul (by omega) (by omega)
   have k2:IntKind.u64.wrap ((q:Int)*(y0:Int))=(qy:Int):=by
    rw [show (q:Int)*(y0:Int)=((q*y0:Nat):Int) by simp,← k,IntKind.wrap_u64];omega
   obtain ⟨br,x⟩:∃ br,br=4294967296*r:=⟨_,rfl⟩
   have k3:IntKind.u64.wrap (4294967296*(r:Int))=(br:Int):=by rw [IntKind.wrap_u64];omega
   obtain ⟨bt,A⟩:∃ bt,bt=br+t1:=⟨_,rfl⟩
   have k4:IntKind.u64.wrap ((br:Int)+(t1:Int))=(bt:Int):=by rw [IntKind.wrap_u64];omega
   by_cases hc:bt<qy
   ·have k5:(bt:Int)<(qy:Int):=by omega
    obtain ⟨F,l⟩:=hG.out.next (by omega) (by rw [i.out];exact ag.out) (.inr (by rw [← k,← x,← A];exact hc));have g:=aa l;obtain ⟨q',o⟩:∃ q',q=q'+1:=⟨q-1,by omega⟩
    rw [show q-1=q' by omega] at g;have H:q'≤4294967296:=by omega
    have k8:IntKind.u64.wrap ((q:Int)-1)=(q':Int):=by rw [IntKind.wrap_u64];omega
    have HQ:=aa o;clear o;clear hG l k x A p G F hq ;obtain ⟨r2,j⟩:∃ r2,r2=r+y1:=⟨_,rfl⟩
    have k6:IntKind.u64.wrap ((r:Int)+(y1:Int))=(r2:Int):=by rw [IntKind.wrap_u64];omega
    rw [← j] at g;by_cases hov:r2<4294967296
    ·have k7:¬ (4294967296:Int)≤(r2:Int):=by omega
     clear j;go_wp2_with fail;go_round
     case rel=>exact ⟨q',r2,rfl,rfl,hov,g⟩
     case measure=>have:=HQ.out;simp [intOf];omega
    ·have k7:(4294967296:Int)≤(r2:Int):=by omega
     have d:=g.out.stop (by rw [i.out];omega) (Gss.over (by omega) b0 (by omega));rw [i.out] at d;clear j g;have I:=bg (U*4294967296+t1) Y;rw [← d,← L.out] at I;obtain ⟨p1,n⟩:∃ p1,p1=q'*Y:=⟨_,rfl⟩
     rw [← n] at I;obtain ⟨a1,a2,a3,m1,m2,m3,m4⟩:=de I (by omega);have aq:IntKind.u64.wrap ((q':Int)*(Y:Int))=(a3:Int):=by rw [← m3,n];try simp
     have N:=aa d;clear I n m3 d;obtain ⟨Q0,D⟩:∃ q,q=R1/y1:=⟨_,rfl⟩
     obtain ⟨M0,O⟩:∃ q,q=Q0*y1:=⟨_,rfl⟩
     obtain ⟨r0,J⟩:∃ q,q=R1%y1:=⟨_,rfl⟩
     have ax:IntKind.u64.wrap ((R1:Int)/(y1:Int))=(Q0:Int):=by
      have:=Nat.div_le_self R1 y1;rw [← D] at this;rw [show (R1:Int)/(y1:Int)=((R1/y1:Nat):Int) by simp,← D,IntKind.wrap_u64];omega
     have X:=bg R1 y1;rw [← D,← O,← J] at X;have aw:IntKind.u64.wrap ((Q0:Int)*(y1:Int))=(M0:Int):=by
      rw [show (Q0:Int)*(y1:Int)=((Q0*y1:Nat):Int) by simp,← O,IntKind.wrap_u64];omega
     have ay:IntKind.u64.wrap ((R1:Int)-(M0:Int))=(r0:Int):=by
      rw [IntKind.wrap_u64];omega
     have ar:r0<y1:=by rw [J];exact Nat.mod_lt _ (by omega)
     have R:Hid (Gss 4294967296 R1 t0 y1 y0 Q0 r0):=by
      unfold Hid;rw [D,J];exact Gss.start (by omega) (by omega) (by omega) b0 (by rw [i.out];exact t)
     clear D J O X;go_wp2_with fail;generalize q'=qa at *;go_loop [18,16] (fun a b=>∃ q r:Nat,a=.int .u64 (q:Int)∧b=.int .u64 (r:Int)∧r<4294967296∧Hid (Gss 4294967296 R1 t0 y1 y0 q r)) (fun a _=>(intOf a).toNat)
     case atStart=>exact ⟨Q0,r0,rfl,rfl,by omega,R⟩
     case round=>
      clear R;obtain ⟨q,r,rfl,rfl,aj,hG⟩:=hrel;have G:=hG.out.le;by_cases hq:q<4294967296
      ·have k1:¬ (4294967296:Int)≤(q:Int):=by omega
       obtain ⟨qy,k⟩:∃ qy,qy=q*y0:=⟨_,rfl⟩
       have p:qy≤4294967295*4294967295:=by rw [k];exact Nat.mul_le_mul (by omega) (by omega)
       have k2:IntKind.u64.wrap ((q:Int)*(y0:Int))=(qy:Int):=by
        rw [show (q:Int)*(y0:Int)=((q*y0:Nat):Int) by simp,← k,IntKind.wrap_u64];omega
       obtain ⟨br,x⟩:∃ br,br=4294967296*r:=⟨_,rfl⟩
       have k3:IntKind.u64.wrap (4294967296*(r:Int))=(br:Int):=by rw [IntKind.wrap_u64];omega
       obtain ⟨bt,A⟩:∃ bt,bt=br+t0:=⟨_,rfl⟩
       have k4:IntKind.u64.wrap ((br:Int)+(t0:Int))=(bt:Int):=by rw [IntKind.wrap_u64];omega
       by_cases hc:bt<qy
       ·have k5:(bt:Int)<(qy:Int):=by omega
        obtain ⟨F,l⟩:=hG.out.next (by omega) (by rw [i.out];exact t) (.inr (by rw [← k,← x,← A];exact hc));have g:=aa l;obtain ⟨q',o⟩:∃ q',q=q'+1:=⟨q-1,by omega⟩
        rw [show q-1=q' by omega] at g;have H:q'≤4294967296:=by omega
        have k8:IntKind.u64.wrap ((q:Int)-1)=(q':Int):=by rw [IntKind.wrap_u64];omega
        have HQ:=aa o;clear o;clear hG l k x A p G F hq ;obtain ⟨r2,j⟩:∃ r2,r2=r+y1:=⟨_,rfl⟩
        have k6:IntKind.u64.wrap ((r:Int)+(y1:Int))=(r2:Int):=by rw [IntKind.wrap_u64];omega
        rw [← j] at g;by_cases hov:r2<4294967296
        ·have k7:¬ (4294967296:Int)≤(r2:Int):=by omega
         clear j;go_wp2_with fail;go_round
         case rel=>exact ⟨q',r2,rfl,rfl,hov,g⟩
         case measure=>have:=HQ.out;simp [intOf];omega
        ·have k7:(4294967296:Int)≤(r2:Int):=by omega
         have d:=g.out.stop (by rw [i.out];omega) (Gss.over (by omega) b0 (by omega));rw [i.out] at d;clear j g;have h:=bg (R1*4294967296+t0) Y;rw [← d,← Q.out] at h;obtain ⟨p0,c⟩:∃ p0,p0=q'*Y:=⟨_,rfl⟩
         rw [← c] at h;obtain ⟨S,V,C,n1,n2,n3,n4⟩:=de h (by omega);have W:IntKind.u64.wrap ((q':Int)*(Y:Int))=(C:Int):=by rw [← n3,c];try simp
         have f:=(cI (B:=4294967296) (U:=U) (u:=t1) (v:=t0) (Y:=Y) (q0:=q') (by omega) N.out (by rw [← L.out];exact d)).1;rw [← P.out,D1.out] at f;obtain ⟨qs,E⟩:∃ qs,qs=qa*4294967296:=⟨_,rfl⟩
         have n5:IntKind.u64.wrap ((qa:Int)*4294967296)=(qs:Int):=by rw [IntKind.wrap_u64];omega
         have n6:IntKind.u64.wrap ((qs:Int)+(q':Int))=(QQ:Int):=by rw [IntKind.wrap_u64];omega
         clear h c d f E n3;go_wp2_with fail;go_ret2;exact ⟨rfl,0,rfl⟩
       ·have k5:¬ (bt:Int)<(qy:Int):=by omega
        have d:=hG.out.stop (by rw [i.out];omega) (by rw [← k,← x,← A];omega);rw [i.out] at d;clear hG k x A p G;have h:=bg (R1*4294967296+t0) Y;rw [← d,← Q.out] at h;obtain ⟨p0,c⟩:∃ p0,p0=q*Y:=⟨_,rfl⟩
        rw [← c] at h;obtain ⟨S,V,C,n1,n2,n3,n4⟩:=de h (by omega);have W:IntKind.u64.wrap ((q:Int)*(Y:Int))=(C:Int):=by rw [← n3,c];try simp
        have f:=(cI (B:=4294967296) (U:=U) (u:=t1) (v:=t0) (Y:=Y) (q0:=q) (by omega) N.out (by rw [← L.out];exact d)).1;rw [← P.out,D1.out] at f;obtain ⟨qs,E⟩:∃ qs,qs=qa*4294967296:=⟨_,rfl⟩
        have n5:IntKind.u64.wrap ((qa:Int)*4294967296)=(qs:Int):=by rw [IntKind.wrap_u64];omega
        have n6:IntKind.u64.wrap ((qs:Int)+(q:Int))=(QQ:Int):=by rw [IntKind.wrap_u64];omega
        clear h c d f E n3;go_wp2_with fail;go_ret2;exact ⟨rfl,0,rfl⟩
      ·have k1:(4294967296:Int)≤(q:Int):=by omega
       obtain ⟨F,l⟩:=hG.out.next (by omega) (by rw [i.out];exact t) (.inl (by omega));have g:=aa l;obtain ⟨q',o⟩:∃ q',q=q'+1:=⟨q-1,by omega⟩
       rw [show q-1=q' by omega] at g;have H:q'≤4294967296:=by omega
       have k8:IntKind.u64.wrap ((q:Int)-1)=(q':Int):=by rw [IntKind.wrap_u64];omega
       have HQ:=aa o;clear o;clear hG l G F;obtain ⟨r2,j⟩:∃ r2,r2=r+y1:=⟨_,rfl⟩
       have k6:IntKind.u64.wrap ((r:Int)+(y1:Int))=(r2:Int):=by rw [IntKind.wrap_u64];omega
       rw [← j] at g;by_cases hov:r2<4294967296
       ·have k7:¬ (4294967296:Int)≤(r2:Int):=by omega
        clear j;go_wp2_with fail;go_round
        case rel=>exact ⟨q',r2,rfl,rfl,hov,g⟩
        case measure=>have:=HQ.out;simp [intOf];omega
       ·have k7:(4294967296:Int)≤(r2:Int):=by omega
        have d:=g.out.stop (by rw [i.out];omega) (Gss.over (by omega) b0 (by omega));rw [i.out] at d;clear j g;have h:=bg (R1*4294967296+t0) Y;rw [← d,← Q.out] at h;obtain ⟨p0,c⟩:∃ p0,p0=q'*Y:=⟨_,rfl⟩
        rw [← c] at h;obtain ⟨S,V,C,n1,n2,n3,n4⟩:=de h (by omega);have W:IntKind.u64.wrap ((q':Int)*(Y:Int))=(C:Int):=by rw [← n3,c];try simp
        have f:=(cI (B:=4294967296) (U:=U) (u:=t1) (v:=t0) (Y:=Y) (q0:=q') (by omega) N.out (by rw [← L.out];exact d)).1;rw [← P.out,D1.out] at f;obtain ⟨qs,E⟩:∃ qs,qs=qa*4294967296:=⟨_,rfl⟩
        have n5:IntKind.u64.wrap ((qa:Int)*4294967296)=(qs:Int):=by rw [IntKind.wrap_u64];omega
        have n6:IntKind.u64.wrap ((qs:Int)+(q':Int))=(QQ:Int):=by rw [IntKind.wrap_u64];omega
        clear h c d f E n3;go_wp2_with fail;go_ret2;exact ⟨rfl,0,rfl⟩
   ·have k5:¬ (bt:Int)<(qy:Int):=by omega
    have d:=hG.out.stop (by rw [i.out];omega) (by rw [← k,← x,← A];omega);rw [i.out] at d;clear hG k x A p G;have I:=bg (U*4294967296+t1) Y;rw [← d,← L.out] at I;obtain ⟨p1,n⟩:∃ p1,p1=q*Y:=⟨_,rfl⟩
    rw [← n] at I;obtain ⟨a1,a2,a3,m1,m2,m3,m4⟩:=de I (by omega);have aq:IntKind.u64.wrap ((q:Int)*(Y:Int))=(a3:Int):=by rw [← m3,n];try simp
    have N:=aa d;clear I n m3 d;obtain ⟨Q0,D⟩:∃ q,q=R1/y1:=⟨_,rfl⟩
    obtain ⟨M0,O⟩:∃ q,q=Q0*y1:=⟨_,rfl⟩
    obtain ⟨r0,J⟩:∃ q,q=R1%y1:=⟨_,rfl⟩
    have ax:IntKind.u64.wrap ((R1:Int)/(y1:Int))=(Q0:Int):=by
     have:=Nat.div_le_self R1 y1;rw [← D] at this;rw [show (R1:Int)/(y1:Int)=((R1/y1:Nat):Int) by simp,← D,IntKind.wrap_u64];omega
    have X:=bg R1 y1;rw [← D,← O,← J] at X;have aw:IntKind.u64.wrap ((Q0:Int)*(y1:Int))=(M0:Int):=by
     rw [show (Q0:Int)*(y1:Int)=((Q0*y1:Nat):Int) by simp,← O,IntKind.wrap_u64];omega
    have ay:IntKind.u64.wrap ((R1:Int)-(M0:Int))=(r0:Int):=by
     rw [IntKind.wrap_u64];omega
    have ar:r0<y1:=by rw [J];exact Nat.mod_lt _ (by omega)
    have R:Hid (Gss 4294967296 R1 t0 y1 y0 Q0 r0):=by
     unfold Hid;rw [D,J];exact Gss.start (by omega) (by omega) (by omega) b0 (by rw [i.out];exact t)
    clear D J O X;go_wp2_with fail;generalize q=qa at *;go_loop [18,16] (fun a b=>∃ q r:Nat,a=.int .u64 (q:Int)∧b=.int .u64 (r:Int)∧r<4294967296∧Hid (Gss 4294967296 R1 t0 y1 y0 q r)) (fun a _=>(intOf a).toNat)
    case atStart=>exact ⟨Q0,r0,rfl,rfl,by omega,R⟩
    case round=>
     clear R;obtain ⟨q,r,rfl,rfl,aj,hG⟩:=hrel;have G:=hG.out.le;by_cases hq:q<4294967296
     ·have k1:¬ (4294967296:Int)≤(q:Int):=by omega
      obtain ⟨qy,k⟩:∃ qy,qy=q*y0:=⟨_,rfl⟩
      have p:qy≤4294967295*4294967295:=by rw [k];exact Nat.mul_le_mul (by omega) (by omega)
      have k2:IntKind.u64.wrap ((q:Int)*(y0:Int))=(qy:Int):=by
       rw [show (q:Int)*(y0:Int)=((q*y0:Nat):Int) by simp,← k,IntKind.wrap_u64];omega
      obtain ⟨br,x⟩:∃ br,br=4294967296*r:=⟨_,rfl⟩
      have k3:IntKind.u64.wrap (4294967296*(r:Int))=(br:Int):=by rw [IntKind.wrap_u64];omega
      obtain ⟨bt,A⟩:∃ bt,bt=br+t0:=⟨_,rfl⟩
      have k4:IntKind.u64.wrap ((br:Int)+(t0:Int))=(bt:Int):=by rw [IntKind.wrap_u64];omega
      by_cases hc:bt<qy
      ·have k5:(bt:Int)<(qy:Int):=by omega
       obtain ⟨F,l⟩:=hG.out.next (by omega) (by rw [i.out];exact t) (.inr (by rw [← k,← x,← A];exact hc));have g:=aa l;obtain ⟨q',o⟩:∃ q',q=q'+1:=⟨q-1,by omega⟩
       rw [show q-1=q' by omega] at g;have H:q'≤4294967296:=by omega
       have k8:IntKind.u64.wrap ((q:Int)-1)=(q':Int):=by rw [IntKind.wrap_u64];omega
       have HQ:=aa o;clear o;clear hG l k x A p G F hq ;obtain ⟨r2,j⟩:∃ r2,r2=r+y1:=⟨_,rfl⟩
       have k6:IntKind.u64.wrap ((r:Int)+(y1:Int))=(r2:Int):=by rw [IntKind.wrap_u64];omega
       rw [← j] at g;by_cases hov:r2<4294967296
       ·have k7:¬ (4294967296:Int)≤(r2:Int):=by omega
        clear j;go_wp2_with fail;go_round
        case rel=>exact ⟨q',r2,rfl,rfl,hov,g⟩
        case measure=>have:=HQ.out;simp [intOf];omega
       ·have k7:(4294967296:Int)≤(r2:Int):=by omega
        have d:=g.out.stop (by rw [i.out];omega) (Gss.over (by omega) b0 (by omega));rw [i.out] at d;clear j g;have h:=bg (R1*4294967296+t0) Y;rw [← d,← Q.out] at h;obtain ⟨p0,c⟩:∃ p0,p0=q'*Y:=⟨_,rfl⟩
        rw [← c] at h;obtain ⟨S,V,C,n1,n2,n3,n4⟩:=de h (by omega);have W:IntKind.u64.wrap ((q':Int)*(Y:Int))=(C:Int):=by rw [← n3,c];try simp
        have f:=(cI (B:=4294967296) (U:=U) (u:=t1) (v:=t0) (Y:=Y) (q0:=q') (by omega) N.out (by rw [← L.out];exact d)).1;rw [← P.out,D1.out] at f;obtain ⟨qs,E⟩:∃ qs,qs=qa*4294967296:=⟨_,rfl⟩
        have n5:IntKind.u64.wrap ((qa:Int)*4294967296)=(qs:Int):=by rw [IntKind.wrap_u64];omega
        have n6:IntKind.u64.wrap ((qs:Int)+(q':Int))=(QQ:Int):=by rw [IntKind.wrap_u64];omega
        clear h c d f E n3;go_wp2_with fail;go_ret2;exact ⟨rfl,0,rfl⟩
      ·have k5:¬ (bt:Int)<(qy:Int):=by omega
       have d:=hG.out.stop (by rw [i.out];omega) (by rw [← k,← x,← A];omega);rw [i.out] at d;clear hG k x A p G;have h:=bg (R1*4294967296+t0) Y;rw [← d,← Q.out] at h;obtain ⟨p0,c⟩:∃ p0,p0=q*Y:=⟨_,rfl⟩
       rw [← c] at h;obtain ⟨S,V,C,n1,n2,n3,n4⟩:=de h (by omega);have W:IntKind.u64.wrap ((q:Int)*(Y:Int))=(C:Int):=by rw [← n3,c];try simp
       have f:=(cI (B:=4294967296) (U:=U) (u:=t1) (v:=t0) (Y:=Y) (q0:=q) (by omega) N.out (by rw [← L.out];exact d)).1;rw [← P.out,D1.out] at f;obtain ⟨qs,E⟩:∃ qs,qs=qa*4294967296:=⟨_,rfl⟩
       have n5:IntKind.u64.wrap ((qa:Int)*4294967296)=(qs:Int):=by rw [IntKind.wrap_u64];omega
       have n6:IntKind.u64.wrap ((qs:Int)+(q:Int))=(QQ:Int):=by rw [IntKind.wrap_u64];omega
       clear h c d f E n3;go_wp2_with fail;go_ret2;exact ⟨rfl,0,rfl⟩
     ·have k1:(4294967296:Int)≤(q:Int):=by omega
      obtain ⟨F,l⟩:=hG.out.next (by omega) (by rw [i.out];exact t) (.inl (by omega));have g:=aa l;obtain ⟨q',o⟩:∃ q',q=q'+1:=⟨q-1,by omega⟩
      rw [show q-1=q' by omega] at g;have H:q'≤4294967296:=by omega
      have k8:IntKind.u64.wrap ((q:Int)-1)=(q':Int):=by rw [IntKind.wrap_u64];omega
      have HQ:=aa o;clear o;clear hG l G F;obtain ⟨r2,j⟩:∃ r2,r2=r+y1:=⟨_,rfl⟩
      have k6:IntKind.u64.wrap ((r:Int)+(y1:Int))=(r2:Int):=by rw [IntKind.wrap_u64];omega
      rw [← j] at g;by_cases hov:r2<4294967296
      ·have k7:¬ (4294967296:Int)≤(r2:Int):=by omega
       clear j;go_wp2_with fail;go_round
       case rel=>exact ⟨q',r2,rfl,rfl,hov,g⟩
       case measure=>have:=HQ.out;simp [intOf];omega
      ·have k7:(4294967296:Int)≤(r2:Int):=by omega
       have d:=g.out.stop (by rw [i.out];omega) (Gss.over (by omega) b0 (by omega));rw [i.out] at d;clear j g;have h:=bg (R1*4294967296+t0) Y;rw [← d,← Q.out] at h;obtain ⟨p0,c⟩:∃ p0,p0=q'*Y:=⟨_,rfl⟩
       rw [← c] at h;obtain ⟨S,V,C,n1,n2,n3,n4⟩:=de h (by omega);have W:IntKind.u64.wrap ((q':Int)*(Y:Int))=(C:Int):=by rw [← n3,c];try simp
       have f:=(cI (B:=4294967296) (U:=U) (u:=t1) (v:=t0) (Y:=Y) (q0:=q') (by omega) N.out (by rw [← L.out];exact d)).1;rw [← P.out,D1.out] at f;obtain ⟨qs,E⟩:∃ qs,qs=qa*4294967296:=⟨_,rfl⟩
       have n5:IntKind.u64.wrap ((qa:Int)*4294967296)=(qs:Int):=by rw [IntKind.wrap_u64];omega
       have n6:IntKind.u64.wrap ((qs:Int)+(q':Int))=(QQ:Int):=by rw [IntKind.wrap_u64];omega
       clear h c d f E n3;go_wp2_with fail;go_ret2;exact ⟨rfl,0,rfl⟩
  ·have k1:(4294967296:Int)≤(q:Int):=by omega
   obtain ⟨F,l⟩:=hG.out.next (by omega) (by rw [i.out];exact ag.out) (.inl (by omega));have g:=aa l;obtain ⟨q',o⟩:∃ q',q=q'+1:=⟨q-1,by omega⟩
   rw [show q-1=q' by omega] at g;have H:q'≤4294967296:=by omega
   have k8:IntKind.u64.wrap ((q:Int)-1)=(q':Int):=by rw [IntKind.wrap_u64];omega
   have HQ:=aa o;clear o;clear hG l G F;obtain ⟨r2,j⟩:∃ r2,r2=r+y1:=⟨_,rfl⟩
   have k6:IntKind.u64.wrap ((r:Int)+(y1:Int))=(r2:Int):=by rw [IntKind.wrap_u64];omega
   rw [← j] at g;by_cases hov:r2<4294967296
   ·have k7:¬ (4294967296:Int)≤(r2:Int):=by omega
    clear j;go_wp2_with fail;go_round
    case rel=>exact ⟨q',r2,rfl,rfl,hov,g⟩
    case measure=>have:=HQ.out;simp [intOf];omega
   ·have k7:(4294967296:Int)≤(r2:Int):=by omega
    have d:=g.out.stop (by rw [i.out];omega) (Gss.over (by omega) b0 (by omega));rw [i.out] at d;clear j g;have I:=bg (U*4294967296+t1) Y;rw [← d,← L.out] at I;obtain ⟨p1,n⟩:∃ p1,p1=q'*Y:=⟨_,rfl⟩
    rw [← n] at I;obtain ⟨a1,a2,a3,m1,m2,m3,m4⟩:=de I (by omega);have aq:IntKind.u64.wrap ((q':Int)*(Y:Int))=(a3:Int):=by rw [← m3,n];try simp
    have N:=aa d;clear I n m3 d;obtain ⟨Q0,D⟩:∃ q,q=R1/y1:=⟨_,rfl⟩
    obtain ⟨M0,O⟩:∃ q,q=Q0*y1:=⟨_,rfl⟩
    obtain ⟨r0,J⟩:∃ q,q=R1%y1:=⟨_,rfl⟩
    have ax:IntKind.u64.wrap ((R1:Int)/(y1:Int))=(Q0:Int):=by
     have:=Nat.div_le_self R1 y1;rw [← D] at this;rw [show (R1:Int)/(y1:Int)=((R1/y1:Nat):Int) by simp,← D,IntKind.wrap_u64];omega
    have X:=bg R1 y1;rw [← D,← O,← J] at X;have aw:IntKind.u64.wrap ((Q0:Int)*(y1:Int))=(M0:Int):=by
     rw [show (Q0:Int)*(y1:Int)=((Q0*y1:Nat):Int) by simp,← O,IntKind.wrap_u64];omega
    have ay:IntKind.u64.wrap ((R1:Int)-(M0:Int))=(r0:Int):=by
     rw [IntKind.wrap_u64];omega
    have ar:r0<y1:=by rw [J];exact Nat.mod_lt _ (by omega)
    have R:Hid (Gss 4294967296 R1 t0 y1 y0 Q0 r0):=by
     unfold Hid;rw [D,J];exact Gss.start (by omega) (by omega) (by omega) b0 (by rw [i.out];exact t)
    clear D J O X;go_wp2_with fail;generalize q'=qa at *;go_loop [18,16] (fun a b=>∃ q r:Nat,a=.int .u64 (q:Int)∧b=.int .u64 (r:Int)∧r<4294967296∧Hid (Gss 4294967296 R1 t0 y1 y0 q r)) (fun a _=>(intOf a).toNat)
    case atStart=>exact ⟨Q0,r0,rfl,rfl,by omega,R⟩
    case round=>
     clear R;obtain ⟨q,r,rfl,rfl,aj,hG⟩:=hrel;have G:=hG.out.le;by_cases hq:q<4294967296
     ·have k1:¬ (4294967296:Int)≤(q:Int):=by omega
      obtain ⟨qy,k⟩:∃ qy,qy=q*y0:=⟨_,rfl⟩
      have p:qy≤4294967295*4294967295:=by rw [k];exact Nat.mul_le_mul (by omega) (by omega)
      have k2:IntKind.u64.wrap ((q:Int)*(y0:Int))=(qy:Int):=by
       rw [show (q:Int)*(y0:Int)=((q*y0:Nat):Int) by simp,← k,IntKind.wrap_u64];omega
      obtain ⟨br,x⟩:∃ br,br=4294967296*r:=⟨_,rfl⟩
      have k3:IntKind.u64.wrap (4294967296*(r:Int))=(br:Int):=by rw [IntKind.wrap_u64];omega
      obtain ⟨bt,A⟩:∃ bt,bt=br+t0:=⟨_,rfl⟩
      have k4:IntKind.u64.wrap ((br:Int)+(t0:Int))=(bt:Int):=by rw [IntKind.wrap_u64];omega
      by_cases hc:bt<qy
      ·have k5:(bt:Int)<(qy:Int):=by omega
       obtain ⟨F,l⟩:=hG.out.next (by omega) (by rw [i.out];exact t) (.inr (by rw [← k,← x,← A];exact hc));have g:=aa l;obtain ⟨q',o⟩:∃ q',q=q'+1:=⟨q-1,by omega⟩
       rw [show q-1=q' by omega] at g;have H:q'≤4294967296:=by omega
       have k8:IntKind.u64.wrap ((q:Int)-1)=(q':Int):=by rw [IntKind.wrap_u64];omega
       have HQ:=aa o;clear o;clear hG l k x A p G F hq ;obtain ⟨r2,j⟩:∃ r2,r2=r+y1:=⟨_,rfl⟩
       have k6:IntKind.u64.wrap ((r:Int)+(y1:Int))=(r2:Int):=by rw [IntKind.wrap_u64];omega
       rw [← j] at g;by_cases hov:r2<4294967296
       ·have k7:¬ (4294967296:Int)≤(r2:Int):=by omega
        clear j;go_wp2_with fail;go_round
        case rel=>exact ⟨q',r2,rfl,rfl,hov,g⟩
        case measure=>have:=HQ.out;simp [intOf];omega
       ·have k7:(4294967296:Int)≤(r2:Int):=by omega
        have d:=g.out.stop (by rw [i.out];omega) (Gss.over (by omega) b0 (by omega));rw [i.out] at d;clear j g;have h:=bg (R1*4294967296+t0) Y;rw [← d,← Q.out] at h;obtain ⟨p0,c⟩:∃ p0,p0=q'*Y:=⟨_,rfl⟩
        rw [← c] at h;obtain ⟨S,V,C,n1,n2,n3,n4⟩:=de h (by omega);have W:IntKind.u64.wrap ((q':Int)*(Y:Int))=(C:Int):=by rw [← n3,c];try simp
        have f:=(cI (B:=4294967296) (U:=U) (u:=t1) (v:=t0) (Y:=Y) (q0:=q') (by omega) N.out (by rw [← L.out];exact d)).1;rw [← P.out,D1.out] at f;obtain ⟨qs,E⟩:∃ qs,qs=qa*4294967296:=⟨_,rfl⟩
        have n5:IntKind.u64.wrap ((qa:Int)*4294967296)=(qs:Int):=by rw [IntKind.wrap_u64];omega
        have n6:IntKind.u64.wrap ((qs:Int)+(q':Int))=(QQ:Int):=by rw [IntKind.wrap_u64];omega
        clear h c d f E n3;go_wp2_with fail;go_ret2;exact ⟨rfl,0,rfl⟩
      ·have k5:¬ (bt:Int)<(qy:Int):=by omega
       have d:=hG.out.stop (by rw [i.out];omega) (by rw [← k,← x,← A];omega);rw [i.out] at d;clear hG k x A p G;have h:=bg (R1*4294967296+t0) Y;rw [← d,← Q.out] at h;obtain ⟨p0,c⟩:∃ p0,p0=q*Y:=⟨_,rfl⟩
       rw [← c] at h;obtain ⟨S,V,C,n1,n2,n3,n4⟩:=de h (by omega);have W:IntKind.u64.wrap ((q:Int)*(Y:Int))=(C:Int):=by rw [← n3,c];try simp
       have f:=(cI (B:=4294967296) (U:=U) (u:=t1) (v:=t0) (Y:=Y) (q0:=q) (by omega) N.out (by rw [← L.out];exact d)).1;rw [← P.out,D1.out] at f;obtain ⟨qs,E⟩:∃ qs,qs=qa*4294967296:=⟨_,rfl⟩
       have n5:IntKind.u64.wrap ((qa:Int)*4294967296)=(qs:Int):=by rw [IntKind.wrap_u64];omega
       have n6:IntKind.u64.wrap ((qs:Int)+(q:Int))=(QQ:Int):=by rw [IntKind.wrap_u64];omega
       clear h c d f E n3;go_wp2_with fail;go_ret2;exact ⟨rfl,0,rfl⟩
     ·have k1:(4294967296:Int)≤(q:Int):=by omega
      obtain ⟨F,l⟩:=hG.out.next (by omega) (by rw [i.out];exact t) (.inl (by omega));have g:=aa l;obtain ⟨q',o⟩:∃ q',q=q'+1:=⟨q-1,by omega⟩
      rw [show q-1=q' by omega] at g;have H:q'≤4294967296:=by omega
      have k8:IntKind.u64.wrap ((q:Int)-1)=(q':Int):=by rw [IntKind.wrap_u64];omega
      have HQ:=aa o;clear o;clear hG l G F;obtain ⟨r2,j⟩:∃ r2,r2=r+y1:=⟨_,rfl⟩
      have k6:IntKind.u64.wrap ((r:Int)+(y1:Int))=(r2:Int):=by rw [IntKind.wrap_u64];omega
      rw [← j] at g;by_cases hov:r2<4294967296
      ·have k7:¬ (4294967296:Int)≤(r2:Int):=by omega
       clear j;go_wp2_with fail;go_round
       case rel=>exact ⟨q',r2,rfl,rfl,hov,g⟩
       case measure=>have:=HQ.out;simp [intOf];omega
      ·have k7:(4294967296:Int)≤(r2:Int):=by omega
       have d:=g.out.stop (by rw [i.out];omega) (Gss.over (by omega) b0 (by omega));rw [i.out] at d;clear j g;have h:=bg (R1*4294967296+t0) Y;rw [← d,← Q.out] at h;obtain ⟨p0,c⟩:∃ p0,p0=q'*Y:=⟨_,rfl⟩
       rw [← c] at h;obtain ⟨S,V,C,n1,n2,n3,n4⟩:=de h (by omega);have W:IntKind.u64.wrap ((q':Int)*(Y:Int))=(C:Int):=by rw [← n3,c];try simp
       have f:=(cI (B:=4294967296) (U:=U) (u:=t1) (v:=t0) (Y:=Y) (q0:=q') (by omega) N.out (by rw [← L.out];exact d)).1;rw [← P.out,D1.out] at f;obtain ⟨qs,E⟩:∃ qs,qs=qa*4294967296:=⟨_,rfl⟩
       have n5:IntKind.u64.wrap ((qa:Int)*4294967296)=(qs:Int):=by rw [IntKind.wrap_u64];omega
       have n6:IntKind.u64.wrap ((qs:Int)+(q':Int))=(QQ:Int):=by rw [IntKind.wrap_u64];omega
       clear h c d f E n3;go_wp2_with fail;go_ret2;exact ⟨rfl,0,rfl⟩

theorem Aj (hi lo y:Nat) (hl:lo<18446744073709551616) (hy:y<18446744073709551616) (hlt:hi<y) (w:World) :
  Calls Tryz.prog 274 #[.int .u64 (hi:Nat),.int .u64 (lo:Nat),.int .u64 (y:Nat)] w fun e w'=>e=.returned (.tuple #[.int .u64 ((hi*18446744073709551616+lo)/y:Nat),.int .u64 ((hi*18446744073709551616+lo)%y:Nat)])∧∃ m,w'=w.drewN m:=by
 rcases Nat.eq_zero_or_pos hi with h | h
 ·subst h;have:=Ak lo y hl (by omega) w;simpa using this
 ·exact Al hi lo y hl hy h hlt w

theorem cS {B:Nat} {zs:List Nat} {j:Nat} (h:j<zs.length):val (zs.drop j) B=zs.getD j 0+B*val (zs.drop (j+1)) B:=by
 rw [List.drop_eq_getElem_cons h,List.getD_eq_getElem?_getD,List.getElem?_eq_getElem h];rfl

end Go.Proofs.YtkaojflnghfmcaaGreatDoor
