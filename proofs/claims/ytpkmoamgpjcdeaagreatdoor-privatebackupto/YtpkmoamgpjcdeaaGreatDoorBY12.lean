/- Put together of: Iva1 Iva2 Ref10A Iva3 Iva4. -/
import Derived.Test.YtpkmoamgpjcdeaaGreatDoorBY10

namespace Go.Proofs.YtpkmoamgpjcdeaaGreatDoor
open _root_.Go.Proofs.Tryz
set_option maxRecDepth 100000
set_option maxHeartbeats 4000000
variable {B D M Q U V X Y k n p:Nat} {F G T d f x:Int} {W w w' w0:World} {c e tp:Value} {m:List Ev} {o' o0:Tr} {t:TypeId}

def nrm:List (Int × Int):=[(-30,-22),(-23,-34),(-5,-62),(9,-76),(14,-79),(29,-85),(32,-74),(35,-56),(41,-12),(41,0),(30,22),(23,34),(5,62),(-9,76),(-14,79),(-29,85),(-32,74),(-35,56),(-41,12),(-41,0)]

def crs (a b:Int × Int):Int:=a.1*b.2-a.2*b.1

def dom (t:Int × Int) (B:Int):Bool:=(nrm.zip (nrm.drop 1 ++ nrm.take 1)).any fun p=>decide (0<crs p.1 p.2) && decide (0<=crs t p.2) && decide (0<=crs p.1 t) && decide (crs t p.2+crs p.1 t<=crs p.1 p.2*B)

def InK (T F G:Int):Prop:=∀ n ∈ nrm,n.1*F+n.2*G<=T

theorem lV {t:Int × Int} {B:Int} (hT:0<=T) (h:dom t B=true) (hk:InK T F G):t.1*F+t.2*G<=B*T:=by
 unfold dom at h;rw [List.any_eq_true] at h;obtain ⟨⟨n1,n2⟩,hm,hp⟩:=h;simp only [Bool.and_eq_true,decide_eq_true_eq] at hp;obtain ⟨⟨⟨h1,h2⟩,h3⟩,h4⟩:=hp;have m1:n1 ∈ nrm:=(List.of_mem_zip hm).1;have m2:n2 ∈ nrm:=by
  have:=(List.of_mem_zip hm).2;rw [List.mem_append] at this;rcases this with h | h
  ·exact List.mem_of_mem_drop h
  ·exact List.mem_of_mem_take h
 have e:crs n1 n2*(t.1*F+t.2*G)=crs t n2*(n1.1*F+n1.2*G)+crs n1 t*(n2.1*F+n2.2*G):=by
  unfold crs
  grind
 have a1:=iF (hk n1 m1) h2;have a2:=iF (hk n2 m2) h3;have a3:=mh h4 hT;rw [Int.add_mul] at a3;have:crs n1 n2*(t.1*F+t.2*G)<=crs n1 n2*(B*T):=by
  rw [e,<- iE];omega
 exact pH this h1

theorem sf:dom (41,0) 1=true/\dom (-41,0) 1=true/\dom (0,67) 1=true/\dom (0,-67) 1=true:=by decide +kernel

def Ig (e:Nat) (q:Int) (n:Int × Int):Int × Int:=(17^e*(-(2^(e-1))*n.2),17^e*(n.1*2^(e+1)+n.2*q))

theorem Bl:∀ e ∈ [1,2,3,4,5,6,7],∀ n ∈ nrm,dom (Ig e 1 n) (42^e)=true/\dom (Ig e (2^(e+1)-1) n) (42^e)=true:=by decide +kernel

theorem A7:∀ n ∈ nrm,(-85<=n.2/\n.2<=85)/\(n.1+n.2<=114/\n.1-n.2<=114/\-n.1+n.2<=114/\-n.1-n.2<=114):=by decide +kernel

theorem CP {y X Y:Int} (h1:-X<=x:=by omega) (h2:x<=X:=by omega) (h3:-Y<=y:=by omega) (h4:y<=Y:=by omega):x*y<=X*Y:=by
 have e1:x.natAbs<=X.toNat:=by omega
 have e2:y.natAbs<=Y.toNat:=by omega
 have h:=er e1 e2;rw [<- Int.natAbs_mul] at h;have hX:(X.toNat:Int)=X:=by omega
 have hY:(Y.toNat:Int)=Y:=by omega
 have:((x*y).natAbs:Int)<=((X.toNat*Y.toNat:Nat):Int):=by exact_mod_cast h
 rw [ny,hX,hY] at this;have:=Int.le_natAbs (a:=x*y);omega

theorem EJ (k:Nat):(24391:Int)*17^(8+k)<=5494*21^(8+k):=by
 induction k with
 | zero=>decide
 | succ k ih=>
  rw [<- iX,mj,mj];have:(0:Int)<17^(8+k):=jH;have:(0:Int)<21^(8+k):=jH;omega

theorem Hh {e:Nat} {q:Int} (he:1<=e) (j:1<=q) (i:q<=2^(e+1)-1) (hT:0<=T) (hk:InK T F G) {n:Int × Int} (hn:n ∈ nrm):17^e*(-(2^(e-1))*n.2*F+(n.1*2^(e+1)+n.2*q)*G)<=42^e*T:=by
 by_cases h7:e<=7
 ·have hm:e ∈ [1,2,3,4,5,6,7]:=by
   have:e=1\/e=2\/e=3\/e=4\/e=5\/e=6\/e=7:=by omega
   simpa using this
  obtain ⟨d1,d2⟩:=Bl e hm n hn;have a1:=lV hT d1 hk;have a2:=lV hT d2 hk;unfold Ig at a1 a2;dsimp only at a1 a2;generalize (2:Int)^(e+1)=Q at *;generalize (2:Int)^(e-1)=P at *;generalize (17:Int)^e=A at *;generalize (42:Int)^e*T=Z at *;obtain ⟨a,b⟩:=n;dsimp only at *;rcases Int.lt_or_le 2 Q with h | h
  ·have b1:=iF a1 (show 0<=Q-1-q by omega);have b2:=iF a2 (show 0<=q-1 by omega);have e1:(Q-2)*(A*(-P*b*F+(a*Q+b*q)*G))=(Q-1-q)*(A*(-P*b)*F+A*(a*Q+b*1)*G)+(q-1)*(A*(-P*b)*F+A*(a*Q+b*(Q-1))*G):=by grind
   have e2:(Q-2)*Z=(Q-1-q)*Z+(q-1)*Z:=by grind
   refine pH (a:=Q-2) ?_ (by omega);rw [e1,e2];exact Int.add_le_add b1 b2
  ·obtain rfl:q=1:=by omega
   have e1:A*(-P*b*F+(a*Q+b*1)*G)=A*(-P*b)*F+A*(a*Q+b*1)*G:=by grind
   rw [e1];exact a1
 ·obtain ⟨k,rfl⟩:∃ k,e=8+k:=⟨e-8,by omega⟩
  have c1:=lV hT sf.1 hk;have c2:=lV hT sf.2.1 hk;have c3:=lV hT sf.2.2.1 hk;have c4:=lV hT sf.2.2.2 hk;dsimp only at c1 c2 c3 c4;obtain ⟨⟨n1,n2⟩,n3,n4,n5,n6⟩:=A7 n hn;obtain ⟨a,b⟩:=n;dsimp only at n1 n2 n3 n4 n5 n6 ⊢;have hl:=EJ k;have d:(42:Int)^(8+k)=2*(2^(8+k-1))*21^(8+k):=by
   rw [show (42:Int)=2*21 by rfl,Int.mul_pow,<- Int.pow_succ',show 8+k-1+1=8+k by omega]
  have eQ:(2:Int)^(8+k+1)=4*2^(8+k-1):=by
   rw [show 8+k+1=(8+k-1)+2 by omega,Int.pow_add];omega
  rw [eQ] at i ⊢;rw [d];have hP:(0:Int)<2^(8+k-1):=jH;have hA:(0:Int)<17^(8+k):=jH;generalize (2:Int)^(8+k-1)=P at *;generalize (17:Int)^(8+k)=A at *;generalize (21:Int)^(8+k)=C at *;have d1:-b*(41*F)<=85*T:=CP
  -- the second coefficient
  have f:a*(4*P)+b*q<=456*P:=by
   rcases Int.le_total 0 b with h | h
   ·have:=iF (show q<=4*P by omega) h;have h2:=mh n3 (show 0<=4*P by omega);rw [Int.add_mul] at h2;omega
   ·have:=iF (show 0<=q by omega) (show 0<=-b by omega);have h2:=mh (show a<=114 by omega) (show 0<=4*P by omega);rw [Int.mul_zero,Int.neg_mul] at this;omega
  have g:-(456*P)<=a*(4*P)+b*q:=by
   rcases Int.le_total 0 b with h | h
   ·have:=iF (show 0<=q by omega) h;have h2:=mh (show -114<=a by omega) (show 0<=4*P by omega);rw [Int.mul_zero] at this;omega
   ·have:=iF (show q<=4*P by omega) (show 0<=-b by omega);have h2:=mh n6 (show 0<=4*P by omega);rw [Int.sub_mul,Int.neg_mul] at h2;rw [Int.neg_mul,Int.neg_mul] at this;omega
  have d2:(a*(4*P)+b*q)*(67*G)<=456*P*T:=CP g f;generalize a*(4*P)+b*q=c at *
  -- 41*67 times what is asked
  have d3:2747*(-P*b*F+c*G)<=24391*(P*T):=by
   have h1:=iF d1 (show 0<=67*P by omega);have e1:2747*(-P*b*F+c*G)=67*P*(-b*(41*F))+41*(c*(67*G)):=by grind
   have e2:67*P*(85*T)=5695*(P*T):=by grind
   have e3:41*(456*P*T)=18696*(P*T):=by grind
   rw [e1];omega
  have h1:=iF d3 (show 0<=A by omega);have h2:=mh hl (show 0<=P*T from mi (by omega) hT);refine pH (a:=2747) ?_ (by omega);have e1:2747*(A*(-P*b*F+c*G))=A*(2747*(-P*b*F+c*G)):=by grind
  have e2:A*(24391*(P*T))=24391*A*(P*T):=by grind
  have e3:5494*C*(P*T)=2747*(2*P*C*T):=by grind
  rw [e1];omega

theorem DI {e:Nat} {q g:Int} (he:1<=e) (i:1<=q) (j:q<=2^(e+1)-1) (hT:0<=T) (hk:InK T F G) (h1:G=2^(e-1)*f) (h2:2^(e+1)*g=q*f-F):InK (21^e*T) (34^e*f) (34^e*g):=by
 intro n hn;have c:=Hh he i j hT hk hn;obtain ⟨k,rfl⟩:∃ k,e=k+1:=⟨e-1,by omega⟩
 have h:(42:Int)^(k+1)=2*2^k*21^(k+1):=by
  rw [show (42:Int)=2*21 by rfl,Int.mul_pow,Int.pow_succ']
 have d:(34:Int)^(k+1)=2*2^k*17^(k+1):=by
  rw [show (34:Int)=2*17 by rfl,Int.mul_pow,Int.pow_succ']
 have eQ:(2:Int)^(k+1+1)=4*2^k:=by
  rw [mj,mj];omega
 rw [gF] at h1 c;rw [eQ] at h2 c;rw [h] at c;rw [d];have hP:(0:Int)<2^k:=jH;generalize (2:Int)^k=P at *;generalize (17:Int)^(k+1)=A at *;generalize (21:Int)^(k+1)=C at *;obtain ⟨a,b⟩:=n;dsimp only at c ⊢;have e1:A*(-P*b*F+(a*(4*P)+b*q)*G)=2*P*(a*(2*P*A*f)+b*(2*P*A*g)):=by
  have:F=q*f-4*P*g:=by omega
  rw [h1,this]
  grind
 rw [e1,show 2*P*C*T=2*P*(C*T) by grind] at c;exact pH c (by omega)

def dst (s:Int × Int × Int):Int × Int × Int:=if 0<s.1/\s.2.2%2=1 then (1-s.1,s.2.2,(s.2.2-s.2.1)/2) else (1+s.1,s.2.1,(s.2.2+s.2.2%2*s.2.1)/2)

def jb (s:Int × Int × Int):Nat->Int × Int × Int
 | 0=>s
 | t+1=>dst (jb s t)

def Ep (B:Int) (t:Nat) (s:Int × Int × Int):Prop:=
 ∃ (w:Nat) (F G:Int),InK (21^w*B) (34^w*F) (34^w*G)/\s.2.1%2=1/\F%2=1 /\
  ((∃ k:Nat,s.1=1+k/\t=2*w+k/\F=s.2.1/\G=2^k*s.2.2) \/
   (∃ (k i:Nat) (q:Int),i<=k/\s.1=(i:Int)-k/\t=2*w+k+1+i/\G=2^k*s.2.1/\2^(i+1)*s.2.2=q*s.2.1-F/\1<=q/\q<=2^(i+1)-1))

theorem AG {B:Int} (hB:0<=B) {t:Nat} {s:Int × Int × Int} (h:Ep B t s):Ep B (t+1) (dst s):=by
 obtain ⟨d,f,g⟩:=s;obtain ⟨w,F,G,hk,hf,hF,hc⟩:=h;dsimp only at hf hc;rcases hc with ⟨k,rfl,rfl,rfl,rfl⟩ | ⟨k,i,q,hik,rfl,rfl,rfl,hg,hq1,hq2⟩
 ·by_cases hgo:g%2=1
  ·have e:dst (1+(k:Int),F,g)=(1-(1+(k:Int)),g,(g-F)/2):=by
    unfold dst;rw [ai ⟨by dsimp only;omega,hgo⟩]
   rw [e];refine ⟨w,F,2^k*g,hk,hgo,hF,.inr ⟨k,0,1,by omega,?_,by omega,rfl,?_,by omega,by decide⟩⟩
   ·dsimp only;omega
   ·dsimp only;rw [show (2:Int)^(0+1)=2 from rfl];omega
  ·have j:g%2=0:=by omega
   have e:dst (1+(k:Int),F,g)=(1+(1+(k:Int)),F,g/2):=by
    unfold dst;rw [ar (fun h=>hgo h.2)];dsimp only;rw [j,Int.zero_mul,Int.add_zero]
   rw [e];refine ⟨w,F,2^k*g,hk,hf,hF,.inl ⟨k+1,?_,by omega,rfl,?_⟩⟩
   ·dsimp only;omega
   ·dsimp only;have:g=2*(g/2):=by omega
    rw [mj,iE,<- this]
 ·obtain ⟨r,hr⟩:=aj (g%2)
  have a:r=0\/r=1:=by omega
  have e:dst ((i:Int)-k,f,g)=(1+((i:Int)-k),f,(g+r*f)/2):=by
   unfold dst;rw [ar (fun h=>by have:=h.1;dsimp only at this;omega),hr]
  rw [e];have h2:2*((g+r*f)/2)=g+r*f:=by
   rcases a with rfl | rfl
   ·omega
   ·omega
  generalize (g+r*f)/2=g' at *;have hP:(0:Int)<2^(i+1):=jH;have c:(2:Int)^(i+1+1)=2*2^(i+1):=by rw [mj];omega
  have hn:2^(i+1+1)*g'=(q+2^(i+1)*r)*f-F:=by
   rw [c,show (2:Int)*2^(i+1)*g'=2^(i+1)*(2*g') by grind,h2,Int.mul_add,hg]
   grind
  have hq:1<=q+2^(i+1)*r/\q+2^(i+1)*r<=2^(i+1+1)-1:=by
   rw [c];rcases a with rfl | rfl
   ·rw [Int.mul_zero];omega
   ·rw [Int.mul_one];omega
  by_cases hlt:i<k
  ·refine ⟨w,F,2^k*f,hk,hf,hF,.inr ⟨k,i+1,q+2^(i+1)*r,by omega,?_,by omega,rfl,hn,hq.1,hq.2⟩⟩;dsimp only;omega
  ·obtain rfl:i=k:=by omega
   have b:=DI (e:=i+1) (q:=q+2^(i+1)*r) (T:=21^w*B) (F:=34^w*F) (G:=34^w*(2^i*f)) (f:=34^w*f) (g:=34^w*g') (by omega) hq.1 hq.2 (mi (Int.le_of_lt (jH)) hB) hk (by rw [gF];grind) (by
    rw [show (2:Int)^(i+1+1)*(34^w*g')=34^w*(2^(i+1+1)*g') by grind,hn]
    grind)
   rw [<- iE,<- iE,<- iE,<- Int.pow_add,<- Int.pow_add] at b;refine ⟨i+1+w,f,g',b,hf,hf,.inl ⟨0,?_,by omega,rfl,?_⟩⟩
   ·dsimp only;omega
   ·dsimp only;rw [Int.pow_zero,kT]

theorem x9 {M a:Int} (hM:M%2=1) (h0:0<=a) (h1:a<=M) (h2:M<=2^D):Ep (67*2^D) 0 (1,M,a):=by
 refine ⟨0,M,a,?_,hM,hM,.inl ⟨0,by dsimp only;omega,by omega,rfl,?_⟩⟩
 ·rw [Int.pow_zero,Int.pow_zero,kT,kT,kT];generalize (2:Int)^D=X at *;intro n hn;simp only [nrm,fM,List.not_mem_nil,or_false] at hn;rcases hn with rfl | rfl | rfl | rfl | rfl | rfl | rfl | rfl | rfl | rfl | rfl | rfl | rfl | rfl | rfl | rfl | rfl | rfl | rfl | rfl <;> dsimp only <;> omega
 ·dsimp only;rw [Int.pow_zero,kT]

theorem uF {M a:Int} (hM:M%2=1) (h0:0<=a) (h1:a<=M) (h2:M<=2^D):∀ t,Ep (67*2^D) t (jb (1,M,a) t)
 | 0=>x9 hM h0 h1 h2
 | t+1=>AG (mi (by omega) (Int.le_of_lt (jH))) (uF hM h0 h1 h2 t)

theorem zE {w h:Nat} (h1:34^w*2^k<=21^w*2^D) (hw:w<=h) (hk:h<=w+k:=by omega):34^h<=2^D*21^h:=by
  obtain ⟨j,rfl⟩:∃ j,h=w+j:=⟨h-w,by omega⟩
  have h2:2^j<=2^k:=bj (by omega) (by omega)
  have h3:34^j<=42^j:=Nat.pow_le_pow_left (by omega) j
  rw [show (42:Nat)=2*21 from rfl,Nat.mul_pow] at h3
  calc 34^(w+j)=34^w*34^j:=aL _ _ _
    _<=34^w*(2^j*21^j):=bG _ h3
    _=34^w*2^j*21^j:=by rw [bd]
    _<=34^w*2^k*21^j:=cF _ (bG _ h2)
    _<=21^w*2^D*21^j:=cF _ h1
    _=2^D*21^(w+j):=by rw [aL];grind

theorem uQ {w:Nat} (hk:InK (21^w*(67*2^D)) (34^w*F) (34^w*(2^k*G))) (hG:G≠0):(34:Nat)^w*2^k<=21^w*2^D:=by
 have hT:(0:Int)<=21^w*(67*2^D):=mi (Int.le_of_lt (jH)) (mi (by omega) (Int.le_of_lt (jH)));have c3:=lV hT sf.2.2.1 hk;have c4:=lV hT sf.2.2.2 hk;dsimp only at c3 c4;have e1:((34^w*2^k:Nat):Int)=34^w*2^k:=by simp
 have e2:((21^w*2^D:Nat):Int)=21^w*2^D:=by simp
 have hX:(0:Int)<34^w*2^k:=Int.mul_pos (jH) (jH);rw [<- iE (34^w)] at c3 c4;rw [show (21:Int)^w*(67*2^D)=67*(21^w*2^D) by grind] at c3 c4;have a:(34:Int)^w*2^k<=21^w*2^D:=by
  generalize (34:Int)^w*2^k=X at *;generalize (21:Int)^w*2^D=Y at *;generalize (34:Int)^w*F=Z at *;rcases Int.lt_or_le G 0 with h | h
  ·have:=iF (show G<=-1 by omega) (show 0<=X by omega);rw [show X * -1=-X by omega] at this;omega
  ·have:=iF (show 1<=G by omega) (show 0<=X by omega);rw [Int.mul_one] at this;omega
 omega

theorem AO {M a:Int} {N:Nat} (hM:M%2=1) (h0:0<=a) (h1:a<=M) (h2:M<=2^D) (hN:2^D*21^(N/2)<34^(N/2)):(jb (1,M,a) N).2.2=0:=by
 obtain ⟨w,F,G,hk,hf,hF,hc⟩:=uF hM h0 h1 h2 N;rcases hc with ⟨k,_,ht,_,rfl⟩ | ⟨k,i,q,hik,_,ht,rfl,_,_,_⟩
 ·by_cases hg:(jb (1,M,a) N).2.2=0
  ·exact hg
  ·have:=zE (uQ hk hg) (show w<=N/2 by omega);omega
 ·have:=zE (uQ hk (by intro e;rw [e] at hf;omega)) (show w<=N/2 by omega);omega

theorem zG (hf:f%2=1):Int.gcd f (2*x)=Int.gcd f x:=by
 unfold Int.gcd;rw [Int.natAbs_mul];refine Nat.Coprime.gcd_mul_left_cancel_right _ ?_;show Nat.gcd 2 f.natAbs=1
 rw [kj,show f.natAbs%2=1 by omega];rfl

theorem Cl {s:Int × Int × Int} (hf:s.2.1%2=1):(dst s).2.1%2=1/\Int.gcd (dst s).2.1 (dst s).2.2=Int.gcd s.2.1 s.2.2:=by
 obtain ⟨d,f,g⟩:=s;dsimp only at hf;unfold dst;dsimp only
 split
 ·rename_i h
  dsimp only;refine ⟨h.2,?_⟩;rw [<- zG h.2,show 2*((g-f)/2)=g-f by omega,Int.gcd_self_sub_right,Int.gcd_comm]
 ·rename_i h
  dsimp only;refine ⟨hf,?_⟩;have a:g%2=0\/g%2=1:=by omega
  have e:2*((g+g%2*f)/2)=g+g%2*f:=by
   rcases a with h0 | h0
   ·rw [h0];omega
   ·rw [h0];omega
  rw [<- zG hf,e,Int.gcd_add_mul_right_right]

theorem tj {s:Int × Int × Int} (hf:s.2.1%2=1):∀ t,(jb s t).2.1%2=1/\Int.gcd (jb s t).2.1 (jb s t).2.2=Int.gcd s.2.1 s.2.2
 | 0=>⟨hf,rfl⟩
 | t+1=>by
  obtain ⟨h1,h2⟩:=tj hf t;obtain ⟨h3,h4⟩:=Cl h1;exact ⟨h3,h4.trans h2⟩

def stp (n:Nat):Nat:=(49*(64*n)+57)/17

theorem Ir:∀ n,n<=130->1<=n->2^(64*n)*21^(stp n/2)<34^(stp n/2):=by decide +kernel

theorem Cf {M a:Nat} (hn:1<=n) (c:n<=130) (hM:M%2=1) (h1:a<=M) (h2:M<2^(64*n)) :
  (jb (1,(M:Int),(a:Int)) (stp n)).2.2=0/\(jb (1,(M:Int),(a:Int)) (stp n)).2.1.natAbs=Nat.gcd M a:=by
 have b:(M:Int)%2=1:=by omega
 have hz:=AO (M:=(M:Int)) (a:=(a:Int)) (D:=64*n) (N:=stp n) b (by omega) (by omega) (by
  have:((2^(64*n):Nat):Int)=2^(64*n):=by simp
  rw [<- this];omega) (Ir n c hn)
 have hg:=(tj (s:=(1,(M:Int),(a:Int))) b (stp n)).2;rw [hz,Int.gcd_zero_right] at hg;exact ⟨hz,hg⟩

def tcN (B:Nat) (x:Int):Nat:=(if x<0 then (B:Int)+x else x).toNat

theorem Lz (h0:-(Q:Int)<x) (h1:x<Q) (hB:4*Q<=B):tcN B x<B:=by
 unfold tcN
 split <;> omega

theorem D0 (B x:Nat):tcN B (x:Int)=x:=by
 unfold tcN;rw [aK];omega

theorem Iw {g:Int} (hg:-(Q:Int)<g/\g<Q) (hf:-(Q:Int)<f/\f<Q) (hB:4*Q<=B):(if tcN B g<tcN B f then tcN B g+B-tcN B f else tcN B g-tcN B f)=tcN B (g-f):=by
 unfold tcN
 split <;> split <;> split <;> split <;> omega

theorem It {g:Int} (hg:-(Q:Int)<g/\g<Q) (hf:-(Q:Int)<f/\f<Q) (hB:4*Q<=B):(tcN B g+tcN B f)%B=tcN B (g+f):=by
 have h:tcN B g+tcN B f=tcN B (g+f)\/tcN B g+tcN B f=tcN B (g+f)+B:=by
  unfold tcN
  split <;> split <;> split <;> omega
 have hl:tcN B (g+f)<B:=by
  unfold tcN
  split <;> omega
 rcases h with h | h
 ·rw [h,aB hl]
 ·rw [h,nG,aB hl]

theorem Iv {g:Int} (hg:-(Q:Int)<g/\g<Q) (hB:4*Q<=B) (h2:B%2=0):((tcN B g%2:Nat):Int)=g%2:=by
 unfold tcN
 split <;> omega

def sgN (x:Int):Nat:=if x<0 then 1 else 0

theorem An {H:Nat} (hx:-(2*Q:Int)<=x/\x<2*Q) (hB:B=2*H) (hQ:2*Q<=H:=by omega) (hH:0<H:=by omega):tcN B x/H=sgN x:=by
 unfold tcN sgN
 split
 ·rw [Nat.div_eq_iff hH];omega
 ·rw [bJ (by omega)]

theorem FT {H:Nat} (hx:-(2*Q:Int)<=x/\x<2*Q) (hB:B=2*H) (hQ:2*Q<=H):(tcN B x+sgN x%2*B)/2=tcN B (x/2):=by
 unfold tcN sgN;by_cases h:x<0
 ·rw [ai h,ai h,cf];omega
 ·rw [ar h,ar h,aK];omega

theorem Iu (hf:-(Q:Int)<f/\f<Q) (hB:4*Q<=B):(if 0<tcN B f then 0+B-tcN B f else 0-tcN B f)=tcN B (-f):=by
 unfold tcN
 split <;> split <;> split <;> omega

def swN (d g:Int):Nat:=if 0<d/\g%2=1 then 1 else 0

theorem ye (d f g:Int):dst (d,f,g)=((if swN d g=1 then 1-d else 1+d),(if swN d g=1 then g else f),(g+((g%2)-2*(swN d g:Int))*f)/2):=by
 unfold dst swN;by_cases h:0<d/\g%2=1
 ·rw [ai h,ai h,ai rfl,ai rfl,h.2];rw [show g+((1:Int)-2*((1:Nat):Int))*f=g-f by omega]
 ·rw [ar h,ar h,aK,aK];rw [show g%2-2*((0:Nat):Int)=g%2 by omega]

def StIn (Q:Nat) (t:Nat) (s:Int × Int × Int):Prop:=(-(t:Int)<=s.1/\s.1<=t+1)/\(-(Q:Int)<s.2.1/\s.2.1<Q)/\(-(Q:Int)<s.2.2/\s.2.2<Q)

theorem StIn.step {t:Nat} {s:Int × Int × Int} (h:StIn Q t s):StIn Q (t+1) (dst s):=by
 obtain ⟨d,f,g⟩:=s;unfold StIn dst at *;dsimp only at h ⊢
 split
 ·dsimp only;omega
 ·dsimp only;have h2:g%2=0\/g%2=1:=by omega
  rcases h2 with h2 | h2 <;> rw [h2] <;> omega

theorem StIn.all {s:Int × Int × Int} (h:StIn Q 0 s):∀ t,StIn Q t (jb s t)
 | 0=>h
 | t+1=>(StIn.all h t).step

def CoOk (M a U V:Nat) (s:Int × Int × Int):Prop:=U<M/\V<M/\(M:Int) ∣ (U:Int)*a-s.2.1/\(M:Int) ∣ (V:Int)*a-s.2.2

theorem Cg (hM:M%2=1) (h:(M:Int) ∣ 2*x):(M:Int) ∣ x:=by
 obtain ⟨z,hz⟩:=h;obtain ⟨q,hq⟩:∃ q:Int,(M:Int)=2*q+1:=⟨(M/2:Nat),by omega⟩
 refine ⟨x-q*z,?_⟩;rw [Int.mul_sub,show (M:Int)*(q*z)=q*(M*z) by grind,<- hz,hq]
 grind

theorem CoOk.step {a U' V':Nat} {g:Int} (h:CoOk M a U V (d,f,g)) (hM:M%2=1) (hf:f%2=1) (hU:U'=if swN d g=1 then V else U) (hV:V'<M) (h2:(M:Int) ∣ 2*(V':Int)-(V+((g%2)-2*(swN d g:Int))*U)):CoOk M a U' V' (dst (d,f,g)):=by
 obtain ⟨h1,h3,h4,h5⟩:=h;dsimp only at h4 h5;rw [ye];refine ⟨?_,hV,?_,?_⟩
 ·rw [hU];split <;> assumption
 ·dsimp only;rw [hU]
  split <;> assumption
 ·dsimp only;obtain ⟨c,hc⟩:=aj (g%2-2*(swN d g:Int))
  rw [<- hc] at h2 ⊢;have he:(g+c*f)%2=0:=by
   have j:g%2=0\/g%2=1:=by omega
   have hs:swN d g=0\/swN d g=1:=by unfold swN;split <;> omega
   have i:(c=0/\g%2=0)\/(c=1/\g%2=1)\/(c=-1/\g%2=1):=by
    unfold swN at hc hs;by_cases hh:0<d/\g%2=1
    ·rw [ai hh] at hc;omega
    ·rw [ar hh] at hc;omega
   rcases i with ⟨rfl,_⟩ | ⟨rfl,_⟩ | ⟨rfl,_⟩ <;> omega
  obtain ⟨G,hG⟩:=aj ((g+c*f)/2)
  rw [<- hG];have b:2*G=g+c*f:=by omega
  apply Cg hM;have e:2*((V':Int)*a-G)=(2*(V':Int)-(V+c*U))*a+((V:Int)*a-g)+c*((U:Int)*a-f):=by
   have:2*((V':Int)*a-G)=2*(V':Int)*a-2*G:=by grind
   rw [this,b]
   grind
  rw [e];exact Int.dvd_add (Int.dvd_add (Int.dvd_mul_of_dvd_left h2) h5) (Int.dvd_mul_of_dvd_right h4)

theorem GT {sw od x L b W ov S E o3 V':Nat} (hQ:Q=2^(64*n)) (hM:M<Q) (h2:M%2=1) (hU:U<M) (hV:V<M) (g:(sw=1/\od=1/\x=0)\/(sw=0/\od=1/\x=1)\/(sw=0/\od=0/\x=0))
  (hL:L=cZ sw (gV V U n) V) (hb:b=cZ sw (dF (decide (V<U))) 0) (hD:D=cZ b (L+M) L%Q) (hW:W=cZ x (D+U) D%Q) (ho:ov=cZ x (dF (decide (Q<=D+U))) 0)
  (hS:S=oj W M ov n) (hE:E=cZ (S%2) (S+M) S%Q) (h3:o3=cZ (S%2) (dF (decide (Q<=S+M))) 0) (a:V'=(E+o3%2*Q)/2) :
  V'<M/\(M:Int) ∣ 2*(V':Int)-(V+((od:Int)-2*(sw:Int))*U):=by
 have fD:D=if sw=1 then ij V U M else V:=by
  unfold cZ gV dF at *;unfold ij;rw [<- hQ] at hL;rcases g with ⟨rfl,_,_⟩ | ⟨rfl,_,_⟩ | ⟨rfl,_,_⟩
  ·rw [ai rfl] at hL hb ⊢;by_cases h:V<U
   ·rw [ai h] at hL;rw [dV h,ai rfl] at hb;rw [hb,ai rfl,hL,show V+Q-U+M=(V+M-U)+Q by omega,nG,dH] at hD;rw [aK,hD]
   ·rw [ar h] at hL;rw [cI h,ar (by decide)] at hb;rw [hb,ar (by decide),hL,dH] at hD;rw [cf,hD]
  ·rw [ar (by decide)] at hL hb ⊢;rw [hb,ar (by decide),hL,dH] at hD;exact hD
  ·rw [ar (by decide)] at hL hb ⊢;rw [hb,ar (by decide),hL,dH] at hD;exact hD
 have lD:D<M:=by
  rw [fD];unfold ij
  split
  ·split <;> omega
  ·exact hV
 have hx:x=0\/x=1:=by omega
 have fS:S<M/\(S=D+x*U\/S+M=D+x*U):=by
  have d:mH W M ov=0->S=W:=fun h=>by rw [hS];unfold oj cZ;rw [h];rfl
  have f:mH W M ov=1->S=if W<M then W+Q-M else W-M:=fun h=>by rw [hS];unfold oj cZ gV;rw [h,<- hQ];rfl
  have t0:¬ (ov=1\/M<=W)->mH W M ov=0:=fun h=>ar h
  have t1:(ov=1\/M<=W)->mH W M ov=1:=fun h=>ai h
  unfold cZ at hW ho;unfold dF at ho;rcases hx with rfl | rfl
  ·rw [ar (by decide)] at hW ho;rw [dH] at hW;have:=d (t0 (by omega));omega
  ·rw [ai rfl] at hW ho;by_cases h:Q<=D+U
   ·rw [dV h,ai rfl] at ho;have l:W=D+U-Q:=by
     rw [hW,show D+U=(D+U-Q)+Q by omega,nG,dH];omega
    have:=f (t1 (.inl ho));rw [cf] at this;omega
   ·rw [cI h,ar (by decide)] at ho;rw [dH] at hW;by_cases hh:M<=D+U
    ·have:=f (t1 (.inr (by omega)));rw [aK] at this;omega
    ·have:=d (t0 (by omega));omega
 have fV:V'=Cp S M:=by
  unfold Cp cZ dF at *;by_cases hs:S%2=1
  ·rw [hs,ai rfl] at hE h3;rw [ai hs];by_cases h:Q<=S+M
   ·rw [dV h,ai rfl] at h3;have i:E=S+M-Q:=by
     rw [hE,show S+M=(S+M-Q)+Q by omega,nG,dH];omega
    rw [a,i,h3];omega
   ·rw [cI h,ar (by decide)] at h3;rw [dH] at hE;rw [a,hE,h3];omega
  ·have j:S%2=0:=by omega
   rw [j,ar (by decide)] at hE h3;rw [ar hs];rw [dH] at hE;rw [a,hE,h3];omega
 have f2:V'<M/\(2*V'=S\/2*V'=S+M):=by
  rw [fV];unfold Cp
  split <;> omega
 refine ⟨f2.1,?_⟩;have f3:∃ k:Int,(D:Int)+x*U=V+((od:Int)-2*(sw:Int))*U+k*M:=by
  rw [fD];unfold ij;rcases g with ⟨rfl,rfl,rfl⟩ | ⟨rfl,rfl,rfl⟩ | ⟨rfl,rfl,rfl⟩
  ·rw [ai rfl];by_cases h:U<=V
   ·rw [ai h];exact ⟨0,by omega⟩
   ·rw [ar h];exact ⟨1,by omega⟩
  ·rw [ar (by decide)];exact ⟨0,by omega⟩
  ·rw [ar (by decide)];exact ⟨0,by omega⟩
 obtain ⟨k,hk⟩:=f3;have m:((x*U:Nat):Int)=x*U:=by simp
 generalize (od:Int)-2*(sw:Int)=c at *;generalize c*(U:Int)=cU at *;generalize (x:Int)*(U:Int)=xI at *;generalize x*U=xU at *;rcases f2.2 with e | e
 ·rcases fS.2 with e2 | e2
  ·exact ⟨k,by rw [Int.mul_comm (M:Int)];omega⟩
  ·exact ⟨k-1,by rw [Int.mul_comm (M:Int),Int.sub_mul];omega⟩
 ·rcases fS.2 with e2 | e2
  ·exact ⟨k+1,by rw [Int.mul_comm (M:Int),Int.add_mul];omega⟩
  ·exact ⟨k,by rw [Int.mul_comm (M:Int)];omega⟩

theorem EW {a:Nat} (h:CoOk M a U V (d,F,G)) (hM:2<=M) (hF:F.natAbs=1):(if F<0 then ij 0 U M else U)<M/\a*(if F<0 then ij 0 U M else U)%M=1:=by
 obtain ⟨h1,_,h3,_⟩:=h;dsimp only at h3;obtain ⟨k,hk⟩:=h3;by_cases hn:F<0
 ·obtain rfl:F=-1:=by omega
  rw [ai hn];unfold ij;by_cases h0:U<=0
  ·obtain rfl:U=0:=by omega
   exfalso
   rw [show ((0:Nat):Int)*(a:Int)-(-1)=1 by omega] at hk;have:(M:Int) ∣ 1:=⟨k,hk⟩
   have:=Int.le_of_dvd (by omega) this;omega
  ·rw [ar h0];refine ⟨by omega,?_⟩;have e:((a*(0+M-U):Nat):Int)=1+M*(a-k):=by
    rw [show 0+M-U=M-U by omega,ny,Int.natCast_sub (by omega),Int.mul_sub,Int.mul_sub,<- hk]
    grind
   have e2:((a*(0+M-U)%M:Nat):Int)=1:=by
    rw [Int.natCast_emod,e,Int.add_mul_emod_self_left,Int.emod_eq_of_lt (by omega) (by omega)]
   omega
 ·obtain rfl:F=1:=by omega
  rw [ar hn];refine ⟨h1,?_⟩;have e:((a*U:Nat):Int)=1+M*k:=by
   rw [ny,<- hk]
   grind
  have e2:((a*U%M:Nat):Int)=1:=by
   rw [Int.natCast_emod,e,Int.add_mul_emod_self_left,Int.emod_eq_of_lt (by omega) (by omega)]
  omega

open Go.RowKit

def NumT (w:World) (o:Tr) (v:Value) (n X:Nat):Prop:=RowT w o v (digs X n)/\X<18446744073709551616^n

theorem NumT.did {o:Tr} {v:Value} (h:NumT w o v n X) (d:Did w o m w' o'):NumT w' o' v n X:=⟨h.1.did d,h.2⟩

theorem NumT.g {o:Tr} {v:Value} (h:NumT w o v n X) (k:Kept af w w'):NumT w' o v n X:=⟨h.1.g k,h.2⟩

theorem bY (h:X<18446744073709551616^n):val (digs X n)=X:=by rw [ay,aB h]

theorem NumT.of {o:Tr} {v:Value} {xs:LN} (h:RowT w o v xs) (hd:Digs xs) (hl:xs.length=n):NumT w o v n (val xs):=by
 subst hl;refine ⟨?_,aE (by omega) hd⟩;rw [kw hd];exact h

theorem NumT.own {o:Tr} {base:Nat} {v:Value} (h:OwnN .u64 24 w base v n (digs X n)) (hX:X<18446744073709551616^n) (ht:TrIn w o):NumT w o v n X:=⟨ib h (ag _ _ _) ht,hX⟩

theorem NumT.s {o:Tr} {v:Value} (h:NumT w o v n X):∃ ao a,v=.slice ao n a:=by
 obtain ⟨ao,L,a,rfl,hL,_⟩:=h.1.1.open;have:=hL.o;rw [ag] at this;subst this;exact ⟨ao,a,rfl⟩

def NumN (w:World) (o:Tr) (v:Value) (n X:Nat):Prop:=NumT w o v n X/\U64s w v

theorem NumN.did {o:Tr} {v:Value} (h:NumN w o v n X) (d:Did w o m w' o') (ht:TrIn w o):NumN w' o' v n X:=⟨h.1.did d,h.2.did d ht⟩

theorem NumN.own {o:Tr} {base:Nat} {v:Value} (h:OwnN .u64 24 w base v n (digs X n)) (hX:X<18446744073709551616^n) (ht:TrIn w o):NumN w o v n X:=⟨NumT.own h hX ht,U64s.own h⟩

theorem NumN.put {o:Tr} {v:Value} {cs:Array Value} {fr:Nat × Nat} (h:NumN w o v n X) (hp:w.heap[p]? = some (.cells cs t fr)) (ht:t≠24) (k:Kept (fun b=>b=p) w w'):NumN w' o v n X:=by
 have a:∀ b,v.ownBlock=some b->¬ b=p:=fun b hb e=>by
  obtain ⟨c,d,h'⟩:=h.2 b hb;rw [e,hp] at h';cases h'
  exact ht rfl
 exact ⟨⟨⟨h.1.1.1.kept k a,h.1.1.2⟩,h.1.2⟩,h.2.kept k a⟩

structure Wr (w0:World) (o0:Tr) (m:List Ev) (w:World) (o:Tr) (tp:Value) (k:Nat):Prop where
 did:Did w0 o0 m w o
 room:TrRoom w o k
 ptr:aP o=tp

theorem Wr.next {o:Tr} {m':List Ev} {j:Nat} (s:Wr w0 o0 m w o tp j) (d:Did w o m' w' o') (hj:m'.length+k<=j):Wr w0 o0 (m ++ m') w' o' tp k:=
 ⟨s.did.trans d,d.room (s.room.l hj),d.ptr.trans s.ptr⟩

theorem Wr.g {o:Tr} (s:Wr w0 o0 m w o tp k) (h:Kept af w w'):Wr w0 o0 m w' o tp k:=⟨s.did.g h,s.room.g h,s.ptr⟩

theorem Wr.l {o:Tr} {j:Nat} (s:Wr w0 o0 m w o tp j) (h:k<=j):Wr w0 o0 m w o tp k:=⟨s.did,s.room.l h,s.ptr⟩

theorem Did.cells {o:Tr} {g:Nat} {cs:Array Value} {fr:Nat × Nat} (d:Did w o m w' o') (h:w.heap[g]? = some (.cells cs t fr)) (ht:TrIn w o) (h1:t≠231:=by decide) (h2:t≠200:=by decide):w'.heap[g]? = some (.cells cs t fr):=
 (d.kept.block g (lt_of_block h) (aH h ht h1 h2)).trans h

theorem oB {b:Nat} (hX:X<18446744073709551616^n) (hY:Y<18446744073709551616^n):cZ b X Y<18446744073709551616^n:=by unfold cZ;split <;> assumption

theorem tQ (hX:X<18446744073709551616^n) (hY:Y<18446744073709551616^n):gV X Y n<18446744073709551616^n:=by
 unfold gV;rw [<- B64]
 split <;> omega

theorem Al (b:Nat) (p:Bool):cZ b (dF p) 0<=1:=by unfold cZ dF;split <;> (try split) <;> omega

theorem nW (X n:Nat):digs X n=digs (X%18446744073709551616^n) n:=r9 (by rw [ep])

theorem Cs {k:Nat} (bit n X Y:Nat) (u v:Value) {o:Tr} (s:Wr w0 o0 m w o tp (k+1)) (hb:bit<=1) (hu:NumT w o u n X) (hv:NumT w o v n Y) (hn:n<=1000:=by omega) :
  ClZ 223 #[tp,.int .u64 (bit:Nat),u,v] w fun e w'=>∃ (v':Value) (c:Nat),e=.returned (.tuple #[v',.int .u64 (c:Nat)])/\∃ (Z:Nat) (o':Tr),HzD (Z=cZ bit (gV X Y n) X/\c=cZ bit (dF (decide (X<Y))) 0)/\c<=1/\NumN w' o' v' n Z/\Did w o [(1,(n:Int),0)] w' o'/\Wr w0 o0 (m ++ [(1,(n:Int),0)]) w' o' tp k:=by
 have h:=yu o bit (by omega) u v _ _ w (s.room.l (by omega)) hu.1 hv.1 (ak (by omega) _ _) (ak (by omega) _ _) (by rw [ag];omega) (by rw [ag];omega);rw [s.ptr,ag,ag,it,bY hu.2,bY hv.2] at h;refine h.mono ?_;rintro e w' ⟨v',rfl,ho,o',d⟩;exact ⟨v',_,rfl,_,o',⟨rfl,rfl⟩,Al _ _,NumN.own ho (oB (tQ hu.2 hv.2) hu.2) (d.room (k:=0) (s.room.l (by simp))).1,d,s.next d (by simp;omega)⟩

theorem tk {k:Nat} (bit n X Y:Nat) (u v:Value) {o:Tr} (s:Wr w0 o0 m w o tp (k+1)) (hb:bit<=1) (hu:NumT w o u n X) (hv:NumT w o v n Y) (hn:n<=1000:=by omega) :
  ClZ 166 #[tp,.int .u64 (bit:Nat),u,v] w fun e w'=>∃ (v':Value) (c:Nat),e=.returned (.tuple #[v',.int .u64 (c:Nat)])/\∃ (Z:Nat) (o':Tr),HzD (Z=cZ bit (X+Y) X%18446744073709551616^n/\c=cZ bit (dF (decide (18446744073709551616^n<=X+Y))) 0)/\c<=1/\NumN w' o' v' n Z/\Did w o [(1,(n:Int),0)] w' o'/\Wr w0 o0 (m ++ [(1,(n:Int),0)]) w' o' tp k:=by
 have h:=yt o bit (by omega) u v _ _ w (s.room.l (by omega)) hu.1 hv.1 (ak (by omega) _ _) (ak (by omega) _ _) (by rw [ag];omega) (by rw [ag];omega);rw [s.ptr,ag,ag,it,bY hu.2,bY hv.2,<- B64,nW] at h;refine h.mono ?_;rintro e w' ⟨v',rfl,ho,o',d⟩;exact ⟨v',_,rfl,_,o',⟨rfl,rfl⟩,Al _ _,NumN.own ho (aY _ (aX)) (d.room (k:=0) (s.room.l (by simp))).1,d,s.next d (by simp;omega)⟩

theorem LT {k:Nat} (n X Y:Nat) (u v:Value) {o:Tr} (s:Wr w0 o0 m w o tp (k+1)) (hu:NumT w o u n X) (hv:NumT w o v n Y) (hn:n<=1000) :
  ClZ 176 #[tp,u,v] w fun e w'=>∃ (v':Value) (c:Nat),e=.returned (.tuple #[v',.int .u64 (c:Nat)])/\∃ (Z:Nat) (o':Tr),HzD (Z=gV X Y n/\c=dF (decide (X<Y)))/\c<=1/\NumN w' o' v' n Z/\Did w o [(1,(n:Int),0)] w' o'/\Wr w0 o0 (m ++ [(1,(n:Int),0)]) w' o' tp k:=by
 have h:=Cz o u v _ _ w (s.room.l (by omega)) hu.1 hv.1 (ak (by omega) _ _) (ak (by omega) _ _) (by rw [ag];omega) (by rw [ag];omega);rw [s.ptr,ag,ag,it,bY hu.2,bY hv.2] at h;refine h.mono ?_;rintro e w' ⟨v',rfl,ho,o',d⟩;exact ⟨v',_,rfl,_,o',⟨rfl,rfl⟩,qY _,NumN.own ho (tQ hu.2 hv.2) (d.room (k:=0) (s.room.l (by simp))).1,d,s.next d (by simp;omega)⟩

theorem I7 {k:Nat} (n Y:Nat) (v:Value) {o:Tr} (s:Wr w0 o0 m w o tp (k+1)) (hv:NumT w o v n Y) (hn:n<=1000) :
  ClZ 176 #[tp,.slice none 0 0,v] w fun e w'=>∃ (v':Value) (c:Nat),e=.returned (.tuple #[v',.int .u64 (c:Nat)])/\∃ (Z:Nat) (o':Tr),HzD (Z=gV 0 Y n)/\NumN w' o' v' n Z/\Did w o [(1,(n:Int),0)] w' o'/\Wr w0 o0 (m ++ [(1,(n:Int),0)]) w' o' tp k:=by
 have h:=Cz o (.slice none 0 0) v [] _ w (s.room.l (by omega)) ⟨Row.nil _ _,fun h=>absurd rfl h⟩ hv.1 (Digs.nil _) (ak (by omega) _ _) (by simp) (by rw [ag];omega);rw [s.ptr,fB,ag,Nat.zero_max,bY hv.2,show val []=0 from rfl] at h;refine h.mono ?_;rintro e w' ⟨v',rfl,ho,o',d⟩;exact ⟨v',_,rfl,_,o',rfl,NumN.own ho (tQ (aX) hv.2) (d.room (k:=0) (s.room.l (by simp))).1,d,s.next d (by simp;omega)⟩

theorem pQ {k:Nat} (bit n X Y:Nat) (u v:Value) {o:Tr} (s:Wr w0 o0 m w o tp (k+1)) (hb:bit<=1) (hu:NumT w o u n X) (hv:NumT w o v n Y) (hn:n<=1000:=by omega) :
  ClZ 67 #[tp,.int .u64 (bit:Nat),u,v] w fun e w'=>∃ (v':Value),e=.returned v'/\∃ (Z:Nat) (o':Tr),HzD (Z=cZ bit X Y)/\NumN w' o' v' n Z/\Did w o [(1,(n:Int),0)] w' o'/\Wr w0 o0 (m ++ [(1,(n:Int),0)]) w' o' tp k:=by
 have h:=oh o bit (by omega) u v _ _ w (s.room.l (by omega)) hu.1 hv.1 (ak (by omega) _ _) (ak (by omega) _ _) (by rw [ag];omega) (by rw [ag];omega);rw [s.ptr,ag,ag,it,bY hu.2,bY hv.2] at h;refine h.mono ?_;rintro e w' ⟨v',rfl,ho,o',d⟩;exact ⟨v',rfl,_,o',rfl,NumN.own ho (oB hu.2 hv.2) (d.room (k:=0) (s.room.l (by simp))).1,d,s.next d (by simp;omega)⟩

theorem Cr {k:Nat} (bit n X:Nat) (u:Value) {o:Tr} (s:Wr w0 o0 m w o tp (k+1)) (hb:bit<=1) (hu:NumT w o u n X) (hn:n<=1000:=by omega) :
  ClZ 248 #[tp,u,.int .u64 (bit:Nat)] w fun e w'=>∃ (v':Value) (c:Nat),e=.returned (.tuple #[v',.int .u64 (c:Nat)])/\∃ (Z:Nat) (o':Tr),HzD (Z=(X+bit%2*18446744073709551616^n)/2)/\NumN w' o' v' n Z/\Did w o [(1,(n:Int),0)] w' o'/\Wr w0 o0 (m ++ [(1,(n:Int),0)]) w' o' tp k:=by
 have h:=Hk o u _ bit (by omega) w (s.room.l (by omega)) hu.1 (ak (by omega) _ _) (by rw [ag];omega);rw [s.ptr,ag,bY hu.2] at h;refine h.mono ?_;rintro e w' ⟨v',rfl,ho,o',d⟩;have hlt:(X+bit%2*18446744073709551616^n)/2<18446744073709551616^n:=by
  have hX:=hu.2;have a:bit%2=0\/bit%2=1:=by omega
  generalize 18446744073709551616^n=Q at *;rcases a with e | e <;> rw [e] <;> omega
 exact ⟨v',_,rfl,_,o',rfl,NumN.own ho hlt (d.room (k:=0) (s.room.l (by simp))).1,d,s.next d (by simp;omega)⟩

theorem Gn (n X c:Nat) (v:Value) (w:World) (o:Tr) (h:NumT w o v (n+1) X) (hn:n<=1000) (hc:c=X/(9223372036854775808*18446744073709551616^n)) :
  ClZ 175 #[v] w fun e w'=>e=.returned (.int .u64 (c:Nat))/\w'=w:=by
 obtain ⟨ao,f,rfl⟩:=h.s;obtain ⟨_,_,_,e1,_,_,_,_,a⟩:=h.1.1.open;cases e1
 obtain ⟨b,off,rfl,g⟩:=fi (a n (by omega));have hd:dig X n<18446744073709551616:=bu;have hq:HzD (dig X n/9223372036854775808=c):=by
  unfold HzD;rw [hc,aD,<- di];unfold dig;rw [aB];have:=h.2;rw [aG] at this;exact Nat.div_lt_of_lt_mul this
 clear h a hc;generalize dig X n=x at *;have d:((x:Int)/9223372036854775808)=(c:Int):=by have:=hq.o;omega
 have HQ:=aa d;clear hq d;have g1:((n+1:Nat):Int)-1=(n:Int):=by omega
 have g0:(0:Int)<=(n:Int):=cN _;have g2:(n:Int)<((n+1:Nat):Int):=by omega
 obtain ⟨L,hL⟩:=aj (n+1)
 rw [<- hL] at g1 g2 ⊢;clear hL;delta ClZ;go_in;go_wp2_with fail;go_ret;rw [HQ.o];exact ⟨rfl,rfl⟩

theorem I3 (sw od x n G F:Nat) (g f:Value) {o:Tr} (s:Wr w0 o0 m w o tp (k+2)) (a:sw<=1) (hx:x<=1) (b:bits .xor .u64 (od:Int) (sw:Int)=(x:Int)) (hg:NumT w o g n G) (hf:NumT w o f n F) (hn:n<=1000) :
  ClZ 222 #[tp,.int .u64 (sw:Nat),.int .u64 (od:Nat),g,f] w fun e w'=>∃ (v':Value),e=.returned v'/\∃ (Z:Nat) (o':Tr),HzD (Z=cZ x (cZ sw (gV G F n) G+F) (cZ sw (gV G F n) G)%18446744073709551616^n)/\NumN w' o' v' n Z/\Did w o [(1,(n:Int),0),(1,(n:Int),0)] w' o'/\Wr w0 o0 (m ++ [(1,(n:Int),0),(1,(n:Int),0)]) w' o' tp k:=by
 have h1:=Cs sw n G F g f s a hg hf hn;have HF:=aa hf;clear hg hf;delta ClZ;go_in;go_wp2_with fail;refine h1.mono ?_;rintro e w1 ⟨v1,c1,rfl,Z1,o1,q1,_,n1,d1,s1⟩;have h2:=tk x n Z1 F v1 f s1 hx n1.1 (HF.o.did d1) hn;clear h1 n1;go_wp2_with fail;refine h2.mono ?_;rintro e w2 ⟨v2,c2,rfl,Z2,o2,q2,_,n2,d2,s2⟩;clear h2;go_wp2_with fail;go_ret;refine ⟨_,rfl,Z2,o2,?_,n2,d1.trans d2,?_⟩
 ·have:=q2.o.1;rw [q1.o.1] at this;exact this
 ·have:=s2;rw [dX] at this;exact this

theorem I4 (n X c:Nat) (v:Value) {o:Tr} (s:Wr w0 o0 m w o tp (k+1)) (h:NumT w o v (n+1) X) (hn:n<=900) (hc:c=X/(9223372036854775808*18446744073709551616^n)) (a:c<=1) :
  ClZ 221 #[tp,v] w fun e w'=>∃ (v':Value),e=.returned v'/\∃ (Z:Nat) (o':Tr),HzD (Z=(X+c%2*18446744073709551616^(n+1))/2)/\NumN w' o' v' (n+1) Z/\Did w o [(1,((n+1:Nat):Int),0)] w' o'/\Wr w0 o0 (m ++ [(1,((n+1:Nat):Int),0)]) w' o' tp k:=by
 have h1:=Gn n X c v w o h (by omega) hc;have h2:=Cr c (n+1) X v s a h;clear h hc s;generalize n+1=L at *;delta ClZ;go_in;go_wp2_with fail;refine h1.mono ?_;rintro e w1 ⟨rfl,rfl⟩;clear h1;go_wp2_with fail;refine h2.mono ?_;rintro e w2 ⟨v2,c2,rfl,Z2,o2,q2,n2,d2,s2⟩;clear h2;go_wp2_with fail;go_ret;exact ⟨_,rfl,Z2,o2,q2,n2,d2,s2⟩

theorem GY (v:Value) (xs:LN) (n:Nat) (w:World) (h:Row .u64 w v xs) (hd:Digs xs) (hn:n<=1000000:=by omega) :
  ClZ 111 #[v,.int .i64 (n:Nat)] w fun e w'=>e=.returned (.slice (some ⟨w.heap.size,0,none⟩) n n)/\OwnN .u64 24 w' w.heap.size (.slice (some ⟨w.heap.size,0,none⟩) n n) n (digs (val xs) n)/\Kept af w w':=by
 obtain ⟨i0,i,r,k,s⟩:=info_parts Tryz.info24;obtain ⟨ao,q,o,rfl,hL,_,_,_,_⟩:=h.open;have HD:=aa (qG hd n);have HS:HzD (∀ W,Kept af w W->0<((xs.take n).map fun z:Nat=>Value.int .u64 (z:Int)).length->∃ ad,ao=some ad/\∀ j u,((xs.take n).map fun z:Nat=>Value.int .u64 (z:Int))[j]? = some u->W.cell? (ad.add j)=some u):=fun W hk hp=>by
  obtain ⟨ad,e,hs⟩:=h.source hk (by rw [cJ,aR] at hp;rw [cJ];omega);refine ⟨ad,e,fun j u hj=>hs j u ?_⟩;rw [List.map_take,eG] at hj
  split at hj
  ·exact hj
  ·cases hj
 have HO:=aa (jE .u64 (xs.take n));have b:HzD (((xs.take n).map fun z:Nat=>Value.int .u64 (z:Int)).length=Nat.min q n):=by
  unfold HzD;rw [cJ,aR,hL.o];exact Nat.min_comm n q
 obtain ⟨CS,c⟩:=aj ((xs.take n).map (fun z:Nat=>Value.int .u64 (z:Int)))
 rw [<- c] at HS HO b;have m:HzD (CS=(xs.take n).map (fun z:Nat=>Value.int .u64 (z:Int))):=c;have t:Nat.min q n<=n:=Nat.min_le_right _ _;clear c h hd;delta ClZ;go_in
 go_wp2_with (at_make;refine wpList_make_full _ rfl _ _ 23 rfl w.heap.size 24 i0 _ 1 underlying23 i r k _ _ _ _ n rfl rfl rfl rfl (by rw [s];omega) (by unfold maxLen;omega) (leR _) ?_;intro w1 d g;rw [bD] at d;have k1:=bf g;obtain ⟨w2,p,f,k2⟩:=ew (P:=prog) 23 23 3 24 w.heap.size 0 n n (some ⟨w.heap.size,0,none⟩) ao q o _ 24 CS underlying23 (by rw [i];simp [k]) (iy d) b.o (fun hp=>⟨rfl,HS.o _ k1 hp⟩) (by have:=b.o;simp;omega) HO.o;have l:HzD _:=f;clear f d g);go_ret;have a:=l.o;rw [m.o,ig] at a;rw [HD.o] at a;have kk:=fH k1 k2 (leR _)
 exact ⟨rfl,dZ a (by rw [ag]) (by unfold maxLen;omega) (leR _),kk⟩

theorem xX {a b:Value} {fr:Nat × Nat} (h:W.heap[p]? = some (.cells #[a,b] t fr)):W.cell? ⟨p,0,none⟩=some a/\W.cell? ⟨p,1,none⟩=some b:=
 ⟨(cell_of_row W p 0 _ _ _ h).trans rfl,(cell_of_row W p 1 _ _ _ h).trans rfl⟩

theorem GX {a b:Value} (h:W.heap[p]? = some (.cells #[a,b] t (0,0))):W.frozen? ⟨p,0,none⟩=false/\W.frozen? ⟨p,1,none⟩=false:=by
 simp [World.frozen?,h]

theorem L7 {a b:Value} (h:W.heap[p]? = some (.cells #[a,b] t (0,0))) (x y:Value) :
  ((W.setCell ⟨p,0,none⟩ x).setCell ⟨p,1,none⟩ y).heap[p]? = some (.cells #[x,y] t (0,0)):=by
 have h1:=heap_setCell_same W p 0 #[a,b] t x h;have h2:=heap_setCell_same (W.setCell ⟨p,0,none⟩ x) p 1 #[x,b] t y (by simpa using h1);simpa using h2

theorem Jl (W:World) (p:Nat) (x y:Value):Kept (fun b=>b=p) W ((W.setCell ⟨p,0,none⟩ x).setCell ⟨p,1,none⟩ y):=
 ((ah (fun b=>b=p) W).setCell ⟨p,0,none⟩ (fun _=>rfl) x).setCell ⟨p,1,none⟩ (fun _=>rfl) y

def sP (n M U V sw od V':Nat):Prop:=M<18446744073709551616^n->M%2=1->U<M->V<M->V'<M/\(M:Int) ∣ 2*(V':Int)-(V+((od:Int)-2*(sw:Int))*U)

theorem iCo {po:OA} {k:Nat} (n M U V sw od x:Nat) (uo vo ao bo:OA) (uc vc a l K b:Nat) {o:Tr} (s:Wr w0 o0 m w o (.pointer po) (k+8)) (I:(sw=1/\od=1/\x=0)\/(sw=0/\od=1/\x=1)\/(sw=0/\od=0/\x=0)) (ag:bits .xor .u64 (od:Int) (sw:Int)=(x:Int)) (hm:NumT w o (.slice ao n a) n M) (hu:NumT w o (.slice uo n uc) n U) (hv:NumT w o (.slice vo n vc) n V) (i:0<n) (hn:n<=900) :
  ClZ 220 #[.agg #[.slice uo n uc,.slice vo n vc],.pointer po,.agg (mzA ao n a K bo l b),.int .u64 (sw:Nat),.int .u64 (od:Nat)] w fun e w'=>∃ (u' v':Value),e=.returned (.agg #[u',v'])/\∃ (U' V':Nat) (o':Tr),HzD (U'=cZ sw V U/\sP n M U V sw od V')/\NumN w' o' u' n U'/\NumN w' o' v' n V'/\Did w o (List.replicate 8 (1,(n:Int),0)) w' o'/\Wr w0 o0 (m ++ List.replicate 8 (1,(n:Int),0)) w' o' (.pointer po) k:=by
 have J:sw<=1:=by omega
 have hx:x<=1:=by omega
 obtain ⟨W,hW⟩:=aj (((w.alloc (.cells #[.slice uo n uc,.slice vo n vc] 190)).alloc (.cells (mzA ao n a K bo l b) 71)).alloc (.cells #[.slice none 0 0,.slice none 0 0] 190))
 have k0:Kept af w W:=by rw [hW];exact (((ah af w).alloc _).alloc _).alloc _
 have b1:W.heap[w.heap.size]? = some (.cells #[.slice uo n uc,.slice vo n vc] 190 (0,0)):=by rw [hW];exact aw (aw (heap_alloc_new _ _))
 have b2:W.heap[w.heap.size+1]? = some (.cells (mzA ao n a K bo l b) 71 (0,0)):=by
  rw [hW];refine aw ?_;have:=heap_alloc_new (w.alloc (.cells #[.slice uo n uc,.slice vo n vc] 190)) (.cells (mzA ao n a K bo l b) 71);simpa using this
 have b3:W.heap[w.heap.size+1+1]? = some (.cells #[.slice none 0 0,.slice none 0 0] 190 (0,0)):=by
  rw [hW];have:=heap_alloc_new ((w.alloc (.cells #[.slice uo n uc,.slice vo n vc] 190)).alloc (.cells (mzA ao n a K bo l b) 71)) (.cells #[.slice none 0 0,.slice none 0 0] 190);simpa using this
 have JC:HzD (∀ W' m' o',Did W o m' W' o'->(W'.cell? ⟨w.heap.size,0,none⟩=some (.slice uo n uc)/\W'.cell? ⟨w.heap.size,1,none⟩=some (.slice vo n vc))/\W'.cell? ⟨w.heap.size+1,0,none⟩=some (.slice ao n a)/\W'.heap[w.heap.size+1+1]? = some (.cells #[.slice none 0 0,.slice none 0 0] 190 (0,0))):=fun W' m' o' d=>
  have ti:TrIn W o:=s.room.1.g k0
  ⟨xX (d.cells b1 ti),(ax (d.cells b2 ti)).1,d.cells b3 ti⟩
 have dW:Did W o [] W o:=Did.of_kept (ah af W) (s.room.1.g k0);have sW:Wr W o [] W o (.pointer po) (k+8):=⟨dW,s.room.g k0,s.ptr⟩
 have HM:=aa (hm.g k0);have HU:=aa (hu.g k0);have HV:=aa (hv.g k0);have HW:=aa hW;have HK:=aa k0;have HS:=aa s;have N:=aa I;have h1:=Cs sw n V U _ _ (k:=k+7) sW J HV.o HU.o;obtain ⟨⟨c1,c2⟩,c3,_⟩:=JC.o W [] o dW;clear hm hu hv hW k0 s I b1 b2 b3 dW sW;delta ClZ;go_in;go_wp2_with (rw [<- HW.o]);refine h1.mono ?_;rintro e w1 ⟨v1,b1,rfl,L,o1,q1,Z,n1,d1,s1⟩;have h2:=tk b1 n L M v1 _ (k:=k+6) s1 Z n1.1 (HM.o.did s1.did);obtain ⟨⟨c1,c2⟩,c3,_⟩:=JC.o w1 _ o1 s1.did;clear h1 n1 d1;go_wp2_with fail;refine h2.mono ?_;rintro e w2 ⟨v2,b2,rfl,D,o2,q2,_,n2,d2,s2⟩
 have h3:=tk x n D U v2 _ (k:=k+5) s2 hx n2.1 (HU.o.did s2.did);obtain ⟨⟨c1,c2⟩,c3,_⟩:=JC.o w2 _ o2 s2.did;clear h2 n2 d2 s1;go_wp2_with fail;refine h3.mono ?_;rintro e w3 ⟨v3,ov,rfl,X,o3,q3,ab,n3,d3,s3⟩;have h4:=LT n X M v3 _ (k:=k+4) s3 n3.1 (HM.o.did s3.did) (by omega);obtain ⟨⟨c1,c2⟩,c3,_⟩:=JC.o w3 _ o3 s3.did;have N3:=aa n3;clear h3 n3 d3 s2;go_wp2_with fail;refine h4.mono ?_;rintro e w4 ⟨v4,b4,rfl,Y,o4,q4,_,n4,d4,s4⟩;have c:=uW X M ov ab;rw [<- q4.o.2] at c;have C:mH X M ov<=1:=by unfold mH;split <;> omega
 obtain ⟨T,hT⟩:=aj (mH X M ov)
 rw [<- hT] at c C;have HT:=aa hT;have h5:=pQ T n Y X v4 v3 (k:=k+3) s4 C n4.1 (N3.o.1.did d4);obtain ⟨⟨c1,c2⟩,c3,_⟩:=JC.o w4 _ o4 s4.did;clear h4 n4 d4 s3 hT;go_wp2_with fail;refine h5.mono ?_;rintro e w5 ⟨v5,rfl,S,o5,q5,n5,d5,s5⟩;obtain ⟨so,sc,rfl⟩:=n5.1.s;obtain ⟨_,_,_,e1,_,_,_,_,f⟩:=n5.1.1.1.open;cases e1
 obtain ⟨sb,h,rfl,G⟩:=fi (f 0 i) i;have z:dig S 0=S%18446744073709551616:=by unfold dig;rw [cP,fC]
 rw [z,aV] at G;have y:=and_one_u64 ((S%18446744073709551616:Nat):Int) (by omega) (by omega);obtain ⟨p,hp⟩:=aj (S%2)
 rw [show ((S%18446744073709551616:Nat):Int)%2=(p:Int) by omega] at y;have HP:=aa hp;have ac:p<=1:=by omega
 have JS:HzD (∀ W' m' o',Did w5 o5 m' W' o'->W'.cell? ⟨sb,h,none⟩=some (.int .u64 ((S%18446744073709551616:Nat):Int))):=fun W' m' o' d=>by
  obtain ⟨_,_,_,e1,_,_,_,_,g⟩:=(n5.1.did d).1.1.open;cases e1
  obtain ⟨_,_,e2,H⟩:=fi (g 0 i) i;cases e2
  rw [z,aV] at H;exact H
 have h6:=fun W' (kk:Kept af w5 W')=>tk p n S M _ _ (k:=k+2) (s5.g kk) ac (n5.1.g kk) ((HM.o.did s5.did).g kk)
 obtain ⟨⟨c1,c2⟩,c3,_⟩:=JC.o w5 _ o5 s5.did;clear h5 n5 d5 s4 hp f N3 z;generalize S%18446744073709551616=S0 at *;go_wp2_with fail;go_region_held3 (fun w'=>w'.cell? ⟨w.heap.size+1,0,none⟩=some (.slice ao n a)/\w'.cell? ⟨sb,h,none⟩=some (.int .u64 (S0:Int)))
  (((try dsimp only);(repeat' apply And.intro) <;> first | (go_keep;done) | assumption))
  (first
  | (go_at_call 166;refine (h6 _ ?_).mono ?_;(exact uT (uU _));rintro e w6 ⟨v6,ae,rfl,E,o6,q6,A,n6,d6,s6⟩;obtain ⟨⟨O,P⟩,R,_⟩:=JC.o w6 _ o6 s6.did;have ad:=JS.o w6 _ o6 (Did.b (uT (uU _)) d6)))
 all_goals
  have h7:=Cr ae n E v6 (k:=k+1) s6 A n6.1;clear h6 d6 n6 s5 c1 c2 c3 G;go_wp2_with fail;refine h7.mono ?_;rintro e w7 ⟨v7,b7,rfl,V',o7,q7,n7,d7,s7⟩;obtain ⟨⟨c1,c2⟩,c3,_⟩:=JC.o w7 _ o7 s7.did;have h8:=pQ sw n V U _ _ (k:=k) s7 J (HV.o.did s7.did) (HU.o.did s7.did);have N7:=aa n7;have T7:=aa s7.room.1;clear h7 n7 d7 s6 O P R ad;go_wp2_with fail;refine h8.mono ?_;rintro e w8 ⟨v8,rfl,U',o8,q8,n8,d8,s8⟩;obtain ⟨_,_,c4⟩:=JC.o w8 _ o8 s8.did;have B:=N7.o.did d8 T7.o;obtain ⟨q,j,rfl⟩:=n8.1.s;obtain ⟨t,r,rfl⟩:=B.1.s;obtain ⟨f0,f1⟩:=GX c4;obtain ⟨g0,g1⟩:=xX c4
  have c5:=L7 c4 (.slice q n j) (.slice t n r);obtain ⟨t0,t1⟩:=xX c5;have kp:=Jl w8 (w.heap.size+1+1) (.slice q n j) (.slice t n r);have F:=aH c4 s8.room.1;have N8:=aa (n8.put c4 (by decide) kp);have N7:=aa (B.put c4 (by decide) kp);have D8:HzD (Did w o (List.replicate 8 (1,(n:Int),0)) ((w8.setCell ⟨w.heap.size+1+1,0,none⟩ (.slice q n j)).setCell ⟨w.heap.size+1+1,1,none⟩ (.slice t n r)) o8):=(Did.b HK.o s8.did).wroteNew kp (by omega) F;have HC:HzD (sP n M U V sw od V'):=fun hM h2 hU hV=>by
   have e4:=q4.o;have e5:=q5.o;have e6:=q6.o;have e7:=q7.o;rw [e4.1,HT.o] at e5;rw [HP.o] at e6;exact GT (n:=n) (Q:=18446744073709551616^n) (B64 n) hM h2 hU hV N.o q1.o.1 q1.o.2 q2.o.1 q3.o.1 q3.o.2 e5 e6.1 e6.2 e7
  clear h8 n8 B c4 c5 kp F s7 s8 d8 c1 c2 c3;go_wp2_with fail;refine bodyPost_ret (v:=.agg #[.slice q n j,.slice t n r]) (by simp [results,results220,go_sem,t0,t1]) rfl ⟨_,_,rfl,U',V',o8,⟨q8.o,HC.o⟩,N8.o,N7.o,D8.o,HS.o.next D8.o (by simp;omega)⟩

theorem En (D:Nat) (h:D<18446744073709551616):D ^^^ 18446744073709551615=18446744073709551615-D:=by
 have e:(BitVec.ofNat 64 D ^^^ BitVec.allOnes 64).toNat=D ^^^ 18446744073709551615:=by
  rw [BitVec.toNat_xor,BitVec.toNat_ofNat,BitVec.toNat_allOnes,dH]
 rw [<- e,BitVec.xor_allOnes,BitVec.toNat_not,BitVec.toNat_ofNat,dH]

structure StBits (d g:Int) (D E y od sw mk A C D' x:Nat):Prop where
 lD:D<18446744073709551616
 hE:IntKind.u64.wrap (-(D:Int))=(E:Int)
 hy:(E:Int)/9223372036854775808=(y:Int)
 hod:(od:Int)=g%2
 hsw:bits .and .u64 (od:Int) (y:Int)=(sw:Int)
 esw:sw=swN d g
 hmk:msk (sw:Int)=(mk:Int)
 hA:bits .xor .u64 (D:Int) (mk:Int)=(A:Int)
 h1:bits .and .u64 (mk:Int) 1=(sw:Int)
 hC:IntKind.u64.wrap ((A:Int)+(sw:Int))=(C:Int)
 hD:IntKind.u64.wrap ((C:Int)+1)=(D':Int)
 eD:D'=tcN 18446744073709551616 (if sw=1 then 1-d else 1+d)
 hx:bits .xor .u64 (od:Int) (sw:Int)=(x:Int)
 hso:(sw=1/\od=1/\x=0)\/(sw=0/\od=1/\x=1)\/(sw=0/\od=0/\x=0)

theorem FK (d g:Int) (h0:-1000000<=d) (h1:d<=1000000):∃ E y od sw mk A C D' x:Nat,StBits d g (tcN 18446744073709551616 d) E y od sw mk A C D' x:=by
 obtain ⟨D,hD⟩:=aj (tcN 18446744073709551616 d)
 rw [<- hD];have fD:(0<=d->(D:Int)=d)/\(d<0->(D:Int)=18446744073709551616+d):=by
  rw [hD];unfold tcN;constructor
  ·intro h;rw [aK];omega
  ·intro h;rw [ai h];omega
 have lD:D<18446744073709551616:=by omega
 have c:∃ E:Nat,IntKind.u64.wrap (-(D:Int))=(E:Int)/\E<18446744073709551616/\(0<d->9223372036854775808<=E)/\(¬ 0<d->E<9223372036854775808):=by
  refine ⟨(-(D:Int)%18446744073709551616).toNat,?_,?_,?_,?_⟩
  ·rw [IntKind.wrap_u64];omega
  ·omega
  ·intro h;omega
  ·intro h;omega
 obtain ⟨E,hE,lE,e1,e2⟩:=c;obtain ⟨od,i⟩:∃ od:Nat,(od:Int)=g%2:=⟨(g%2).toNat,by omega⟩
 have f:od=0\/od=1:=by omega
 obtain ⟨y,hy⟩:=aj (E/9223372036854775808:Nat)
 have j:(E:Int)/9223372036854775808=(y:Int):=by omega
 have ey:y=if 0<d then 1 else 0:=by
  split
  ·rename_i h;have:=e1 h;omega
  ·rename_i h;have:=e2 h;omega
 by_cases h:0<d/\g%2=1
 ·rw [ai h.1] at ey;have k:od=1:=by omega
  have es:swN d g=1:=ai h;subst ey;subst k;obtain ⟨D',a⟩:∃ D',D'=tcN 18446744073709551616 (1-d):=⟨_,rfl⟩
  have b:(D':Int)=if d=1 then 0 else 18446744073709551616+(1-d):=by
   rw [a];unfold tcN
   split <;> split <;> omega
  refine ⟨E,1,1,1,18446744073709551615,18446744073709551615-D,18446744073709551616-D,D',0,⟨lD,hE,j,i,by decide,es.symm,by decide,?_,by decide,?_,?_,?_,by decide,.inl ⟨rfl,rfl,rfl⟩⟩⟩
  ·have:=u64_xor_nat D 18446744073709551615 lD (by omega);rw [En D lD] at this;exact this
  ·rw [IntKind.wrap_u64];omega
  ·rw [IntKind.wrap_u64,b];split <;> omega
  ·rw [ai rfl];exact a
 ·have es:swN d g=0:=ar h;obtain ⟨D',a⟩:∃ D',D'=tcN 18446744073709551616 (1+d):=⟨_,rfl⟩
  have b:(D':Int)=if d < -1 then 18446744073709551616+(1+d) else 1+d:=by
   rw [a];unfold tcN
   split <;> split <;> omega
  have hz:od=0\/y=0:=by
   rcases f with h0 | h0
   ·exact .inl h0
   ·refine .inr ?_;rw [ey,ar (fun hh=>h ⟨hh,by omega⟩)]
  refine ⟨E,y,od,0,0,D,D,D',od,⟨lD,hE,j,i,?_,es.symm,by decide,?_,by decide,?_,?_,?_,?_,?_⟩⟩
  ·have:=u64_and_nat od y (by omega) (by rw [ey];split <;> omega);rw [this];rcases hz with e | e <;> rw [e] <;> simp
  ·have:=u64_xor_nat D 0 lD (by omega);rw [Nat.xor_zero] at this;exact this
  ·rw [IntKind.wrap_u64];omega
  ·rw [IntKind.wrap_u64,b];split <;> omega
  ·rw [ar (by decide)];exact a
  ·have:=u64_xor_nat od 0 (by omega) (by omega);rw [Nat.xor_zero] at this;exact this
  ·omega

theorem DT {sw od x t:Nat} {g:Int} (h:StIn (18446744073709551616^n) t (d,f,g)) (i:(od:Int)=g%2) (c:(sw=1/\od=1/\x=0)\/(sw=0/\od=1/\x=1)\/(sw=0/\od=0/\x=0)) (es:sw=swN d g) :
  (cZ x (cZ sw (gV (tcN (18446744073709551616^(n+1)) g) (tcN (18446744073709551616^(n+1)) f) (n+1)) (tcN (18446744073709551616^(n+1)) g)+tcN (18446744073709551616^(n+1)) f) (cZ sw (gV (tcN (18446744073709551616^(n+1)) g) (tcN (18446744073709551616^(n+1)) f) (n+1)) (tcN (18446744073709551616^(n+1)) g))%18446744073709551616^(n+1)=tcN (18446744073709551616^(n+1)) (g+((g%2)-2*(swN d g:Int))*f)) /\
  cZ sw (tcN (18446744073709551616^(n+1)) g) (tcN (18446744073709551616^(n+1)) f)=tcN (18446744073709551616^(n+1)) (dst (d,f,g)).2.1 /\
  tcN (18446744073709551616^(n+1)) (g+((g%2)-2*(swN d g:Int))*f)/(9223372036854775808*18446744073709551616^n)<=1 /\
  (tcN (18446744073709551616^(n+1)) (g+((g%2)-2*(swN d g:Int))*f)+tcN (18446744073709551616^(n+1)) (g+((g%2)-2*(swN d g:Int))*f)/(9223372036854775808*18446744073709551616^n)%2*18446744073709551616^(n+1))/2=tcN (18446744073709551616^(n+1)) (dst (d,f,g)).2.2:=by
 obtain ⟨_,hf,hg⟩:=h;dsimp only at hf hg;have hP:0<18446744073709551616^n:=aX;rw [ye,<- i,<- es];have j:sw=0\/sw=1:=by omega
 have eB:(18446744073709551616^(n+1))=2*(9223372036854775808*18446744073709551616^n):=by rw [aG];omega
 obtain ⟨B,hB⟩:=aj (18446744073709551616^(n+1))
 have e:B=2^(64*(n+1)):=by rw [hB,B64]
 obtain ⟨H,hH⟩:=aj (9223372036854775808*18446744073709551616^n)
 rw [<- hB,<- hH] at eB;rw [<- hB,<- hH];generalize 18446744073709551616^n=Q at *;have h4:4*Q<=B:=by omega
 have a:=Iw hg hf h4;have b:=It hg hf h4;have lg:tcN B g<B:=Lz hg.1 hg.2 h4;have ls:tcN B (g-f)<B:=by rw [<- a];split <;> omega
 refine ⟨?_,?_,?_,?_⟩
 ·unfold cZ gV;rw [<- e];rcases c with ⟨rfl,rfl,rfl⟩ | ⟨rfl,rfl,rfl⟩ | ⟨rfl,rfl,rfl⟩
  ·rw [ar (by decide),ai rfl,a,aB ls]
   congr 1
   omega
  ·rw [ai rfl,ar (by decide),b]
   congr 1
   omega
  ·rw [ar (by decide),ar (by decide),aB lg]
   congr 1
   omega
 ·dsimp only;unfold cZ;rcases j with rfl | rfl
  ·rw [ar (by decide),ar (by decide)]
  ·rw [ai rfl,ai rfl]
 all_goals
  obtain ⟨X,hX⟩:=aj (g+((od:Int)-2*(sw:Int))*f)
  have lX:-(2*Q:Int)<=X/\X<2*Q:=by
   rw [hX];rcases c with ⟨rfl,rfl,rfl⟩ | ⟨rfl,rfl,rfl⟩ | ⟨rfl,rfl,rfl⟩ <;> omega
  rw [<- hX,An lX eB]
 ·unfold sgN;split <;> omega
 ·exact FT lX eB (by omega)

theorem iJ {a b d:Value} {fr:Nat × Nat} (h:W.heap[p]? = some (.cells #[a,b,c,d,e] t fr)):W.cell? ⟨p,0,none⟩=some a/\W.cell? ⟨p,1,none⟩=some b/\W.cell? ⟨p,2,none⟩=some c/\W.cell? ⟨p,3,none⟩=some d/\W.cell? ⟨p,4,none⟩=some e:=
 ⟨(cell_of_row W p 0 _ _ _ h).trans rfl,(cell_of_row W p 1 _ _ _ h).trans rfl,(cell_of_row W p 2 _ _ _ h).trans rfl,(cell_of_row W p 3 _ _ _ h).trans rfl,(cell_of_row W p 4 _ _ _ h).trans rfl⟩

theorem tg {a b d:Value} (h:W.heap[p]? = some (.cells #[a,b,c,d,e] t (0,0))):W.frozen? ⟨p,0,none⟩=false/\W.frozen? ⟨p,1,none⟩=false/\W.frozen? ⟨p,2,none⟩=false/\W.frozen? ⟨p,3,none⟩=false/\W.frozen? ⟨p,4,none⟩=false:=by
 simp [World.frozen?,h]

theorem H7 {a b d:Value} (h:W.heap[p]? = some (.cells #[a,b,c,d,e] t (0,0))) (x y z u v:Value) :
  (((((W.setCell ⟨p,0,none⟩ x).setCell ⟨p,1,none⟩ y).setCell ⟨p,2,none⟩ z).setCell ⟨p,3,none⟩ u).setCell ⟨p,4,none⟩ v).heap[p]? = some (.cells #[x,y,z,u,v] t (0,0)):=by
 have h1:=heap_setCell_same W p 0 #[a,b,c,d,e] t x h;have h2:=heap_setCell_same (W.setCell ⟨p,0,none⟩ x) p 1 #[x,b,c,d,e] t y (by simpa using h1);have h3:=heap_setCell_same ((W.setCell ⟨p,0,none⟩ x).setCell ⟨p,1,none⟩ y) p 2 #[x,y,c,d,e] t z (by simpa using h2);have h4:=heap_setCell_same (((W.setCell ⟨p,0,none⟩ x).setCell ⟨p,1,none⟩ y).setCell ⟨p,2,none⟩ z) p 3 #[x,y,z,d,e] t u (by simpa using h3);have h5:=heap_setCell_same ((((W.setCell ⟨p,0,none⟩ x).setCell ⟨p,1,none⟩ y).setCell ⟨p,2,none⟩ z).setCell ⟨p,3,none⟩ u) p 4 #[x,y,z,u,e] t v (by simpa using h4);simpa using h5

theorem Cw (W:World) (p:Nat) (x y z u v:Value):Kept (fun b=>b=p) W (((((W.setCell ⟨p,0,none⟩ x).setCell ⟨p,1,none⟩ y).setCell ⟨p,2,none⟩ z).setCell ⟨p,3,none⟩ u).setCell ⟨p,4,none⟩ v):=
 (((((ah (fun b=>b=p) W).setCell ⟨p,0,none⟩ (fun _=>rfl) x).setCell ⟨p,1,none⟩ (fun _=>rfl) y).setCell ⟨p,2,none⟩ (fun _=>rfl) z).setCell ⟨p,3,none⟩ (fun _=>rfl) u).setCell ⟨p,4,none⟩ (fun _=>rfl) v

def iC (b:Int):Int:=min (max b 1) 8320

def tP (b:Int):Int:=if iC b<46 then (49*iC b+80)/17 else (49*iC b+57)/17

def sK (n:Nat):List Ev:=List.replicate 8 (1,(n:Int),0) ++ List.replicate 4 (1,((n+1:Nat):Int),0)

theorem oC (n:Nat):(sK n).length=12:=rfl

theorem Gp {a:Addr} {x y z u v q:Value} (h:W.cell? a=some q) (b:a.block≠p):(((((W.setCell ⟨p,0,none⟩ x).setCell ⟨p,1,none⟩ y).setCell ⟨p,2,none⟩ z).setCell ⟨p,3,none⟩ u).setCell ⟨p,4,none⟩ v).cell? a=some q:=by
 have e:∀ (w:World) (j:Nat) (r:Value),(w.setCell ⟨p,j,none⟩ r).cell? a=w.cell? a:=fun w j r=>by
  unfold World.cell?;rw [Below.heap_setCell w ⟨p,j,none⟩ r a.block b]
 rw [e,e,e,e,e];exact h

theorem I6 {po:OA} {k:Nat} (n M U V t a:Nat) (d F G:Int) (uo vo fo go ao bo:OA) (uc vc fc gc b l K f:Nat) {o:Tr} (s:Wr w0 o0 m w o (.pointer po) (k+12)) (P:StIn (18446744073709551616^n) t (d,F,G)) (ht:t<=100000) (hm:NumT w o (.slice ao n b) n M) (hu:NumT w o (.slice uo n uc) n U) (hv:NumT w o (.slice vo n vc) n V) (hf:NumT w o (.slice fo (n+1) fc) (n+1) (tcN (18446744073709551616^(n+1)) F)) (hg:NumT w o (.slice go (n+1) gc) (n+1) (tcN (18446744073709551616^(n+1)) G)) (aO:0<n) (hn:n<=800) :
  ClZ 174 #[.pointer po,.agg (mzA ao n b K bo l f),.agg #[.slice uo n uc,.slice vo n vc,.slice fo (n+1) fc,.slice go (n+1) gc,.int .u64 (tcN 18446744073709551616 d:Nat)]] w fun e w'=>∃ (u' v' f' g':Value),e=.returned (.agg #[u',v',f',g',.int .u64 (tcN 18446744073709551616 (dst (d,F,G)).1:Nat)])/\∃ (U' V':Nat) (o':Tr),HzD (M<18446744073709551616^n->M%2=1->F%2=1->CoOk M a U V (d,F,G)->CoOk M a U' V' (dst (d,F,G)))/\NumN w' o' u' n U'/\NumN w' o' v' n V'/\NumN w' o' f' (n+1) (tcN (18446744073709551616^(n+1)) (dst (d,F,G)).2.1)/\NumN w' o' g' (n+1) (tcN (18446744073709551616^(n+1)) (dst (d,F,G)).2.2)/\Did w o (sK n) w' o'/\Wr w0 o0 (m ++ sK n) w' o' (.pointer po) k:=by
 obtain ⟨E,y,od,sw,mk,A,C,D',x,hb⟩:=FK d G (by have:=P.1;dsimp only at this;omega) (by have:=P.1;dsimp only at this;omega);obtain ⟨z1,z2,z3,z4⟩:=DT P hb.hod hb.hso hb.esw;have eD:tcN 18446744073709551616 (dst (d,F,G)).1=D':=by rw [ye,<- hb.esw];exact hb.eD.symm
 have Q:sw<=1:=by have:=hb.hso;omega
 have aC:x<=1:=by have:=hb.hso;omega
 have J:tcN (18446744073709551616^(n+1)) G%2=od:=by
  have:=Iv (B:=18446744073709551616^(n+1)) P.2.2 (by rw [aG];omega) (by rw [aG];omega);have h2:=hb.hod;dsimp only at this;omega
 rw [eD];have aL:HzD (∀ V':Nat,sP n M U V sw od V'->M<18446744073709551616^n->M%2=1->F%2=1->CoOk M a U V (d,F,G)->CoOk M a (cZ sw V U) V' (dst (d,F,G))):=fun V' hc hM h2 hF ap=>by
  obtain ⟨c1,c2⟩:=hc hM h2 ap.1 ap.2.1;refine ap.step h2 hF ?_ c1 ?_
  ·rw [<- hb.esw];unfold cZ;by_cases e:sw=1
   ·rw [cf,ai e]
   ·rw [aK,ar e]
  ·rw [<- hb.esw,<- hb.hod];exact c2
 obtain ⟨F',ak⟩:∃ F',F'=(dst (d,F,G)).2.1:=⟨_,rfl⟩
 obtain ⟨G',al⟩:∃ G',G'=(dst (d,F,G)).2.2:=⟨_,rfl⟩
 obtain ⟨L,hL⟩:=aj (n+1)
 have au:0<L:=by omega
 have aR:L<=801:=by omega
 rw [<- ak] at z2;rw [<- al] at z4;rw [<- ak,<- al];have av:∀ (c:Nat) (v:Value) (X:Nat) {w0:World} {o0:Tr} {m:List Ev} {tp:Value} {k:Nat} {w:World} {o:Tr} (s:Wr w0 o0 m w o tp (k+1)) (h:NumT w o v L X) (hc:c=X/(9223372036854775808*18446744073709551616^n)) (az:c<=1),
  ClZ 221 #[tp,v] w fun e w'=>∃ (v':Value),e=.returned v'/\∃ (Z:Nat) (o':Tr),HzD (Z=(X+c%2*18446744073709551616^L)/2)/\NumN w' o' v' L Z/\Did w o [(1,(L:Int),0)] w' o'/\Wr w0 o0 (m ++ [(1,(L:Int),0)]) w' o' tp k:=by
  intro c v X w0 o0 m tp k w o s h hc az;rw [hL] at h ⊢;exact I4 n X c v s h (by omega) hc az
 have HE:HzD (sK n=List.replicate 8 (1,(n:Int),0) ++ ([(1,(L:Int),0)] ++ [(1,(L:Int),0),(1,(L:Int),0)] ++ [(1,(L:Int),0)])):=by
  unfold HzD sK;rw [hL];rfl
 rw [<- hL] at z1 z2 z3 z4 hf hg J ⊢;obtain ⟨TG,Y⟩:=aj (tcN (18446744073709551616^L) G)
 obtain ⟨TF,T⟩:=aj (tcN (18446744073709551616^L) F)
 obtain ⟨TX,an⟩:=aj (tcN (18446744073709551616^L) (G+(G%2-2*(swN d G:Int))*F))
 obtain ⟨D,hD⟩:=aj (tcN 18446744073709551616 d)
 rw [<- Y,<- T,<- an] at z1;rw [<- Y,<- T] at z2;rw [<- an] at z3 z4;rw [<- T] at hf;rw [<- Y] at hg J;rw [<- hD] at hb ⊢;obtain ⟨W,hW⟩:=aj (((w.alloc (.cells (mzA ao n b K bo l f) 71)).alloc (.cells #[.slice uo n uc,.slice vo n vc,.slice fo L fc,.slice go L gc,.int .u64 (D:Nat)] 192)).alloc (.cells #[.slice none 0 0,.slice none 0 0,.slice none 0 0,.slice none 0 0,.int .u64 0] 192))
 have k0:Kept af w W:=by rw [hW];exact (((ah af w).alloc _).alloc _).alloc _
 have b1:W.heap[w.heap.size]? = some (.cells (mzA ao n b K bo l f) 71 (0,0)):=by rw [hW];exact aw (aw (heap_alloc_new _ _))
 have b2:W.heap[w.heap.size+1]? = some (.cells #[.slice uo n uc,.slice vo n vc,.slice fo L fc,.slice go L gc,.int .u64 (D:Nat)] 192 (0,0)):=by
  rw [hW];refine aw ?_;have:=heap_alloc_new (w.alloc (.cells (mzA ao n b K bo l f) 71)) (.cells #[.slice uo n uc,.slice vo n vc,.slice fo L fc,.slice go L gc,.int .u64 (D:Nat)] 192);simpa using this
 have b3:W.heap[w.heap.size+1+1]? = some (.cells #[.slice none 0 0,.slice none 0 0,.slice none 0 0,.slice none 0 0,.int .u64 0] 192 (0,0)):=by
  rw [hW];have:=heap_alloc_new ((w.alloc (.cells (mzA ao n b K bo l f) 71)).alloc (.cells #[.slice uo n uc,.slice vo n vc,.slice fo L fc,.slice go L gc,.int .u64 (D:Nat)] 192)) (.cells #[.slice none 0 0,.slice none 0 0,.slice none 0 0,.slice none 0 0,.int .u64 0] 192);simpa using this
 have S:TrIn W o:=s.room.1.g k0;have JC:HzD (∀ W' m' o',Did W o m' W' o'->(W'.cell? ⟨w.heap.size,0,none⟩=some (.slice ao n b)/\W'.cell? ⟨w.heap.size,1,none⟩=some (.int .u64 (K:Nat))/\W'.cell? ⟨w.heap.size,2,none⟩=some (.slice bo l f))/\(W'.cell? ⟨w.heap.size+1,0,none⟩=some (.slice uo n uc)/\W'.cell? ⟨w.heap.size+1,1,none⟩=some (.slice vo n vc)/\W'.cell? ⟨w.heap.size+1,2,none⟩=some (.slice fo L fc)/\W'.cell? ⟨w.heap.size+1,3,none⟩=some (.slice go L gc)/\W'.cell? ⟨w.heap.size+1,4,none⟩=some (.int .u64 (D:Nat)))):=fun W' m' o' d=>
  ⟨ax (d.cells b1 S),iJ (d.cells b2 S)⟩
 have JR:HzD (∀ W' m' o',Did W o m' W' o'->W'.heap[w.heap.size+1+1]? = some (.cells #[.slice none 0 0,.slice none 0 0,.slice none 0 0,.slice none 0 0,.int .u64 0] 192 (0,0))):=fun W' m' o' d=>d.cells b3 S
 have dW:Did W o [] W o:=Did.of_kept (ah af W) S;have sW:Wr W o [] W o (.pointer po) (k+12):=⟨dW,s.room.g k0,s.ptr⟩
 have HG:=aa (hg.g k0);have HF:=aa (hf.g k0)
 -- the lowest word of g
 obtain ⟨_,_,_,e1,_,_,_,_,O⟩:=(hg.g k0).1.1.open;cases e1
 obtain ⟨gb,I,rfl,aB⟩:=fi (O 0 au) au;have aA:dig TG 0=TG%18446744073709551616:=by unfold dig;rw [cP,fC]
 rw [aA,aV] at aB;have N:=and_one_u64 ((TG%18446744073709551616:Nat):Int) (by omega) (by omega);rw [show ((TG%18446744073709551616:Nat):Int)%2=(od:Int) by omega] at N;generalize TG%18446744073709551616=T0 at *;have hE:=hb.hE;have hy:=hb.hy;have aP:=hb.hsw;have hA:=hb.hA;have h1:=hb.h1;have hC:=hb.hC;have aN:=hb.hD;have am:=sL (sw:Int) (by omega) (by omega) W;rw [hb.hmk] at am
 have J1:HzD (∀ W',Kept af W W'->ClZ 220 #[.agg #[.slice uo n uc,.slice vo n vc],.pointer po,.agg (mzA ao n b K bo l f),.int .u64 (sw:Nat),.int .u64 (od:Nat)] W' fun e w'=>∃ (r:OA) (p:Nat) (H:OA) (z:Nat),e=.returned (.agg #[.slice r n p,.slice H n z])/\∃ (U' V':Nat) (o':Tr),HzD (U'=cZ sw V U/\sP n M U V sw od V')/\NumN w' o' (.slice r n p) n U'/\NumN w' o' (.slice H n z) n V'/\Wr W o (List.replicate 8 (1,(n:Int),0)) w' o' (.pointer po) (k+4)):=fun W' kk=>by
  refine (iCo n M U V sw od x uo vo ao bo uc vc b l K f (k:=k+4) (sW.g kk) hb.hso hb.hx ((hm.g k0).g kk) ((hu.g k0).g kk) ((hv.g k0).g kk) aO (by omega)).mono ?_;rintro e w' ⟨u',v',rfl,U',V',o',q,nu,nv,_,s'⟩;obtain ⟨r,p,rfl⟩:=nu.1.s;obtain ⟨H,z,rfl⟩:=nv.1.s;exact ⟨r,p,H,z,rfl,U',V',o',q,nu,nv,s'⟩
 have J2:HzD (∀ W' o',Wr W o (List.replicate 8 (1,(n:Int),0)) W' o' (.pointer po) (k+4)->ClZ 67 #[.pointer po,.int .u64 (sw:Nat),.slice (some ⟨gb,I,none⟩) L gc,.slice fo L fc] W' fun e w'=>∃ (xo:OA) (xc:Nat),e=.returned (.slice xo L xc)/\∃ (Z:Nat) (i:Tr),HzD (Z=cZ sw TG TF)/\NumN w' i (.slice xo L xc) L Z/\Did W' o' [(1,(L:Int),0)] w' i/\Wr W o (List.replicate 8 (1,(n:Int),0) ++ [(1,(L:Int),0)]) w' i (.pointer po) (k+3)):=fun W' o' s'=>by
  refine (pQ sw L TG TF _ _ (k:=k+3) s' Q (HG.o.did s'.did) (HF.o.did s'.did)).mono ?_;rintro e w' ⟨v',rfl,Z,i,q,nz,d',R⟩;obtain ⟨xo,xc,rfl⟩:=nz.1.s;exact ⟨xo,xc,rfl,Z,i,q,nz,d',R⟩
 have J3:HzD (∀ W' o' m',Wr W o m' W' o' (.pointer po) (k+3)->ClZ 222 #[.pointer po,.int .u64 (sw:Nat),.int .u64 (od:Nat),.slice (some ⟨gb,I,none⟩) L gc,.slice fo L fc] W' fun e w'=>∃ (v':Value),e=.returned v'/\∃ (Z:Nat) (i:Tr),HzD (Z=TX)/\NumN w' i v' L Z/\Did W' o' [(1,(L:Int),0),(1,(L:Int),0)] w' i/\Wr W o (m' ++ [(1,(L:Int),0),(1,(L:Int),0)]) w' i (.pointer po) (k+1)):=fun W' o' m' s'=>by
  refine (I3 sw od x L TG TF _ _ (k:=k+1) s' Q aC hb.hx (HG.o.did s'.did) (HF.o.did s'.did) (by omega)).mono ?_;rintro e w' ⟨v',rfl,Z,i,q,nz,d',R⟩;exact ⟨v',rfl,Z,i,q.o.trans z1,nz,d',R⟩
 have J4:HzD (∀ W' o' m' v',Wr W o m' W' o' (.pointer po) (k+1)->NumN W' o' v' L TX->ClZ 221 #[.pointer po,v'] W' fun e w'=>∃ (xo:OA) (xc:Nat),e=.returned (.slice xo L xc)/\∃ (i:Tr),NumN w' i (.slice xo L xc) L (tcN (18446744073709551616^L) G')/\Did W' o' [(1,(L:Int),0)] w' i/\Wr W o (m' ++ [(1,(L:Int),0)]) w' i (.pointer po) k):=fun W' o' m' v' s' nv=>by
  refine (av _ v' TX s' nv.1 rfl z3).mono ?_;rintro e w' ⟨v',rfl,Z,i,q,nz,d',R⟩;rw [q.o,z4] at nz;obtain ⟨xo,xc,rfl⟩:=nz.1.s;exact ⟨xo,xc,rfl,i,nz,d',R⟩
 have HW:=aa hW;have HK:=aa k0;have HS:=aa s;have Z2:=aa z2;have aQ:HzD (w.heap.size+1+1<=W.heap.size):=by have:=lt_of_block b3;unfold HzD;omega
 obtain ⟨⟨c0,c1,c2⟩,c3,c4,c5,c6,c7⟩:=JC.o W [] o dW;clear hm hu hv hf hg hW k0 s P b1 b2 b3 dW sW S z1 z2 z3 z4 hb O aA J eD Y T an hD ak al hL av HG HF aC;delta ClZ;go_in;go_wp2_with (rw [<- HW.o]);refine am.mono ?_;rintro e w1 ⟨rfl,rfl⟩;clear am N hE hy aP aB;go_wp2_with fail
 go_region_held3 (fun w'=>(w'.cell? ⟨w.heap.size,0,none⟩=some (.slice ao n b)/\w'.cell? ⟨w.heap.size,1,none⟩=some (.int .u64 (K:Int))/\w'.cell? ⟨w.heap.size,2,none⟩=some (.slice bo l f))/\(w'.cell? ⟨w.heap.size+1,0,none⟩=some (.slice uo n uc)/\w'.cell? ⟨w.heap.size+1,1,none⟩=some (.slice vo n vc)/\w'.cell? ⟨w.heap.size+1,2,none⟩=some (.slice fo L fc)/\w'.cell? ⟨w.heap.size+1,3,none⟩=some (.slice (some ⟨gb,I,none⟩) L gc)/\w'.cell? ⟨w.heap.size+1,4,none⟩=some (.int .u64 (D:Int))))
  (((try dsimp only);(repeat' apply And.intro) <;> first | (with_reducible assumption) | (with_reducible refine Gp ?_ ?_;(with_reducible assumption);(dsimp only;omega)) | (go_keep;done)))
  (first
  | (go_at_call 220;refine (J1.o _ ?_).mono ?_;(exact uT (uU _));rintro e w2 ⟨r,p,H,z,rfl,U',V',o2,q2,aE,aI,s2⟩;obtain ⟨⟨p0,p1,p2⟩,p3,p4,p5,p6,p7⟩:=JC.o w2 _ o2 s2.did)
  | (go_at_call 67;refine (J2.o _ o2 s2).mono ?_;rintro e w3 ⟨ad,ac,rfl,Z3,o3,q3,n3,d3,s3⟩;obtain ⟨⟨r0,r1,r2⟩,r3,r4,r5,r6,r7⟩:=JC.o w3 _ o3 s3.did)
  | (go_at_call 222;refine (J3.o _ o3 _ s3).mono ?_;rintro e w4 ⟨v4,rfl,Z4,o4,q4,n4,d4,s4⟩;obtain ⟨⟨t0,t1,t2⟩,t3,t4,t5,t6,t7⟩:=JC.o w4 _ o4 s4.did)
  | (go_at_call 221;refine (J4.o _ o4 _ _ s4 (by rw [<- q4.o];exact n4)).mono ?_;rintro e w5 ⟨ag,ae,rfl,o5,n5,d5,s5⟩;obtain ⟨⟨x0,x1,x2⟩,x3,x4,x5,x6,x7⟩:=JC.o w5 _ o5 s5.did;have j:=JR.o w5 _ o5 s5.did;obtain ⟨f0,f1,f2,f3,f4⟩:=tg j;obtain ⟨g0,g1,g2,g3,g4⟩:=iJ j))
 all_goals
  have aF:=((aE.did d3 s2.room.1).did d4 s3.room.1).did d5 s4.room.1;have aJ:=((aI.did d3 s2.room.1).did d4 s3.room.1).did d5 s4.room.1;have aD:=(n3.did d4 s3.room.1).did d5 s4.room.1;have aq:=H7 j (.slice r n p) (.slice H n z) (.slice ad L ac) (.slice ag L ae) (.int .u64 (D':Int));obtain ⟨y0,y1,y2,y3,y4⟩:=iJ aq;have kp:=Cw w5 (w.heap.size+1+1) (.slice r n p) (.slice H n z) (.slice ad L ac) (.slice ag L ae) (.int .u64 (D':Int));have ay:=aH j s5.room.1;have NU:=aa (aF.put j (by decide) kp);have NV:=aa (aJ.put j (by decide) kp);have NF:=aa (aD.put j (by decide) kp)
  have NG:=aa (n5.put j (by decide) kp);have ab:=s5.did;rw [dX,dX,<- dX [(1,(L:Int),0)],<- HE.o] at ab;have D8:=aa ((Did.b HK.o ab).wroteNew kp (by omega) ay);have Q3:=Z2.o;rw [<- q3.o] at Q3;have aM:=aa Q3;clear aF aJ aD aq kp ay j Q3 ab aE aI n3 n4 n5 d3 d4 d5 s2 s3 s4 s5 x0 x1 x2 x3 x4 x5 x6 x7 p0 p1 p2 p3 p4 p5 p6 p7 r0 r1 r2 r3 r4 r5 r6 r7 t0 t1 t2 t3 t4 t5 t6 t7 J1 J2 J3 J4 hA h1 hC aN;go_wp2_with fail
  refine bodyPost_ret (v:=.agg #[.slice r n p,.slice H n z,.slice ad L ac,.slice ag L ae,.int .u64 (D':Int)]) (by simp [results,results174,go_sem,y0,y1,y2,y3,y4]) rfl ⟨_,_,_,_,rfl,U',V',o5,?_,NU.o,NV.o,?_,NG.o,D8.o,HS.o.next D8.o (by rw [oC];omega)⟩
  ·have:=aL.o V' q2.o.2;rw [<- q2.o.1] at this;exact this
  ·have:=NF.o;rw [aM.o] at this;exact this

theorem GZ (b:Int) (w:World):ClZ 173 #[.int .i64 b] w fun e w'=>e=.returned (.int .i64 (tP b))/\w'=w:=by
 have h0:1<=iC b:=by unfold iC;omega
 have h1:iC b<=8320:=by unfold iC;omega
 have hb:min (max b 1) 8320=iC b:=rfl;unfold tP;generalize iC b=c at *;by_cases h:c<46
 ·rw [ai h];delta ClZ;go_in;go_wp2;go_ret;exact ⟨rfl,rfl⟩
 ·rw [ar h];delta ClZ;go_in;go_wp2;go_ret;exact ⟨rfl,rfl⟩

theorem Bq (h0:0<n) (hn:n<=130):tP (64*(n:Int))=((stp n:Nat):Int):=by
 unfold tP iC stp;have e:min (max (64*(n:Int)) 1) 8320=64*(n:Int):=by omega
 rw [e,aK];omega

theorem Ht (x:Nat) (hx:x<18446744073709551616) (n:Int) (m:Nat) (hm:jL n=m+1) (w:World) :
  ClZ 106 #[.int .u64 x,.int .i64 n] w fun r w'=>r=.returned (.slice (some ⟨w.heap.size,0,none⟩) (m+1) (m+1))/\OwnN .u64 24 w' w.heap.size (.slice (some ⟨w.heap.size,0,none⟩) (m+1) (m+1)) (m+1) (digs x (m+1))/\Kept af w w':=by
 obtain ⟨i0,c,e,f,g⟩:=info_parts Tryz.info24;have hb:m+1<=300:=by rw [<- hm];unfold jL;omega
 have hc:min (max n 1) 300=((m+1:Nat):Int):=by rw [<- hm];unfold jL;omega
 rw [jt x m hx];clear hm;delta ClZ;go_in;go_wp2_with (at_make;refine wpList_make_full _ rfl _ _ 23 rfl w.heap.size 24 i0 _ 1 underlying23 c e f _ _ _ _ (m+1) rfl rfl (by first | exact hc | rfl) (by first | exact hc | rfl) (by rw [g];omega) (by unfold maxLen;omega) (leR _) ?_;intro w1 a b;rw [bD] at a;have k1:=bf b;have i:w1.cell? ⟨w.heap.size,0,none⟩=some (.int .u64 0):=(by rw [World.ownsRow.cellAt a 0 (by omega)];rfl);have hf:=World.ownsRow.frozenAt a 0;have d:=(World.ownsRow.stored a 0 (.int .u64 (x:Nat))).1);go_ret;refine ⟨rfl,?_,k1.setCell _ (fun h=>by simp at h) _⟩;simpa [OwnN,List.replicate_succ] using d

theorem Hu (x:Nat) (hx:x<18446744073709551616) (n:Nat) (a:0<n) (hn:n<=300) (w:World) :
  ClZ 106 #[.int .u64 x,.int .i64 (n:Nat)] w fun r w'=>r=.returned (.slice (some ⟨w.heap.size,0,none⟩) n n)/\OwnN .u64 24 w' w.heap.size (.slice (some ⟨w.heap.size,0,none⟩) n n) n (digs x n)/\Kept af w w':=by
 obtain ⟨m,rfl⟩:∃ m,n=m+1:=⟨n-1,by omega⟩
 exact Ht x hx _ m (by unfold jL;omega) w

theorem NumN.g {o:Tr} {v:Value} (h:NumN w o v n X) (k:Kept af w w'):NumN w' o v n X:=⟨h.1.g k,h.2.g k⟩

theorem Jk {a:Addr} {O:Obj} {v:Value} (h:W.cell? a=some v):(W.alloc O).cell? a=some v:=((ah af W).alloc O).cellN h

theorem Gq {a:Addr} {v:Value} (h:W.cell? a=some v):W.drew.cell? a=some v:=((ah af W).drew).cellN h

theorem CJ {g:Nat} {CL:Array Value} (c:CL=madeCells #[Value.int .u64 0] n) (h:W.heap[g]? = some (.cells CL 24 (0,0))) (hn:n<=1000) (o:Tr) (ti:TrIn W o):NumN W o (.slice (some ⟨g,0,none⟩) n n) n 0:=by
 have a:CL=((List.replicate n 0).map fun z:Nat=>Value.int .u64 (z:Int)).toArray:=by
  have h:=bD .u64 n;rw [bI] at h;rw [<- h,c];simp [Value.cells]
 rw [a] at h;have hz:digs 0 n=List.replicate n 0:=by
  have:=iN (ys:=[]) (V:=0) (m:=n) (Digs.nil _) rfl (aQ _);simpa using this
 have b:OwnN .u64 24 W g (.slice (some ⟨g,0,none⟩) n n) n (digs 0 n):=by rw [hz];exact dZ h (by simp) (by unfold maxLen;omega) (leR _)
 exact NumN.own b (aX) ti

theorem LR (n M A:Nat) (ao bo xo:OA) (a l K d xc:Nat) (w:World) (o:Tr) (ti:TrIn w o) (hm:NumT w o (.slice ao n a) n M) (hx:NumT w o (.slice xo n xc) n A) (y:0<n) (hn:n<=130) :
  ClZ 172 #[.agg (mzA ao n a K bo l d),.slice xo n xc] w fun e w'=>∃ (uo:OA) (uc:Nat) (vo:OA) (vc:Nat) (fo:OA) (fc:Nat) (go:OA) (gc:Nat),e=.returned (.agg #[.slice uo n uc,.slice vo n vc,.slice fo (n+1) fc,.slice go (n+1) gc,.int .u64 1])/\NumN w' o (.slice uo n uc) n 0/\NumN w' o (.slice vo n vc) n 1/\NumN w' o (.slice fo (n+1) fc) (n+1) M/\NumN w' o (.slice go (n+1) gc) (n+1) A/\Kept af w w':=by
 obtain ⟨i0,q,c,s,t⟩:=info_parts Tryz.info24;obtain ⟨L,hL⟩:=aj (n+1)
 have z:IntKind.i64.wrap ((n:Int)+1)=(L:Int):=by rw [hL];simp [IntKind.wrap,IntKind.bits,IntKind.signed];omega
 have lM:M<18446744073709551616^L:=by have:=hm.2;rw [hL,aG];omega
 have lA:A<18446744073709551616^L:=by have:=hx.2;rw [hL,aG];omega
 have l1:1<18446744073709551616^n:=Nat.one_lt_pow (by omega) (by omega);rw [<- hL];obtain ⟨W,hW⟩:=aj ((w.alloc (.cells (mzA ao n a K bo l d) 71)).alloc (.cells #[.slice none 0 0,.slice none 0 0,.slice none 0 0,.slice none 0 0,.int .u64 0] 192))
 have k0:Kept af w W:=by rw [hW];exact ((ah af w).alloc _).alloc _
 have b1:W.heap[w.heap.size]? = some (.cells (mzA ao n a K bo l d) 71 (0,0)):=by rw [hW];exact aw (heap_alloc_new _ _)
 have b2:W.heap[w.heap.size+1]? = some (.cells #[.slice none 0 0,.slice none 0 0,.slice none 0 0,.slice none 0 0,.int .u64 0] 192 (0,0)):=by
  rw [hW];have:=heap_alloc_new (w.alloc (.cells (mzA ao n a K bo l d) 71)) (.cells #[.slice none 0 0,.slice none 0 0,.slice none 0 0,.slice none 0 0,.int .u64 0] 192);simpa using this
 obtain ⟨CL,j⟩:=aj (madeCells #[Value.int .u64 0] n)
 have B:∀ W,(Instr.makeSlice 23 (.int .i64 (n:Int)) (.int .i64 (n:Int))).run prog W=.ok (.slice (some ⟨W.heap.size,0,none⟩) n n) (W.alloc (.cells CL 24)):=fun W=>by rw [j];exact run_make_row (P:=prog) _ _ i0 _ underlying23 q c s rfl _ _ n (by rw [t];omega) (by omega) W
 have c0:=(ax b1).1;have JC:HzD (∀ W',Kept af W W'->W'.cell? ⟨w.heap.size,0,none⟩=some (.slice ao n a)):=fun W' k=>k.cellN c0
 have JB:HzD (∀ W',Kept af W W'->W'.heap[w.heap.size+1]? = some (.cells #[.slice none 0 0,.slice none 0 0,.slice none 0 0,.slice none 0 0,.int .u64 0] 192 (0,0))):=fun W' k=>(k.block _ (lt_of_block b2) (fun f=>f)).trans b2
 have J1:HzD (∀ W',Kept af W W'->ClZ 106 #[.int .u64 1,.int .i64 (n:Nat)] W' fun r w'=>∃ vo vc,r=.returned (.slice vo n vc)/\NumN w' o (.slice vo n vc) n 1/\Kept af W' w'/\Kept af W w'):=fun W' k=>by
  refine (Hu 1 (by omega) n y (by omega) W').mono ?_;rintro e w' ⟨rfl,ho,k'⟩;exact ⟨_,_,rfl,NumN.own ho l1 (ti.g (k0.trans (k.trans k'))),k',k.trans k'⟩
 have J2:HzD (∀ W',Kept af W W'->ClZ 111 #[.slice ao n a,.int .i64 (L:Nat)] W' fun r w'=>∃ fo fc,r=.returned (.slice fo L fc)/\NumN w' o (.slice fo L fc) L M/\Kept af W' w'/\Kept af W w'):=fun W' k=>by
  refine (GY _ _ L W' (hm.1.1.g (k0.trans k)) (ak (by omega) _ _)).mono ?_;rintro e w' ⟨rfl,ho,k'⟩;rw [bY hm.2] at ho;exact ⟨_,_,rfl,NumN.own ho lM (ti.g (k0.trans (k.trans k'))),k',k.trans k'⟩
 have J3:HzD (∀ W',Kept af W W'->ClZ 111 #[.slice xo n xc,.int .i64 (L:Nat)] W' fun r w'=>∃ fo fc,r=.returned (.slice fo L fc)/\NumN w' o (.slice fo L fc) L A/\Kept af W' w'/\Kept af W w'):=fun W' k=>by
  refine (GY _ _ L W' (hx.1.1.g (k0.trans k)) (ak (by omega) _ _)).mono ?_;rintro e w' ⟨rfl,ho,k'⟩;rw [bY hx.2] at ho;exact ⟨_,_,rfl,NumN.own ho lA (ti.g (k0.trans (k.trans k'))),k',k.trans k'⟩
 have JM:HzD (∀ W' g,Kept af W W'->W'.heap[g]? = some (.cells CL 24 (0,0))->NumN W' o (.slice (some ⟨g,0,none⟩) n n) n 0):=fun W' g k h=>CJ j h (by omega) o (ti.g (k0.trans k))
 have JF:HzD (∀ (W':World) uo uc vo vc fo fc go gc,Kept af W W'->NumN W' o (.slice uo n uc) n 0->NumN W' o (.slice vo n vc) n 1->NumN W' o (.slice fo L fc) L M->NumN W' o (.slice go L gc) L A->∃ W2,W2=((((W'.setCell ⟨w.heap.size+1,0,none⟩ (.slice uo n uc)).setCell ⟨w.heap.size+1,1,none⟩ (.slice vo n vc)).setCell ⟨w.heap.size+1,2,none⟩ (.slice fo L fc)).setCell ⟨w.heap.size+1,3,none⟩ (.slice go L gc)).setCell ⟨w.heap.size+1,4,none⟩ (.int .u64 1)/\(W2.heap[w.heap.size+1]? = some (.cells #[.slice uo n uc,.slice vo n vc,.slice fo L fc,.slice go L gc,.int .u64 1] 192 (0,0)))/\HzD (NumN W2 o (.slice uo n uc) n 0/\NumN W2 o (.slice vo n vc) n 1/\NumN W2 o (.slice fo L fc) L M/\NumN W2 o (.slice go L gc) L A/\Kept af w W2)):=fun W' uo uc vo vc fo fc go gc k h1 h2 h3 h4=>by
  have hb:=JB.o W' k;have kp:=Cw W' (w.heap.size+1) (.slice uo n uc) (.slice vo n vc) (.slice fo L fc) (.slice go L gc) (.int .u64 1);exact ⟨_,rfl,H7 hb _ _ _ _ _,h1.put hb (by decide) kp,h2.put hb (by decide) kp,h3.put hb (by decide) kp,h4.put hb (by decide) kp,(k0.trans k).next kp (fun x hx e=>by omega)⟩
 have HW:=aa hW;clear hm hx hW k0 b1 b2 lM lA l1 ti q c s t hL j;delta ClZ;go_in;go_wp2_with fail;rw [<- HW.o];go_region_held3 (fun w'=>w'.cell? ⟨w.heap.size,0,none⟩=some (.slice ao n a))
  (((try dsimp only);first | (with_reducible assumption) | (with_reducible refine Gp ?_ ?_;(with_reducible assumption);(dsimp only;omega)) | (with_reducible refine Jk ?_;first | (with_reducible assumption) | (with_reducible refine Gq ?_;(with_reducible assumption))) | (with_reducible refine Gq ?_;(with_reducible assumption)) | (go_keep;done)))
  (first
  | (go_at_call 106;refine (J1.o _ ?_).mono ?_;(first | exact uT (uU _) | exact oP _ (uT (uU _)));rintro e w2 ⟨vo,vc,rfl,n2,k2,K2⟩;have p2:=JC.o w2 K2)
  | (go_at_call_of 111 (Value.slice ao n a);refine (J2.o _ ?_).mono ?_;(first | exact K2 | exact oP _ K2);rintro e w3 ⟨fo,fc,rfl,n3,k3,K3⟩;have p3:=JC.o w3 K3)
  | (go_at_call_of 111 (Value.slice xo n xc);refine (J3.o _ ?_).mono ?_;(first | exact K3 | exact oP _ K3);rintro e w4 ⟨go,gc,rfl,n4,k4,K4⟩;have p4:=JC.o w4 K4;have m:=JB.o w4 K4;have p:=JB.o (w4.alloc (.cells CL 24)) (oP _ K4);obtain ⟨f0,f1,f2,f3,f4⟩:=tg m;obtain ⟨g0,g1,g2,g3,g4⟩:=iJ m;obtain ⟨F0,F1,F2,F3,F4⟩:=tg p;obtain ⟨G0,G1,G2,G3,G4⟩:=iJ p))
 ·have c:(W.drew.alloc (.cells CL 24)).heap[W.heap.size]? = some (.cells CL 24 (0,0)):=heap_alloc_new W.drew _;have hz:=((k2.trans (k3.trans k4)).block _ (lt_of_block c) (fun f=>f)).trans c;have nz:=JM.o w4 _ K4 hz;obtain ⟨W2,b,i,HN⟩:=JF.o w4 _ _ _ _ _ _ _ _ K4 nz (n2.g (k3.trans k4)) (n3.g k4) n4;obtain ⟨y0,y1,y2,y3,y4⟩:=iJ i;rw [<- b];clear b;go_wp2_with fail;exact bodyPost_ret (v:=.agg #[.slice (some ⟨W.heap.size,0,none⟩) n n,.slice vo n vc,.slice fo L fc,.slice go L gc,.int .u64 1]) (by simp [results,results172,go_sem,y0,y1,y2,y3,y4]) rfl ⟨_,_,_,_,_,_,_,_,rfl,HN.o⟩
 ·have c:=heap_alloc_new w2 (.cells CL 24);have hz:=((k3.trans k4).block _ (lt_of_block c) (fun f=>f)).trans c;have kA:=(ah af w2).alloc (.cells CL 24);have nz:=JM.o w4 _ K4 hz;obtain ⟨W2,b,i,HN⟩:=JF.o w4 _ _ _ _ _ _ _ _ K4 nz (n2.g (kA.trans (k3.trans k4))) (n3.g k4) n4;obtain ⟨y0,y1,y2,y3,y4⟩:=iJ i;rw [<- b];clear b;go_wp2_with fail;exact bodyPost_ret (v:=.agg #[.slice (some ⟨w2.heap.size,0,none⟩) n n,.slice vo n vc,.slice fo L fc,.slice go L gc,.int .u64 1]) (by simp [results,results172,go_sem,y0,y1,y2,y3,y4]) rfl ⟨_,_,_,_,_,_,_,_,rfl,HN.o⟩
 ·have c:=heap_alloc_new w3 (.cells CL 24);have hz:=(k4.block _ (lt_of_block c) (fun f=>f)).trans c;have kA:=(ah af w3).alloc (.cells CL 24);have nz:=JM.o w4 _ K4 hz;obtain ⟨W2,b,i,HN⟩:=JF.o w4 _ _ _ _ _ _ _ _ K4 nz (n2.g (k3.trans (kA.trans k4))) (n3.g (kA.trans k4)) n4;obtain ⟨y0,y1,y2,y3,y4⟩:=iJ i;rw [<- b];clear b;go_wp2_with fail;exact bodyPost_ret (v:=.agg #[.slice (some ⟨w3.heap.size,0,none⟩) n n,.slice vo n vc,.slice fo L fc,.slice go L gc,.int .u64 1]) (by simp [results,results172,go_sem,y0,y1,y2,y3,y4]) rfl ⟨_,_,_,_,_,_,_,_,rfl,HN.o⟩
 ·have hz:=heap_alloc_new w4 (.cells CL 24);have kA:=(ah af w4).alloc (.cells CL 24);have nz:=JM.o (w4.alloc (.cells CL 24)) _ (oP _ K4) hz;obtain ⟨W2,b,i,HN⟩:=JF.o (w4.alloc (.cells CL 24)) _ _ _ _ _ _ _ _ (oP _ K4) nz (n2.g (k3.trans (k4.trans kA))) (n3.g (k4.trans kA)) (n4.g kA);obtain ⟨y0,y1,y2,y3,y4⟩:=iJ i;rw [<- b];clear b;go_wp2_with fail;exact bodyPost_ret (v:=.agg #[.slice (some ⟨w4.heap.size,0,none⟩) n n,.slice vo n vc,.slice fo L fc,.slice go L gc,.int .u64 1]) (by simp [results,results172,go_sem,y0,y1,y2,y3,y4]) rfl ⟨_,_,_,_,_,_,_,_,rfl,HN.o⟩

def AQ (n:Nat):Nat->List Ev
 | 0=>[]
 | k+1=>AQ n k ++ sK n

def tr (n:Nat):List Ev:=AQ n (stp n) ++ (List.replicate 3 (1,((n+1:Nat):Int),0) ++ (List.replicate 3 (1,(n:Int),0) ++ List.replicate 2 (1,(n:Int),0)))

structure BtwI (w0:World) (o0:Tr) (w:World) (o:Tr) (tp:Value) (n M a pb k N:Nat) (s:Int × Int × Int) (G:Prop) (uo vo fo go:OA) (uc vc fc gc U V:Nat):Prop where
 wrt:Wr w0 o0 (AQ n k) w o tp (12*(N-k)+20)
 box:w.heap[pb]? = some (.cells #[.slice uo n uc,.slice vo n vc,.slice fo (n+1) fc,.slice go (n+1) gc,.int .u64 (tcN 18446744073709551616 (jb s k).1:Nat)] 192 (0,0))
 nu:NumN w o (.slice uo n uc) n U
 nv:NumN w o (.slice vo n vc) n V
 nf:NumN w o (.slice fo (n+1) fc) (n+1) (tcN (18446744073709551616^(n+1)) (jb s k).2.1)
 ng:NumN w o (.slice go (n+1) gc) (n+1) (tcN (18446744073709551616^(n+1)) (jb s k).2.2)
 co:G->CoOk M a U V (jb s k)

theorem TrIn.put {o:Tr} (h:TrIn w o) (k:Kept (fun b=>b=p) w w') (hf:¬ dr o p):TrIn w' o:=by
 rcases o with _ | ⟨q,g,l⟩
 ·trivial
 ·exact ⟨h.1.kept k (fun e=>hf (.inl e.symm)) (fun x hx e=>hf (.inr (by rw [<- e];exact hx))),h.2⟩

theorem Es:cZ (sgN F) (tcN B (-F)) (tcN B F)=F.natAbs:=by
 unfold cZ sgN tcN;by_cases h:F<0
 ·rw [ai h,ai (by decide),aK];omega
 ·rw [ar h,ar (by decide),ar h];omega

theorem Fo (hF:-((18446744073709551616^n:Nat):Int)<F/\F<((18446744073709551616^n:Nat):Int)):gV 0 (tcN (18446744073709551616^(n+1)) F) (n+1)=tcN (18446744073709551616^(n+1)) (-F):=by
 unfold gV;rw [<- B64];exact Iu hF (by rw [aG];omega)

theorem EV {n M A is Z:Nat} {s:Int × Int × Int} (k:0<n) (hn:n<=130) (hM:M<18446744073709551616^n) (f:M%2=1) (h2:2<=M) (hA:A<M) (hs:s=jb (1,(M:Int),(A:Int)) (stp n)) (j:CoOk M A U V s) (hD:D=s.2.1.natAbs) (e:is=dF (decide (D=1))) (hZ:Z=cZ (sgN s.2.1) (ij 0 U M) U) (hY:Y=cZ is Z 0) :
  (Nat.gcd A M=1->Y<M/\A*Y%M=1/\is=1)/\(Nat.gcd A M≠1->Y=0/\is=0):=by
 rw [B64] at hM;have he:=(Cf (M:=M) (a:=A) (n:=n) k hn f (by omega) hM).2;rw [<- hs,<- hD] at he;rw [ft,<- he];constructor
 ·intro h1;rw [h1,dV rfl] at e;have c:is=1:=e;have hf:=EW (d:=s.1) (F:=s.2.1) (G:=s.2.2) j h2 (by omega);have i:Z=if s.2.1<0 then ij 0 U M else U:=by
   rw [hZ];unfold cZ sgN;by_cases h:s.2.1<0
   ·rw [ai h,ai h];rfl
   ·rw [ar h,ar h];rfl
  rw [<- i] at hf;have g:Y=Z:=by rw [hY,c];rfl
  rw [g];exact ⟨hf.1,hf.2,c⟩
 ·intro h1;rw [cI h1] at e;have b:is=0:=e;exact ⟨by rw [hY,b];rfl,b⟩

theorem uO {k:Nat} (bit n:Nat) (u v:Value) (xs ys:LN) {o:Tr} (s:Wr w0 o0 m w o tp (k+1)) (hb:bit<=1) (hu:RowT w o u xs) (hv:RowT w o v ys) (a:Digs xs) (b:Digs ys) (hl:max xs.length ys.length=n) (hn:n<=1000:=by omega) :
  ClZ 67 #[tp,.int .u64 (bit:Nat),u,v] w fun e w'=>∃ (v':Value),e=.returned v'/\∃ (Z:Nat) (o':Tr),HzD (Z=cZ bit (val xs) (val ys))/\NumN w' o' v' n Z/\Fresh w v'/\Did w o [(1,(n:Int),0)] w' o'/\Wr w0 o0 (m ++ [(1,(n:Int),0)]) w' o' tp k:=by
 have h:=oh o bit (by omega) u v xs ys w (s.room.l (by omega)) hu hv a b;rw [s.ptr,hl] at h;refine h.mono ?_;rintro e w' ⟨v',rfl,ho,o',d⟩;exact ⟨v',rfl,_,o',rfl,NumN.own ho (oB (eX a) (eX b)) (d.room (k:=0) (s.room.l (by simp))).1,Fresh.own ho (leR _),d,s.next d (by simp;omega)⟩

theorem EU (n X:Nat) (u v:Value) {o:Tr} (s:Wr w0 o0 m w o tp (k+1)) (hu:NumT w o u n X) (hv:RowT w o v [1]) (a:0<n) (hn:n<=1000) :
  ClZ 66 #[tp,u,v] w fun e w'=>∃ c:Nat,e=.returned (.int .u64 (c:Nat))/\∃ (o':Tr),HzD (c=dF (decide (X=1)))/\c<=1/\Did w o [(1,(n:Int),0)] w' o'/\Wr w0 o0 (m ++ [(1,(n:Int),0)]) w' o' tp k:=by
 have h:=qN o u v _ [1] w (s.room.l (by omega)) hu.1 hv (ak (by omega) _ _) (Digs.one (by omega)) (by rw [ag];omega) (by simp);rw [s.ptr,ag,bY hu.2,show ([1]:LN).length=1 from rfl,show max n 1=n by omega,show val [1]=1 from rfl] at h;refine h.mono ?_;rintro e w' ⟨rfl,o',d⟩;exact ⟨_,rfl,o',rfl,qY _,d,s.next d (by simp;omega)⟩

theorem LS (o:Tr) (ao bo xo:OA) (n l K a c xc A:Nat) (ms rs:LN) (w:World) (ht:TrRoom w o (12*stp n+30)) (hm:RowT w o (.slice ao n a) ms) (hr:RowT w o (.slice bo l c) rs) (hx:NumT w o (.slice xo n xc) n A) (ba:Digs ms) (bz:Digs rs) (hK:K<18446744073709551616) (ap:0<n) (hn:n<=130) (bu:okMod ms K rs\/o=none) :
  ClZ 113 #[aP o,.agg (mzA ao n a K bo l c),.slice xo n xc] w fun e w'=>∃ (v':Value) (is:Nat),e=.returned (.tuple #[v',.int .u64 (is:Nat)])/\∃ (Y:Nat) (m:List Ev) (o':Tr),NumN w' o' v' n Y/\Fresh w v'/\Did w o m w' o'/\(okMod ms K rs->m=tr n/\(A<val ms->(Nat.gcd A (val ms)=1->Y<val ms/\A*Y%val ms=1/\is=1)/\(Nat.gcd A (val ms)≠1->Y=0/\is=0))):=by
 obtain ⟨po,bb⟩:=aM o;obtain ⟨_,_,_,e1,bt,_,_,_,_⟩:=hm.1.open;cases e1
 obtain ⟨M,hM⟩:=aj (val ms)
 have an:NumT w o (.slice ao n a) n M:=by rw [hM];exact NumT.of hm ba bt.o
 obtain ⟨W,hW⟩:=aj (w.alloc (.cells (mzA ao n a K bo l c) 71))
 have k0:Kept af w W:=by rw [hW];exact (ah af w).alloc _
 have b1:W.heap[w.heap.size]? = some (.cells (mzA ao n a K bo l c) 71 (0,0)):=by rw [hW];exact heap_alloc_new _ _
 have hB:=LR n M A ao bo xo a l K c xc W o (ht.1.g k0) (an.g k0) (hx.g k0) ap hn;have am:=fun W'=>GZ (64*(n:Int)) W'
 rw [Bq ap hn] at am;have bA:IntKind.i64.wrap (64*(n:Int))=64*(n:Int):=by simp [IntKind.wrap,IntKind.bits,IntKind.signed];omega
 have HW:=aa hW;have bk:=aa k0;have HT:=aa ht;have aV:=aa b1;obtain ⟨c0,c1,c2⟩:=ax b1;obtain ⟨N,hN⟩:=aj (stp n)
 have bR:N<=30000:=by rw [hN];unfold stp;omega
 rw [<- hN] at am HT;have HN:=aa hN;rw [bb];clear hW k0 ht b1 hN;delta ClZ;go_in;go_wp2_with (rw [<- HW.o]);refine hB.mono ?_;rintro e w1 ⟨uo,uc,vo,vc,fo,fc,go,gc,rfl,nu,nv,nf,ng,k1⟩;clear hB c0 c1 c2;go_wp2_with fail;refine (am _).mono ?_;rintro e w2 ⟨rfl,aL⟩;have b2:w2.heap[w1.heap.size]? = some (.cells #[.slice uo n uc,.slice vo n vc,.slice fo (n+1) fc,.slice go (n+1) gc,.int .u64 1] 192 (0,0)):=by rw [aL];exact heap_alloc_new _ _
 have k2:Kept af w1 w2:=by rw [aL];exact (ah af w1).alloc _
 have E:=bk.o.trans k1;have ar:=HT.o.g E;have bv:=aa (hm.g E);have aK:=aa (an.g E);have bx:=aa (hr.g E);have a8:=(k1.block _ (lt_of_block aV.o) (fun f=>f)).trans aV.o;have JC:HzD (∀ W' m' o',Did w1 o m' W' o'->W'.heap[w.heap.size]? = some (.cells (mzA ao n a K bo l c) 71 (0,0))):=fun W' m' o' d=>d.cells a8 ar.1
 obtain ⟨s0,x⟩:=aj ((1,(M:Int),(A:Int)):Int × Int × Int)
 have X:StIn (18446744073709551616^n) 0 s0:=by
  have h1:=an.2;have h2:=hx.2;rw [x];unfold StIn;dsimp only;generalize 18446744073709551616^n=Q at *;omega
 have a0:=aa (StIn.all X);have av:HzD (okMod ms K rs->CoOk M A 0 1 s0):=fun h=>by
  have:=eu h.1;rw [<- hM] at this;rw [x];refine ⟨by omega,by omega,?_,?_⟩
  ·exact ⟨-1,by dsimp only;omega⟩
  ·exact ⟨0,by dsimp only;omega⟩
 have G:HzD (okMod ms K rs->M<18446744073709551616^n/\M%2=1/\∀ k,(jb s0 k).2.1%2=1):=fun h=>by
  have:=eu h.1;rw [<- hM] at this;refine ⟨an.2,by omega,fun k=>(tj (s:=s0) (by rw [x];dsimp only;omega) k).1⟩
 have r:BtwI w1 o w2 o (.pointer po) n M A w1.heap.size 0 N s0 (okMod ms K rs) uo vo fo go uc vc fc gc 0 1:=by
  refine ⟨⟨Did.of_kept k2 ar.1,(ar.l (by omega)).g k2,bb⟩,?_,nu.g k2,nv.g k2,?_,?_,av.o⟩
  ·rw [x];exact b2
  ·rw [x];have:=nf.g k2;rw [<- D0 (18446744073709551616^(n+1)) M] at this;exact this
  ·rw [x];have:=ng.g k2;rw [<- D0 (18446744073709551616^(n+1)) A] at this;exact this
 have q:=aa r;have bm:=aa x;have a1:=aa E;clear am aL b2 k2 E ar a8 X r nu nv nf ng k1 x;go_wp2_with fail;go_loopw [24] (fun i wr=>∃ (k:Nat) (o1:Tr) (uo vo fo go:OA) (uc vc fc gc U V:Nat),k<=N/\i=.int .i64 (k:Int)/\HzD (BtwI w1 o wr o1 (.pointer po) n M A w1.heap.size k N s0 (okMod ms K rs) uo vo fo go uc vc fc gc U V)) (fun i _=>N-(intOf i).toNat)
 case atStart=>exact ⟨0,o,uo,vo,fo,go,uc,vc,fc,gc,0,1,by omega,rfl,q.o⟩
 case round=>
  clear q;obtain ⟨k,o1,uo,vo,fo,go,uc,vc,fc,gc,U,V,hk,rfl,HB⟩:=hrel;by_cases hkn:k<N
  ·have g1:(k:Int)<(N:Int):=by omega
   obtain ⟨c0,c1,c2⟩:=ax (JC.o wr _ o1 HB.o.wrt.did);obtain ⟨p0,p1,p2,p3,p4⟩:=iJ HB.o.box;have hS:=I6 n M U V k A (jb s0 k).1 (jb s0 k).2.1 (jb s0 k).2.2 uo vo fo go ao bo uc vc fc gc a l K c (k:=12*(N-(k+1))+20) (HB.o.wrt.l (by omega)) (a0.o k) (by omega) (aK.o.did HB.o.wrt.did) HB.o.nu.1 HB.o.nv.1 HB.o.nf.1 HB.o.ng.1 ap (by omega);have a5:dst ((jb s0 k).1,(jb s0 k).2.1,(jb s0 k).2.2)=jb s0 (k+1):=rfl;rw [a5] at hS;have aW:=aa HB.o.co;have TI:=aa HB.o.wrt.room.1;have au:=aa HB.o.box;obtain ⟨T1,aB⟩:=aj (tcN 18446744073709551616 (jb s0 k).1)
   rw [<- aB] at hS p4;have bp:=aa aB;clear a5 aB HB;go_wp2_with fail;refine hS.mono ?_;rintro e w5 ⟨u',v',f',g',rfl,U',V',o5,q5,aS,aT,aQ,aR,d5,s5⟩;obtain ⟨ad,ac,rfl⟩:=aS.1.s;obtain ⟨ai,ae,rfl⟩:=aT.1.s;obtain ⟨I,H,rfl⟩:=aQ.1.s;obtain ⟨L,J,rfl⟩:=aR.1.s;have p:=d5.cells au.o TI.o;rw [<- bp.o] at p;obtain ⟨f0,f1,f2,f3,f4⟩:=tg p;obtain ⟨g0,bQ,g2,g3,g4⟩:=iJ p;obtain ⟨T2,aC⟩:=aj (tcN 18446744073709551616 (jb s0 (k+1)).1)
   rw [<- aC];have a3:=H7 p (.slice ad n ac) (.slice ai n ae) (.slice I (n+1) H) (.slice L (n+1) J) (.int .u64 (T2:Int));have kp:=Cw w5 w1.heap.size (.slice ad n ac) (.slice ai n ae) (.slice I (n+1) H) (.slice L (n+1) J) (.int .u64 (T2:Int));have aD:=aH p s5.room.1;have bK:=s5.room
   have aw:HzD (BtwI w1 o (((((w5.setCell ⟨w1.heap.size,0,none⟩ (.slice ad n ac)).setCell ⟨w1.heap.size,1,none⟩ (.slice ai n ae)).setCell ⟨w1.heap.size,2,none⟩ (.slice I (n+1) H)).setCell ⟨w1.heap.size,3,none⟩ (.slice L (n+1) J)).setCell ⟨w1.heap.size,4,none⟩ (.int .u64 (T2:Int))) o5 (.pointer po) n M A w1.heap.size (k+1) N s0 (okMod ms K rs) ad ai I L ac ae H J U' V'):=by
    have dw:=s5.did.wroteNew kp (leR _) aD;refine ⟨⟨dw,⟨s5.room.1.put kp aD,s5.room.2⟩,s5.ptr⟩,?_,aS.put p (by decide) kp,aT.put p (by decide) kp,aQ.put p (by decide) kp,aR.put p (by decide) kp,fun h=>?_⟩
    ·rw [<- aC];exact a3
    ·obtain ⟨i1,i2,i3⟩:=G.o h;exact q5.o i1 i2 (i3 k) (aW.o h)
   clear hS aS aT aQ aR d5 s5 a3 kp aD bK aC q5 aW c0 c1 c2 p0 p1 p2 p3 p4;go_wp2_with fail;go_roundw
   case rel=>exact ⟨k+1,o5,ad,ai,I,L,ac,ae,H,J,U',V',by omega,by go_num,aw.o⟩
   case measure=>simp [intOf];omega
  ·have g1:¬ (k:Int)<(N:Int):=by omega
   obtain rfl:k=N:=by omega
   have hF:=a0.o k;obtain ⟨F,al⟩:=aj ((jb s0 k).2.1)
   have a7:-((18446744073709551616^n:Nat):Int)<F/\F<((18446744073709551616^n:Nat):Int):=by rw [al];exact hF.2.1
   have bc:sgN F=tcN (18446744073709551616^(n+1)) F/(9223372036854775808*18446744073709551616^n):=(An (Q:=18446744073709551616^n) (by omega) (by rw [aG];omega) (by omega) (gI (by omega) (aX))).symm;have y:sgN F<=1:=by unfold sgN;split <;> omega
   have nf:=HB.o.nf;rw [<- al] at nf;have aA:=Gn n _ _ _ wr o1 nf.1 (by omega) bc;have s6:=HB.o.wrt;have h7:=I7 (n+1) _ _ (k:=19) (s6.l (by omega)) nf.1 (by omega);obtain ⟨c0,c1,c2⟩:=ax (JC.o wr _ o1 s6.did);obtain ⟨p0,p1,p2,p3,p4⟩:=iJ HB.o.box;have bl:=aa nf;have aY:=aa al;have bj:=aa a7;obtain ⟨sg,z⟩:=aj (sgN F)
   rw [<- z] at y aA;have aZ:=aa z;have TI:=aa s6.room.1;have au:=aa HB.o.box;clear nf al a7 hF bc s6 z;go_wp2_with fail;refine aA.mono ?_;rintro e w6 ⟨rfl,rfl⟩;clear aA;go_wp2_with fail;refine h7.mono ?_;rintro e w7 ⟨v7,b7,rfl,Z7,o7,q7,n7,d7,s7⟩;have aE:=d7.cells au.o TI.o;have bw:=JC.o w7 _ o7 s7.did;obtain ⟨P0,P1,P2,P3,P4⟩:=iJ aE;have h8:=pQ sg (n+1) Z7 _ v7 _ (k:=18) s7 y n7.1 (bl.o.1.did d7);have T7:=aa s7.room.1;clear h7 n7 c0 c1 c2 p0 p1 p2 p3 p4 bw;go_wp2_with fail;refine h8.mono ?_;rintro e w8 ⟨v8,rfl,D,o8,q8,n8,d8,s8⟩;have aF:=d8.cells aE T7.o
   have T8:=aa s8.room.1;have kA:Kept af w8 (w8.alloc (.cells #[.int .u64 1] 24)):=(ah af w8).alloc _;have r1:Row .u64 (w8.alloc (.cells #[.int .u64 1] 24)) (.slice (some ⟨w8.heap.size,0,none⟩) 1 1) [1]:=Row.of_block (k:=.u64) (w:=w8.alloc (.cells #[.int .u64 1] 24)) (g:=w8.heap.size) (zs:=[1]) (t:=24) (heap_alloc_new _ _) rfl (by unfold maxLen;omega);have bg:RowT (w8.alloc (.cells #[.int .u64 1] 24)) o8 (.slice (some ⟨w8.heap.size,0,none⟩) 1 1) [1]:=⟨r1,fun _ b hb f=>by
    have e':w8.heap.size=b:=by simpa [Value.ownBlock] using hb
    have:=T8.o.foot b f;omega⟩
   have h9:=EU (n+1) D v8 _ (k:=17) (s8.g kA) (n8.1.g kA) bg (by omega) (by omega);have P:=(kA.block _ (lt_of_block aF) (fun f=>f)).trans aF;have D8:=aa ((d7.trans d8).g kA);have bq:=aa (T8.o.g kA);clear h8 n8 P0 P1 P2 P3 P4 r1 bg kA d7 d8 aE;go_wp2_with fail;refine h9.mono ?_;rintro e w9 ⟨is,rfl,o9,q9,aJ,d9,s9⟩;have aI:=d9.cells P bq.o;obtain ⟨c0,c1,c2⟩:=ax (JC.o w9 _ o9 s9.did);obtain ⟨P0,P1,P2,P3,P4⟩:=iJ aI;have aq:=HB.o.nu.1.did (D8.o.trans d9)
   have az:=LL o9 ao bo uo n l K a c n uc ms rs (digs U n) w9 (s9.room.l (by omega)) (bv.o.did s9.did) (bx.o.did s9.did) aq.1 ba bz (ak (by omega) _ _) hK (by omega) (by omega);rw [s9.ptr,bY aq.2,<- hM] at az;have T9:=aa s9.room.1;clear h9 aF P;go_wp2_with fail;refine az.mono ?_;rintro e bi ⟨bL,bN,rfl,zs,be,aU,bf,bd,C,S,T⟩;have v:okMod ms K rs->(okMod ms K rs/\True/\U<M):=fun h=>⟨h,trivial,(HB.o.co h).1⟩
   have aN:Digs zs/\zs.length<=n/\(okMod ms K rs->zs=digs (ij 0 U M) n/\be=List.replicate 3 (1,(n:Int),0))/\TrRoom bi aU 10:=by
    by_cases h:okMod ms K rs
    ·obtain ⟨⟨e1,_⟩,e2⟩:=S (v h);refine ⟨by rw [e1];exact ak (by omega) _ _,by rw [e1,ag];omega,fun _=>⟨e1,e2⟩,C.room ?_⟩;rw [e2];exact s9.room.l (by simp)
    ·have R:o=none:=bu.resolve_left h;obtain ⟨e1,_⟩:=T (fun hh=>h hh.1);have e9:o9=none:=by have:=s9.did;rw [R] at this;exact this.none.1
     have br:aU=none:=by have:=C;rw [e9] at this;exact this.none.1
     refine ⟨by rw [e1];exact Digs.nil _,by rw [e1];simp,fun hh=>absurd hh h,by rw [br];exact TrRoom.none _ _ (by omega)⟩
   obtain ⟨bB,bC,ab,j⟩:=aN;have HZ:=aa ab;have bI:Wr w1 o (AQ n k ++ [(1,((n+1:Nat):Int),0)] ++ [(1,((n+1:Nat):Int),0)] ++ [(1,((n+1:Nat):Int),0)] ++ be) bi aU (.pointer po) 10:=⟨s9.did.trans C,j,C.ptr.trans s9.ptr⟩
   have O:=C.cells aI T9.o;obtain ⟨Q0,Q1,Q2,Q3,Q4⟩:=iJ O;have B:=aq.did C;have a6:=uO sg n bL _ zs (digs U n) (k:=9) bI y ((bd rfl).2.rowT bf j.1) B.1 bB (ak (by omega) _ _) (by rw [ag];omega);have HU:=aa B.2;clear az P0 P1 P2 P3 P4 c0 c1 c2 aI O S T bd bf ab j bC aq B v;go_wp2_with fail;refine a6.mono ?_;rintro e bU ⟨bM,rfl,a2,bS,bF,aO,_,bO,bh⟩;have ay:=uO is n bM (.slice none 0 0) (digs a2 n) [] (k:=8) bh aJ aO.1.1 ⟨Row.nil _ _,fun h=>absurd rfl h⟩ (ak (by omega) _ _) (Digs.nil _) (by rw [ag];simp)
   rw [bY aO.1.2] at ay;have bn:=aa bh.did.size;clear a6 aO Q0 Q1 Q2 Q3 Q4;go_wp2_with fail;refine ay.mono ?_;rintro e bV ⟨bT,rfl,Y,bE,bG,bD,bs,bP,bJ⟩;clear ay;go_wp2_with fail;go_ret2;refine ⟨_,_,rfl,Y,_,bE,bD,?_,Did.b a1.o bJ.did,fun v=>⟨?_,fun hA=>?_⟩⟩
   ·intro b hb;have h1:=bs b hb;have h2:=bn.o;have h3:=a1.o.size;omega
   ·rw [(HZ.o v).2];unfold tr;rw [<- HN.o];simp [List.append_assoc,List.replicate]
   ·obtain ⟨i1,i2,i3⟩:=G.o v;have hE:=eu v.1;rw [<- hM] at hE hA ⊢;have a9:=HB.o.co v;have hs:jb s0 k=jb (1,(M:Int),(A:Int)) (stp n):=by rw [bm.o,<- HN.o]
    refine EV (D:=D) (is:=is) (Z:=a2) (s:=jb s0 k) ap hn i1 i2 hE.2.1 hA hs a9 ?_ q9.o ?_ bG.o
    ·rw [q8.o,q7.o,Fo bj.o,aZ.o,<- aY.o];exact Es
    ·have a4:=bF.o;rw [(HZ.o v).1,bY (bH (tR (by omega) a9.1) i1),bY HU.o,aZ.o,aY.o] at a4;exact a4

def vD (n:Nat):List Ev:=(1,(n:Int),0) :: tr n

def Gf (A M Y is:Nat):Prop:=(Nat.gcd A M=1->Y<M/\A*Y%M=1/\is=1)/\(Nat.gcd A M≠1->Y=0/\is=0)

def tX (w:World) (o:Tr) (P:Prop) (n A M:Nat) (w':World) (v':Value) (is c:Nat):Prop:=
 ∃ (zs:LN) (m:List Ev) (o':Tr),Row .u64 w' v' zs/\Lies true w w' v'/\Did w o m w' o'/\(P->c=0/\m=vD n/\∃ Y,zs=digs Y n/\Gf A M Y is)/\(¬ P->zs=[]/\is=0/\c=1)

theorem iOf (o:Tr) (ao bo xo:OA) (n l K a i N1 xc:Nat) (ms rs xs:LN) (w:World) (ht:TrRoom w o 400000) (hm:RowT w o (.slice ao n a) ms) (hr:RowT w o (.slice bo l i) rs) (hx:RowT w o (.slice xo N1 xc) xs) (q:Digs ms) (z:Digs rs) (J:Digs xs) (hK:K<18446744073709551616) (X:n<=1000000) (ae:okMod ms K rs\/o=none) :
  ClZ 65 #[aP o,.agg (mzA ao n a K bo l i),.slice xo N1 xc] w fun e w'=>∃ (v':Value) (is c:Nat),e=.returned (.tuple #[v',.int .u64 (is:Nat),.int .i64 (c:Nat)])/\tX w o (okMod ms K rs/\(N1=n/\val xs<val ms)) n (val xs) (val ms) w' v' is c:=by
 obtain ⟨po,L⟩:=aM o;obtain ⟨_,_,_,e1,F,_,_,_,_⟩:=hm.1.open;cases e1
 obtain ⟨_,_,_,e1,G,_,_,_,_⟩:=hx.1.open;cases e1
 obtain ⟨_,_,_,e1,U,_,_,_,_⟩:=hr.1.open;cases e1
 obtain ⟨W,hW⟩:=aj (w.alloc (.cells (mzA ao n a K bo l i) 71))
 have k0:Kept af w W:=by rw [hW];exact (ah af w).alloc _
 have b1:W.heap[w.heap.size]? = some (.cells (mzA ao n a K bo l i) 71 (0,0)):=by rw [hW];exact heap_alloc_new _ _
 obtain ⟨c0,c1,c2⟩:=ax b1;have HW:=aa hW;have ab:=aa k0;by_cases hok:0<n/\n<=130
 ·have al:=hok.1;have hn:=hok.2;have g1:¬ (n:Int)<1:=by omega
  have g2:¬ (n:Int) > 130:=by omega
  have am:12*stp n+30+1<=400000:=by unfold stp;omega
  obtain ⟨M,hM⟩:=aj (val ms)
  have V:NumT w o (.slice ao n a) n M:=by rw [hM];exact NumT.of hm q F.o
  obtain ⟨A,hA⟩:=aj (val xs%18446744073709551616^n)
  have T:N1=n->A=val xs:=fun h=>by rw [hA,aB];rw [<- h,<- G.o];exact aE (by omega) J
  have D:=GY _ xs n W (hx.1.g k0) J;rw [nW,<- hA] at D;have lA:A<18446744073709551616^n:=by rw [hA];exact aY _ (aX)
  rw [<- hM];have HM:=aa hm;have S:=aa V;have HR:=aa hr;have HT:=aa ht;have O:=aa b1;have N:=aa T;have R:=aa lA;rw [L];clear hW k0 b1 hm V hr ht hx G T hA lA hok;delta ClZ;go_in;go_wp2_with (rw [<- HW.o]);refine D.mono ?_;rintro e w1 ⟨rfl,Z,k1⟩;have C:=ab.o.trans k1;have s:=HT.o.g C;have x:=(k1.block _ (lt_of_block O.o) (fun f=>f)).trans O.o;obtain ⟨c0,c1,c2⟩:=ax x;have nx:=NumN.own Z R.o s.1;have s1:Wr w1 o [] w1 o (.pointer po) 400000:=⟨Did.of_kept (ah af w1) s.1,s,L⟩
  have B:=sr o _ _ _ _ w1 (s.l (by omega)) nx.1.1 (S.o.g C).1 (ak (by omega) _ _) (ak (by omega) _ _) (by rw [ag];omega) (by rw [ag];omega);rw [L,ag,ag,it,bY R.o,bY S.o.2] at B;have JB:HzD (∀ W' m' o',Did w1 o m' W' o'->W'.heap[w.heap.size]? = some (.cells (mzA ao n a K bo l i) 71 (0,0))):=fun W' m' o' d=>d.cells x s.1
  have ac:=aa nx;have ad:=aa s1;have m:=aa C;obtain ⟨bl,I⟩:=aj (dF (decide (A<M)))
  rw [<- I] at B;have P:=aa I;clear D Z k1 C s x nx s1 I;go_wp2_with fail;refine B.mono ?_;rintro e w2 ⟨rfl,o2,d2⟩;have s2:=ad.o.next (k:=12*stp n+30) d2 (by simp;omega)
  have E:=LS o2 ao bo _ n l K a i n A ms rs w2 s2.room ((HM.o.g m.o).did d2) ((HR.o.g m.o).did d2) (ac.o.1.did d2) q z hK al hn (ae.elim Or.inl (fun h=>.inr (by have:=d2;rw [h] at this;exact this.none.1)));rw [s2.ptr,<- hM] at E;obtain ⟨c0,c1,c2⟩:=ax (JB.o w2 _ o2 d2);clear B;go_wp2_with fail;refine E.mono ?_;rintro e w3 ⟨v3,is,rfl,Y,m3,o3,n3,f3,d3,hY⟩;have t:=d2.trans d3;obtain ⟨p0,p1,p2⟩:=ax (JB.o w3 _ o3 t);have p:=((HM.o.g m.o).did t).1;have r:=((HR.o.g m.o).did t).1;have Q:=aa (Did.b m.o t)
  have j:HzD (∀ w':World,Kept af w3 w'->¬ (okMod ms K rs/\(N1=n/\val xs<M))->tX w o (okMod ms K rs/\(N1=n/\val xs<M)) n (val xs) M w' (.slice none 0 0) 0 1):=fun w' k h=>⟨[],_,o3,Row.nil _ _,Lies.nil _ _ _,Q.o.g k,fun hp=>absurd hp h,fun _=>⟨rfl,rfl,rfl⟩⟩
  have g:HzD (∀ w':World,Kept af w3 w'->okMod ms K rs->N1=n->A<M->tX w o (okMod ms K rs/\(N1=n/\val xs<M)) n (val xs) M w' v3 is 0):=fun w' k h1 h2 h3=>by
   have eA:=N.o h2;obtain ⟨e1,e2⟩:=hY h1;refine ⟨digs Y n,_,o3,(n3.1.g k).1.1,fun _=>⟨?_,n3.2.g k⟩,Q.o.g k,fun _=>⟨rfl,?_,Y,rfl,?_⟩,fun hp=>absurd ⟨h1,h2,by rw [<- eA];exact h3⟩ hp⟩
   ·intro b hb;have q1:=f3 b hb;have q2:=d2.size;have q3:=m.o.size;omega
   ·rw [e1];rfl
   ·rw [<- eA];exact e2 h3
  clear E c0 c1 c2 n3 f3 d3 t hY s2 d2;by_cases hN:N1=n
  ·by_cases hlt:A<M
   ·have x:bl=1:=by rw [P.o,dV hlt];rfl
    subst x;by_cases hmd2:okMod ms K rs
    ·have v:=oS ao bo n l K a i ms rs true (by simp [hmd2]) w3 p r q z hK X;have HF:=aa (fun w' k=>g.o w' k hmd2 hN hlt);have H:(N1:Int)=(n:Int):=by omega
     clear g j p r hN;go_wp2_with fail;refine v.mono ?_;rintro e w4 ⟨rfl,k4⟩;clear v;go_wp2_with fail;go_ret3
     exact ⟨_,_,_,rfl,HF.o _ k4⟩
    ·have v:=oS ao bo n l K a i ms rs false (by simp [hmd2]) w3 p r q z hK X;have HF:=aa (fun w' k=>j.o w' k (fun h=>hmd2 h.1));have H:(N1:Int)=(n:Int):=by omega
     clear g j p r hN;go_wp2_with fail;refine v.mono ?_;rintro e w4 ⟨rfl,k4⟩;clear v;go_wp2_with fail;go_ret3
     exact ⟨_,0,1,rfl,HF.o _ k4⟩
   ·have ai:bl=0:=by rw [P.o,cI hlt];rfl
    subst ai;have HF:=aa (j.o w3 (ah _ _) (fun h=>hlt (by rw [N.o h.2.1];exact h.2.2)));have H:(N1:Int)=(n:Int):=by omega
    clear g j p r hN;go_wp2_with fail;go_ret3
    exact ⟨_,0,1,rfl,HF.o⟩
  ·have HF:=aa (j.o w3 (ah _ _) (fun h=>hN h.2.1));have H:¬ (N1:Int)=(n:Int):=by omega
   clear g j p r hN;go_wp2_with fail;go_ret3
   exact ⟨_,0,1,rfl,HF.o⟩
 ·have y:¬ (okMod ms K rs/\(N1=n/\val xs<val ms)):=fun h=>by
   obtain ⟨_,f2,f3,_⟩:=h.1.a F.o U.o q z hK;exact hok ⟨f2,f3⟩
  have HF:HzD (tX w o (okMod ms K rs/\(N1=n/\val xs<val ms)) n (val xs) (val ms) W (.slice none 0 0) 0 1):=⟨[],[],o,Row.nil _ _,Lies.nil _ _ _,Did.of_kept k0 ht.1,fun hp=>absurd hp y,fun _=>⟨rfl,rfl,rfl⟩⟩
  generalize aP o=tp at *;clear hm hr hx ht q z J y k0 b1 F G U hW;by_cases h0:n<1
  ·have g1:(n:Int)<1:=by omega
   clear hok;delta ClZ;go_in;go_wp2_with (rw [<- HW.o]);go_ret3
   exact ⟨_,0,1,rfl,HF.o⟩
  ·have g1:¬ (n:Int)<1:=by omega
   have g2:(n:Int) > 130:=by omega
   clear hok h0;delta ClZ;go_in;go_wp2_with (rw [<- HW.o]);go_ret3
   exact ⟨_,0,1,rfl,HF.o⟩

end Go.Proofs.YtpkmoamgpjcdeaaGreatDoor
