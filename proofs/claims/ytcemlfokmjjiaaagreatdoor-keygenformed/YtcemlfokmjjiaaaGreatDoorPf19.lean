/- Put together of: Pow1 Mir2 LimH Mir3 Sho1. -/
import Derived.Test.YtcemlfokmjjiaaaGreatDoorPf9
import Derived.Test.YtcemlfokmjjiaaaGreatDoorPf18

namespace Go.Proofs.YtcemlfokmjjiaaaGreatDoor
set_option maxRecDepth 100000
set_option maxHeartbeats 4000000
open Go.RowKit

def mon (n V X:Nat):Nat:=2^(64*n)*X%V

theorem iy {n V X:Nat} (hV:0<V):mon n V X<V:=Nat.mod_lt _ hV

theorem mA (n V X:Nat):mon n V (X%V)=mon n V X:=by
 unfold mon;rw [Nat.mul_mod,Nat.mod_mod,← Nat.mul_mod]

theorem sY (n V:Nat):mon n V 0=0:=by
 unfold mon;rw [Nat.mul_zero,Nat.zero_mod]

theorem yD {n V A B Y:Nat} (a:V%2=1) (h1:Y<V) (h2:2^(64*n)*Y%V=mon n V A*mon n V B%V):Y=mon n V (A*B):=by
 have b:Nat.Coprime (2^(64*n)) V:=(dS a).symm;refine (al h1).symm.trans ?_;unfold mon at *;refine ff b ?_;rw [h2,← Nat.mul_mod]
 congr 1
 generalize 2^(64*n)=R
 grind

theorem kY {n V A Y:Nat} (a:V%2=1) (h1:Y<V) (h2:2^(64*n)*Y%V=mon n V A%V):Y=A%V:=by
 have b:Nat.Coprime (2^(64*n)) V:=(dS a).symm;refine (al h1).symm.trans ?_;refine ff b ?_;rw [h2];unfold mon;rw [Nat.mod_mod]

structure Mod8 (w:World) (o:Tr) (ao bo:Option Addr) (n l K mcap rcap:Nat) (ms rs:List Nat):Prop where
 hm:RowT w o (.slice ao n mcap) ms
 hr:RowT w o (.slice bo l rcap) rs
 hmd:Digs ms
 hrd:Digs rs
 hK:K<18446744073709551616
 ok:okMod ms K rs

theorem Mod8.grew {w w':World} {o:Tr} {ao bo:Option Addr} {n l K a b:Nat} {ms rs:List Nat} (h:Mod8 w o ao bo n l K a b ms rs) (k:Kept af w w'):Mod8 w' o ao bo n l K a b ms rs:=⟨h.hm.grew k,h.hr.grew k,h.hmd,h.hrd,h.hK,h.ok⟩

theorem Mod8.facts {w:World} {o:Tr} {ao bo:Option Addr} {n l K a b:Nat} {ms rs:List Nat} (h:Mod8 w o ao bo n l K a b ms rs):(0<n∧n≤130)∧l=n∧val ms%2=1∧2≤val ms∧val ms<18446744073709551616^n:=by
 obtain ⟨_,_,_,e1,h1,_⟩:=h.hm.1.open;cases e1
 obtain ⟨_,_,_,e1,h2,_⟩:=h.hr.1.open;cases e1
 obtain ⟨_,f2,f3,f4,f5,f6,_⟩:=h.ok.facts h1.out h2.out h.hmd h.hrd h.hK;have m:=eF h.ok.1;exact ⟨⟨f2,f3⟩,f4,f5,by omega,f6⟩

theorem ie {n V P:Nat} (hV:0<V) (hn:V<18446744073709551616^n):val (digs (mon n V P) n)=mon n V P:=by
 rw [ak,al (Nat.lt_trans (iy hV) hn)]

theorem qd {n V A B:Nat} (a:V%2=1) (h:mon n V A=mon n V B):A%V=B%V:=by
 have hV:0<V:=by omega
 refine kY (n:=n) a (Nat.mod_lt _ hV) ?_;rw [← h];unfold mon;rw [Nat.mod_mod,Nat.mul_mod,Nat.mod_mod,← Nat.mul_mod]

theorem si {n V A B:Nat} (a:V%2=1):mon n V A=mon n V B↔A%V=B%V:=by
 refine ⟨qd a,fun h=>?_⟩;rw [← mA n V A,← mA n V B,h]

theorem tw {n V:Nat} (c:V%2=1) (h1:1<V):V-mon n V 1=mon n V (V-1):=by
 have hV:0<V:=by omega
 have ha:=iy (n:=n) (X:=1) hV;have hb:=iy (n:=n) (X:=V-1) hV;have hs:(mon n V 1+mon n V (V-1))%V=0:=by
  unfold mon;rw [← Nat.add_mod,← Nat.mul_add,show 1+(V-1)=V by omega,Nat.mul_mod_left]
 have h0:mon n V 1≠0:=fun h=>by
  have:=qd c (h.trans (sY n V).symm);rw [al h1,Nat.zero_mod] at this;omega
 obtain ⟨q,hq⟩:=Nat.dvd_of_mod_eq_zero hs;generalize mon n V 1=a at *;generalize mon n V (V-1)=b at *;rcases q with _ | _ | q
 ·omega
 ·omega
 ·rw [show q+1+1=q+2 by omega,Nat.mul_add] at hq;have:V*2≤V*q+V*2:=Nat.le_add_left _ _;omega

theorem xV {n V:Nat} (a:V%2=1) (h1:1<V):cS V (mon n V 1) n=mon n V (V-1):=by
 have ha:=iy (n:=n) (X:=1) (show 0<V by omega);unfold cS;rw [if_neg (by omega)];exact tw a h1

theorem qB {N A s:Nat} (hs:IsTz (N-1) s):jy N A↔(A^((N-1)/2^s)%N=1∨∃ i,i<s∧(A^((N-1)/2^s))^2^i%N=N-1):=by
 constructor
 ·rintro ⟨t,ht,h⟩;obtain rfl:=ht.uniq hs;exact h
 ·exact fun h=>⟨s,hs,h⟩

theorem Af {N B i:Nat} (h1:1<N) (h:B^2^i%N=1):∀ j,i≤j→B^2^j%N=1:=by
 intro j hj;obtain ⟨d,rfl⟩:∃ d,j=i+d:=⟨j-i,by omega⟩
 clear hj
 induction d with
 | zero=>exact h
 | succ d ih=>
  rw [← Nat.add_assoc,← Ay,ih,Nat.mul_one,al h1]

theorem AF (n V B i:Nat):mon n V (B^2^i*B^2^i)=mon n V (B^2^(i+1)):=by
 rw [← Nat.pow_add,show 2^i+2^i=2^(i+1) by rw [Nat.pow_succ];omega]

theorem qt {X t n p:Nat} (hp:p<n):dig X p=dig (X+t*18446744073709551616^n) p:=by
 unfold dig;have e:t*18446744073709551616^n=18446744073709551616^p*(t*18446744073709551616^(n-p-1)*18446744073709551616):=by
  rw [show n=p+((n-p-1)+1) by omega,Nat.pow_add,Nat.pow_succ,show p+(n-p-1+1)-p-1=n-p-1 by omega];simp only [Nat.mul_left_comm,Nat.mul_comm]
 rw [e,Nat.add_mul_div_left _ _ (Nat.pow_pos (by omega)),Nat.add_mul_mod_self_right]

theorem rL (Z p:Nat):dig (Z/2) p=dig Z p/2+9223372036854775808*(Z/18446744073709551616^(p+1)%2):=by
 unfold dig;rw [Nat.pow_succ,← Nat.div_div_eq_div_mul,Nat.div_div_eq_div_mul Z 2,Nat.mul_comm 2,← Nat.div_div_eq_div_mul];generalize Z/18446744073709551616^p=T;omega

theorem zm (x c:Nat) (hx:x<18446744073709551616) (hc:c≤1):bits .or .u64 ((x/2:Nat):Int) ((9223372036854775808*c:Nat):Int)=((x/2+9223372036854775808*c:Nat):Int):=by
 rw [u64_or_nat _ _ (by omega) (by omega)]
 congr 1
 rw [Nat.or_comm,Nat.add_comm,show 9223372036854775808*c=2^63*c from rfl,← Nat.two_pow_add_eq_or_of_lt (by omega:x/2<2^63)]

theorem yr (D:List Nat) (n k m:Nat) (hl:D.length=n) (hk:k<n) (hm:m=n-1-k):(List.replicate (n-k) 0 ++ D.drop (n-k)).set m (D.getD m 0)=List.replicate (n-(k+1)) 0 ++ D.drop (n-(k+1)):=by
 rw [show n-(k+1)=m by omega,show n-k=m+1 by omega,List.replicate_succ',List.append_assoc,List.set_append_right _ _ (by simp),List.length_replicate,Nat.sub_self,List.drop_eq_getElem_cons (show m<D.length by omega),List.getD_eq_getElem?_getD,List.getElem?_eq_getElem (show m<D.length by omega)];simp

theorem uC {w:World} {base g n k m:Nat} {t:TypeId} {D:List Nat} (h:OwnN .u64 t w base (.slice (some ⟨g,0,none⟩) n n) n (List.replicate (n-k) 0 ++ D)) (hk:k<n) (hm:m=n-1-k):w.cell? ⟨g,m,none⟩=some (.int .u64 0):=by
 rw [World.ownsRow.cellAt h m (by omega),List.getElem?_map,List.getElem?_append_left (by simp;omega),List.getElem?_replicate,if_pos (by omega)];rfl

theorem tI (o:Tr) (u:Value) (xs:List Nat) (d:Nat) (R:d<18446744073709551616) (w:World) (ht:TrRoom w o 1) (hu:RowT w o u xs) (q:Digs xs) (hL:xs.length≤100000000) :
  Calls Tryz.prog 168 #[aE o,u,.int .u64 (d:Nat)] w fun e w'=>∃ v',e=.returned (.tuple #[v',.int .u64 ((val xs+d%2*18446744073709551616^xs.length)%2:Nat)]) ∧
   OwnN .u64 23 w' w.heap.size v' xs.length (digs ((val xs+d%2*18446744073709551616^xs.length)/2) xs.length)∧∃ o',Did w o [(1,(xs.length:Nat),0)] w' o':=by
 obtain ⟨i0,J,H,P,O⟩:=info_parts Tryz.info23;have s:=and_one_u64 (d:Int) (by omega) (by omega);obtain ⟨bt,y⟩:∃ bt,bt=d%2:=⟨_,rfl⟩
 rw [show (d:Int)%2=(bt:Int) by omega] at s;rw [← y];have T:bt≤1:=by omega
 clear y;have a:=aa (fw q);have hX:Hid (val xs<18446744073709551616^xs.length):=bV q (leR _);obtain ⟨ao,n,cap,rfl,l,_,_,_,_⟩:=hu.1.open;have W:n≤100000000:=by rw [← l.out];exact hL
 rw [l.out] at hX a ⊢;have HU:Hid (RowT w o (.slice ao n cap) xs):=hu;have HT:Hid (TrRoom w o 1):=ht;have hS:=dC o n w ht.1;obtain ⟨tp,t⟩:∃ tp,tp=aE o:=⟨_,rfl⟩
 rw [← t] at hS ⊢;clear hu ht l q t hL;generalize val xs=X at *;have hD:Hid (∀ p,p<n→dig X p=dig (X+bt*18446744073709551616^n) p):=fun p hp=>qt hp
 have G:Hid (bt=(X+bt*18446744073709551616^n)/18446744073709551616^n%2):=by
  unfold Hid;rw [Nat.add_mul_div_right _ _ (Nat.pow_pos (by omega)),Nat.div_eq_of_lt hX.out];omega
 generalize X+bt*18446744073709551616^n=Z at *;obtain ⟨C,hC⟩:∃ C,C=Z%2:=⟨_,rfl⟩
 rw [← hC];have HC:=aa hC;clear hC;go_enter Tryz.func168,Tryz.ntmps168;go_wp2_with fail;refine hS.mono ?_;rintro e w4 ⟨rfl,o2,d2⟩;have d4:=aa d2;have B:=HU.out.did d2;obtain ⟨a1,n1,c1,e1,N,_,_,_,j⟩:=B.1.open;simp only [Value.slice.injEq] at e1;obtain ⟨rfl,rfl,rfl⟩:=e1;have Q:Hid (w.heap.size≤w4.heap.size):=d2.size;rw [← a.out] at j;clear hS d2 B N;go_wp2_with (at_make;refine wpList_make_full _ rfl _ _ 32 rfl w4.heap.size 23 i0 _ 1 Tryz.underlying32 J H P _ _ _ _ n rfl rfl rfl rfl (by rw [O];omega) (by unfold maxLen;omega) (leR _) ?_;intro w5 g v);rw [aG] at g;have k5:=aD v;clear v
 go_loopw [10,23] (fun c i wr=>∃ (k c':Nat),k≤n∧c'≤1∧i=.int .i64 (k:Int)∧c=.int .u64 (c':Int)∧OwnN .u64 23 wr w4.heap.size (.slice (some ⟨w4.heap.size,0,none⟩) n n) n (List.replicate (n-k) 0 ++ (digs (Z/2) n).drop (n-k))∧Kept af w4 wr ∧
   Hid (c'=Z/18446744073709551616^(n-k)%2)) (fun _ i _=>n-(intOf i).toNat)
 case atStart=>exact ⟨0,bt,Nat.zero_le _,T,rfl,rfl,by rw [Nat.sub_zero,List.drop_eq_nil_of_le (by rw [ag];exact leR _),List.append_nil];exact g,k5,G⟩
 case round=>
  obtain ⟨k,c,hk,hc,rfl,rfl,ho,r,f⟩:=hrel;by_cases hkn:k<n
  ·have ab:(0:Int)≤(k:Int):=Int.natCast_nonneg _;have L:(k:Int)<(n:Int):=by omega
   obtain ⟨m,hm⟩:∃ m,m=n-1-k:=⟨_,rfl⟩
   obtain ⟨b1,I,rfl,U⟩:=cK ((j m (by omega)).grew r) (by omega);have Y:=uC ho hkn hm;have hf:=World.ownsRow.frozenAt ho m;have E:=fun u=>(World.ownsRow.stored ho m u).1
   have hx:dig X m<18446744073709551616:=Nat.mod_lt _ (by omega);obtain ⟨z,hz⟩:∃ z:Nat,z=dig X m/2+9223372036854775808*c:=⟨_,rfl⟩
   have D:z=dig (Z/2) m:=by
    rw [hz,rL,hD.out m (by omega),f.out,show m+1=n-k by omega]
   have M:Hid (OwnN .u64 23 (wr.setCell ⟨w4.heap.size,m,none⟩ (.int .u64 (z:Int))) w4.heap.size (.slice (some ⟨w4.heap.size,0,none⟩) n n) n (List.replicate (n-(k+1)) 0 ++ (digs (Z/2) n).drop (n-(k+1)))):=by
    have:=E (.int .u64 (z:Int));unfold Hid OwnN;rw [← yr _ n k m (ag _ _ _) hkn hm,de _ _ _ _ (by omega),← D,List.map_set];exact this
   have F:Hid (dig X m%2=Z/18446744073709551616^(n-(k+1))%2):=by
    unfold Hid;rw [hD.out m (by omega),show n-(k+1)=m by omega];unfold dig;omega
   have ac:(n:Int)-1-(k:Int)=(m:Int):=by omega
   have V:(0:Int)≤(m:Int):=Int.natCast_nonneg _;have ad:(m:Int)<(n:Int):=by omega
   have HM:Hid (m=n-1-k):=hm;clear j f E g k5 D hm;generalize dig X m=x at *;have S:Hid (bits .or .u64 ((x:Int)/2) ((c:Int)*9223372036854775808)=(z:Int)):=by
    unfold Hid;rw [show ((c:Int)*9223372036854775808)=((9223372036854775808*c:Nat):Int) by omega,show (x:Int)/2=((x/2:Nat):Int) by omega,zm x c hx hc,hz]
   have A:=and_one_u64 (x:Int) (by omega) (by omega);clear hz;go_wp2_with fail;go_region
   all_goals
    go_wp2_with fail;rw [S.out];go_roundw
    case rel=>exact ⟨k+1,x%2,by omega,by omega,by go_num,rfl,M.out,(r.setCell _ (fun h=>by simp at h) _).drew,F⟩
    case measure=>simp [intOf];omega
  ·have L:¬ (k:Int)<(n:Int):=by omega
   have e:k=n:=by omega
   subst e;rw [Nat.sub_self,List.replicate_zero,List.nil_append,List.drop_zero] at ho;have E2:Hid (C=c):=by
    have:=f.out;rw [Nat.sub_self,Nat.pow_zero,Nat.div_one] at this;exact HC.out.trans this.symm
   clear j f g k5;go_wp2_with fail;go_ret2;rw [E2.out];exact ⟨_,rfl,aZ ho (fun b hb=>Nat.le_trans Q.out (ho.lt b hb).1),o2,d4.out.grew r⟩

theorem fA {W:World} {p:Nat} {a b c d e f:Value} {t:TypeId} {fr:Nat × Nat} (h:W.heap[p]? = some (.cells #[a,b,c,d,e,f] t fr)):W.cell? ⟨p,0,none⟩=some a∧W.cell? ⟨p,1,none⟩=some b∧W.cell? ⟨p,2,none⟩=some c∧W.cell? ⟨p,3,none⟩=some d∧W.cell? ⟨p,4,none⟩=some e∧W.cell? ⟨p,5,none⟩=some f:=
 ⟨(cell_of_row W p 0 _ _ _ h).trans rfl,(cell_of_row W p 1 _ _ _ h).trans rfl,(cell_of_row W p 2 _ _ _ h).trans rfl,(cell_of_row W p 3 _ _ _ h).trans rfl,(cell_of_row W p 4 _ _ _ h).trans rfl,(cell_of_row W p 5 _ _ _ h).trans rfl⟩

theorem mr {W:World} {p:Nat} {a b c d e f:Value} {t:TypeId} (h:W.heap[p]? = some (.cells #[a,b,c,d,e,f] t (0,0))):W.frozen? ⟨p,0,none⟩=false∧W.frozen? ⟨p,1,none⟩=false∧W.frozen? ⟨p,2,none⟩=false∧W.frozen? ⟨p,3,none⟩=false∧W.frozen? ⟨p,4,none⟩=false∧W.frozen? ⟨p,5,none⟩=false:=by
 simp [World.frozen?,h]

theorem Bw {W:World} {p:Nat} {a b c d e f:Value} {t:TypeId} (h:W.heap[p]? = some (.cells #[a,b,c,d,e,f] t (0,0))) (x:Value):(W.setCell ⟨p,4,none⟩ x).heap[p]? = some (.cells #[a,b,c,d,x,f] t (0,0)):=by
 have:=heap_setCell_same W p 4 #[a,b,c,d,e,f] t x h;simpa using this

theorem Bq {W:World} {p:Nat} {a b c d e f:Value} {t:TypeId} (h:W.heap[p]? = some (.cells #[a,b,c,d,e,f] t (0,0))) (x:Value):(W.setCell ⟨p,5,none⟩ x).heap[p]? = some (.cells #[a,b,c,d,e,x] t (0,0)):=by
 have:=heap_setCell_same W p 5 #[a,b,c,d,e,f] t x h;simpa using this

theorem CP {W:World} {p:Nat} {a b c d e f:Value} {t:TypeId} (h:W.heap[p]? = some (.cells #[a,b,c,d,e,f] t (0,0))) (x y z u v s:Value) :
  ((((((W.setCell ⟨p,0,none⟩ x).setCell ⟨p,1,none⟩ y).setCell ⟨p,2,none⟩ z).setCell ⟨p,3,none⟩ u).setCell ⟨p,4,none⟩ v).setCell ⟨p,5,none⟩ s).heap[p]? = some (.cells #[x,y,z,u,v,s] t (0,0)):=by
 have h1:=heap_setCell_same W p 0 #[a,b,c,d,e,f] t x h;have h2:=heap_setCell_same (W.setCell ⟨p,0,none⟩ x) p 1 #[x,b,c,d,e,f] t y (by simpa using h1);have h3:=heap_setCell_same ((W.setCell ⟨p,0,none⟩ x).setCell ⟨p,1,none⟩ y) p 2 #[x,y,c,d,e,f] t z (by simpa using h2);have h4:=heap_setCell_same (((W.setCell ⟨p,0,none⟩ x).setCell ⟨p,1,none⟩ y).setCell ⟨p,2,none⟩ z) p 3 #[x,y,z,d,e,f] t u (by simpa using h3);have h5:=heap_setCell_same ((((W.setCell ⟨p,0,none⟩ x).setCell ⟨p,1,none⟩ y).setCell ⟨p,2,none⟩ z).setCell ⟨p,3,none⟩ u) p 4 #[x,y,z,u,e,f] t v (by simpa using h4)
 have h6:=heap_setCell_same (((((W.setCell ⟨p,0,none⟩ x).setCell ⟨p,1,none⟩ y).setCell ⟨p,2,none⟩ z).setCell ⟨p,3,none⟩ u).setCell ⟨p,4,none⟩ v) p 5 #[x,y,z,u,v,f] t s (by simpa using h5);simpa using h6

theorem Ch (W:World) (p:Nat) (x y z u v s:Value):Kept (fun b=>b=p) W ((((((W.setCell ⟨p,0,none⟩ x).setCell ⟨p,1,none⟩ y).setCell ⟨p,2,none⟩ z).setCell ⟨p,3,none⟩ u).setCell ⟨p,4,none⟩ v).setCell ⟨p,5,none⟩ s):=
 ((((((ai (fun b=>b=p) W).setCell ⟨p,0,none⟩ (fun _=>rfl) x).setCell ⟨p,1,none⟩ (fun _=>rfl) y).setCell ⟨p,2,none⟩ (fun _=>rfl) z).setCell ⟨p,3,none⟩ (fun _=>rfl) u).setCell ⟨p,4,none⟩ (fun _=>rfl) v).setCell ⟨p,5,none⟩ (fun _=>rfl) s

def fC (ao bo lo oo:Option Addr) (n mc rc lc oc K s:Nat):Array Value:=#[.slice ao n mc,.int .u64 (K:Nat),.slice bo n rc,.slice lo n lc,.slice oo n oc,.int .i64 (s:Nat)]

structure Num17 (w:World) (X:Nat) (ao bo lo oo:Option Addr) (n mc rc lc oc K s:Nat):Prop where
 mod:Mod8 w none ao bo n n K mc rc (digs X n) (eI X)
 last:Row .u64 w (.slice lo n lc) (digs (X-1) n)
 odd:Row .u64 w (.slice oo n oc) (digs ((X-1)/2^s) n)
 tz:IsTz (X-1) s
 big:3<X
 par:X%2=1
 fit:X<18446744073709551616^n
 n0:0<n
 nb:n≤130
 sb:s≤10000

theorem Num17.grew {w w':World} {X:Nat} {ao bo lo oo:Option Addr} {n mc rc lc oc K s:Nat} (h:Num17 w X ao bo lo oo n mc rc lc oc K s) (k:Kept af w w'):Num17 w' X ao bo lo oo n mc rc lc oc K s:=
 ⟨h.mod.grew k,h.last.grew k,h.odd.grew k,h.tz,h.big,h.par,h.fit,h.n0,h.nb,h.sb⟩

theorem zP {X s:Nat} (h:IsTz (X-1) s) (hX:3<X) (hp:X%2=1):0<s:=by
 rcases Nat.eq_zero_or_pos s with e | e
 ·subst e;have:=h.1;rw [Nat.pow_zero,Nat.div_one] at this;omega
 ·exact e

theorem yG {V K:Nat} (h:dD V=0) (hK:lW V K):okMod (eP V) K (eI V)∧eP V=digs V (aj V)∧(eI V).length=aj V∧Digs (eI V):=by
 have hM:eP V=digs V (aj V):=by unfold eP;rw [if_pos h]
 have hR:eI V=digs (2^(128*aj V)%V) (aj V):=by unfold eI;rw [if_pos h]
 have hv:val (eP V)=V:=by rw [hM,ak,al ((am V _).1 (leR _))]
 refine ⟨?_,hM,by rw [hR,ag],by rw [hR];exact ah (by omega) _ _⟩;unfold okMod;rw [hv];exact ⟨h,rfl,hK,rfl⟩

theorem tQ {X:Nat} (h:jJ X=0):dD X=0:=by
 unfold jJ at h;unfold dD
 split at h
 ·omega
 ·rename_i h1
  rw [if_neg h1]
  split at h
  ·omega
  ·rename_i h2
   rw [if_neg (by omega),if_neg (by omega)]

def tD (b:Nat) (w:World):Nat:=match w.cell? ⟨b,5,none⟩ with
 | some (.int _ z)=>z.toNat
 | _=>0

theorem nh {b t:Nat} {w:World} {k:IntKind} (h:w.cell? ⟨b,5,none⟩=some (.int k (t:Int))):tD b w=t:=by
 unfold tD;rw [h];simp

theorem sr (M t:Nat):M/2^t/2=M/2^(t+1):=by
 rw [Nat.div_div_eq_div_mul,Nat.pow_succ]

theorem AE (co:Option Addr) (L cap:Nat) (xs:List Nat) (X:Nat) (hX:X=val xs) (hO:jJ X=0) (w:World) (hu:Row .u64 w (.slice co L cap) xs) (hd:Digs xs) (hL:L≤1000000) :
  Calls Tryz.prog 126 #[.slice co L cap] w fun e w'=>∃ (ao bo lo oo:Option Addr) (n mc rc lc oc K s:Nat),e=.returned (.agg (fC ao bo lo oo n mc rc lc oc K s))∧Num17 w' X ao bo lo oo n mc rc lc oc K s∧Kept af w w':=by
 obtain ⟨aq,aL,nw,aI,S⟩:=xx hO;obtain ⟨s,hs,aC⟩:=yR (64*nw) (X-1) (by omega) (by rw [Nat.pow_mul];exact Nat.lt_of_le_of_lt (Nat.sub_le _ _) S);have aD:s≤10000:=by omega
 have A:=aa hs;have hE:=tQ hO;obtain ⟨n,hn⟩:∃ n,n=aj X:=⟨_,rfl⟩
 have aF:n≤130:=by rw [hn];exact (eF hE).1
 have G:X<18446744073709551616^n:=by rw [hn];exact (am X _).1 (leR _)
 have aH:0<n:=by
  rcases Nat.eq_zero_or_pos n with e | e
  ·rw [e,Nat.pow_zero] at G;omega
  ·exact e
 obtain ⟨W,hW⟩:∃ W,W=w.alloc (.cells #[.slice none 0 0,.int .u64 0,.slice none 0 0,.slice none 0 0,.slice none 0 0,.int .i64 0] 150):=⟨_,rfl⟩
 have k0:Kept af w W:=by rw [hW];exact (ai af w).alloc _
 have ac:W.heap[w.heap.size]? = some (.cells #[.slice none 0 0,.int .u64 0,.slice none 0 0,.slice none 0 0,.slice none 0 0,.int .i64 0] 150 (0,0)):=by rw [hW];exact heap_alloc_new _ _
 have hS:=qp co L cap xs X 0 hX hE.symm W (hu.grew k0) hd hL;have HW:=aa hW;have ar:=aa k0;have m:=aa ac;have HN:=aa hn;have I:=aa G;clear hW k0 ac hu hd hL hX hO S aC aI hs hn G;go_enter Tryz.func126,Tryz.ntmps126;go_wp2_with (rw [← HW.out]);refine hS.mono ?_;rintro e w1 ⟨a,K,b,rfl,ha,hb,hK,⟨fa,fb⟩,k1⟩;obtain ⟨o1,o2,o3,o4⟩:=yG hE hK;rw [o2,← HN.out] at ha o1;obtain ⟨ao,an,mc,rfl,Q,_⟩:=ha.open;obtain rfl:an=n:=by have:=Q.out;rw [ag] at this;exact this.symm
 obtain ⟨bo,bn,rc,rfl,R,_⟩:=hb.open;obtain rfl:bn=an:=by rw [← R.out,o3];exact HN.out.symm
 have HM:Hid (Mod8 w1 none ao bo bn bn K mc rc (digs X bn) (eI X)):=⟨RowT.none ha,RowT.none hb,ah (by omega) _ _,o4,hK.1,o1⟩
 have hR:=eX 0 (w1.alloc (.cells #[.slice ao bn mc,.int .u64 (K:Nat),.slice bo bn rc] 130));unfold fl;have P:=aa (ar.out.trans k1);have Y:Hid (w.heap.size<w1.heap.size):=Nat.lt_of_lt_of_le (lt_of_block m.out) k1.size;have T:=aa ((k1.block _ (lt_of_block m.out) (fun f=>f)).trans m.out);have ab:Hid ((∀ x,(Value.slice ao bn mc).ownBlock=some x→w.heap.size<x)∧∀ x,(Value.slice bo bn rc).ownBlock=some x→w.heap.size<x):=⟨fun x hx=>Nat.lt_of_lt_of_le (lt_of_block m.out) (fa x hx),fun x hx=>Nat.lt_of_lt_of_le (lt_of_block m.out) (fb x hx)⟩
 clear hS ha hb hK fa fb k1 o1 o2 o3 o4 Q R;go_wp2_with fail;refine hR.mono ?_;rintro e w2 ⟨rfl,rfl⟩;obtain ⟨W2,y⟩:∃ W2,W2=w1.alloc (.cells #[.slice ao bn mc,.int .u64 (K:Nat),.slice bo bn rc] 130):=⟨_,rfl⟩
 rw [← y];have k2:Kept af w1 W2:=by rw [y];exact (ai af w1).alloc _
 have H:W2.heap[w1.heap.size]? = some (.cells #[.slice ao bn mc,.int .u64 (K:Nat),.slice bo bn rc] 130 (0,0)):=by rw [y];exact heap_alloc_new _ _
 have JC:Hid (∀ W',Kept af W2 W'→W'.cell? ⟨w1.heap.size,0,none⟩=some (.slice ao bn mc)∧W'.cell? ⟨w1.heap.size,1,none⟩=some (.int .u64 (K:Nat))∧W'.cell? ⟨w1.heap.size,2,none⟩=some (.slice bo bn rc)):=fun W' k=>ax ((k.block _ (lt_of_block H) (fun f=>f)).trans H)
 have F:=aa (HM.out.grew k2);have JW:Hid (Calls Tryz.prog 79 #[.int .u64 1,.int .i64 1] W2.drew fun r w'=>∃ zo zc,r=.returned (.slice zo 1 zc)∧Row .u64 w' (.slice zo 1 zc) (digs 1 1)∧Kept af W2 w'):=by
  refine (ll 1 (by omega) 1 W2.drew).mono ?_;rintro e w' ⟨v',rfl,h1,h2⟩;rw [show dg 1=1 by decide] at h1;obtain ⟨zo,zn,zc,rfl,hl,_⟩:=h1.open;obtain rfl:zn=1:=hl.out.symm;exact ⟨zo,zc,rfl,h1,(ai af W2).drew.trans h2⟩
 have JS:Hid (∀ W' zo zc,Kept af W2 W'→Row .u64 W' (.slice zo 1 zc) (digs 1 1)→Calls Tryz.prog 78 #[.pointer none,.slice ao bn mc,.slice zo 1 zc] W' fun e w'=>∃ lo lc c,e=.returned (.tuple #[.slice lo bn lc,.int .u64 (c:Nat)])∧Row .u64 w' (.slice lo bn lc) (digs (X-1) bn)∧(∀ x,(Value.slice lo bn lc).ownBlock=some x→w.heap.size<x)∧Kept af W2 w'):=fun W' zo zc k h=>by
  have h1:=pd none _ _ _ _ W' (TrRoom.none _ _ (by omega)) (F.out.grew k).hm (RowT.none h) F.out.hmd (ah (by omega) _ _) (by rw [ag];omega) (by rw [ag];omega);rw [ag,ag,show max bn 1=bn by omega,ak,ak,al I.out,Nat.pow_one,show (1:Nat)%18446744073709551616=1 by decide] at h1;refine h1.mono ?_;rintro e w' ⟨v',rfl,ho,o',d⟩;have hr:=aY ho (ag _ _ _);obtain ⟨lo,ln,lc,rfl,hl,_⟩:=hr.open;obtain rfl:ln=bn:=by have:=hl.out;rw [ag] at this;exact this.symm
  have ap:∀ x,(Value.slice lo ln lc).ownBlock=some x→w.heap.size<x:=fun x hx=>by
   have h2:=(ho.lt x hx).1;have h3:=k.size;have h4:=k2.size;have h5:=Y.out;omega
  rw [show cS X 1 ln=X-1 by unfold cS;rw [if_neg (by omega)]] at hr;exact ⟨lo,lc,_,rfl,hr,ap,k.trans d.none.2⟩
 have j:=aa k2;have M:=JW.out;obtain ⟨p0,p1,p2⟩:=JC.out _ (ai af W2);have aO:=aa (P.out.trans k2);clear hR y k2 H JW HM;go_wp2_with fail;go_region_held3 (fun w'=>w'.cell? ⟨w1.heap.size,0,none⟩=some (.slice ao bn mc))
  (((try dsimp only);first | (go_keep;done) | assumption))
  (first
  | (go_at_call 79;refine M.mono ?_;rintro e w3 ⟨zo,zc,rfl,O,k3⟩;obtain ⟨s0,s1,s2⟩:=JC.out _ k3)
  | (go_at_call 78;refine (JS.out _ zo zc k3 O).mono ?_;rintro e w4 ⟨lo,lc,c4,rfl,z,V,k4⟩;obtain ⟨t0,t1,t2⟩:=JC.out _ k4))
 all_goals
  obtain ⟨W5,D⟩:∃ W5,W5=w4.alloc (.cells #[.slice ao bn mc,.int .u64 (K:Nat),.slice bo bn rc,.slice lo bn lc,.slice lo bn lc,.int .i64 0] 150):=⟨_,rfl⟩
  have k5:Kept af w4 W5:=by rw [D];exact (ai af w4).alloc _
  have N:W5.heap[w4.heap.size]? = some (.cells #[.slice ao bn mc,.int .u64 (K:Nat),.slice bo bn rc,.slice lo bn lc,.slice lo bn lc,.int .i64 0] 150 (0,0)):=by rw [D];exact heap_alloc_new _ _
  have hlt:∀ b,(Value.slice lo bn lc).ownBlock=some b→b≠w4.heap.size∧w.heap.size<b:=fun b hb=>by
   have h8:=z.lt (by intro h;have h1:=congrArg List.length h;rw [ag] at h1;have h2:bn=0:=h1;omega) b hb;have h9:=V b hb;omega
  have az:=aa (z.grew k5);have av:=aa N;have aE:=aa k5;have aM:=aa D;have aJ:=aa z;have U:=aa hlt;have B:=aa k4;clear M JS O k3 z V hlt k5 N D k4;go_wp2_with (rw [← aM.out]);go_loopw [] (fun wr=>∃ (t:Nat) (oo:Option Addr) (oc:Nat),t≤s∧Hid (wr.heap[w4.heap.size]? = some (.cells #[.slice ao bn mc,.int .u64 (K:Nat),.slice bo bn rc,.slice lo bn lc,.slice oo bn oc,.int .i64 (t:Nat)] 150 (0,0)))∧Hid (Kept af w4 wr)∧Hid (Row .u64 wr (.slice oo bn oc) (digs ((X-1)/2^t) bn))∧Hid (∀ b,(Value.slice oo bn oc).ownBlock=some b→b≠w4.heap.size∧w.heap.size<b)) (fun wr=>s-tD w4.heap.size wr)
  case atStart=>exact ⟨0,lo,lc,Nat.zero_le _,av.out,aE.out,by rw [Nat.pow_zero,Nat.div_one];exact az.out,U.out⟩
  case round=>
   obtain ⟨t,oo,oc,ht,l,o,g,aA⟩:=hrel;obtain ⟨c0,c1,c2,c3,c4,c5⟩:=fA l.out;obtain ⟨f0,f1,f2,f3,f4,f5⟩:=mr l.out;have HT:=aa (nh c5);have hlt:(X-1)/2^t<18446744073709551616^bn:=Nat.lt_of_le_of_lt (Nat.le_trans (Nat.div_le_self _ _) (Nat.sub_le _ _)) I.out;have hB:=Ah _ _ 0 wr g.out (ah (by omega) _ _) (by omega);rw [ak,al hlt,show ((0:Int))=((0:Nat):Int) from rfl,fg,Nat.pow_zero,Nat.div_one] at hB;by_cases hts:t<s
   ·rw [A.out.2 t hts] at hB;have h9:=tI none _ _ 0 (by omega) wr (TrRoom.none _ _ (by omega)) (RowT.none g.out) (ah (by omega) _ _) (by rw [ag];omega);rw [ag,ak,al hlt,show 0%2*18446744073709551616^bn=0 by simp,Nat.add_zero,sr,A.out.2 t hts] at h9;go_wp2_with fail;refine hB.mono ?_;rintro e w6 ⟨rfl,rfl⟩;clear hB;go_wp2_with fail;refine h9.mono ?_;rintro e w7 ⟨v7,rfl,ho,o',d⟩;have k7:=d.none.2;have E:=aY ho (ag _ _ _);have J:∀ b,v7.ownBlock=some b→b≠w4.heap.size∧w.heap.size<b:=fun b hb=>by
     have h5:=(ho.lt b hb).1;have h6:=lt_of_block l.out;have h7:=Y.out;have h8:=j.out.size;have h9:=B.out.size;omega
    obtain ⟨qo,qn,qc,rfl,hl,_⟩:=E.open;obtain rfl:qn=bn:=by have:=hl.out;rw [ag] at this;exact this.symm
    have q:=(k7.block _ (lt_of_block l.out) (fun f=>f)).trans l.out;have p:=Bw q (.slice qo qn qc);obtain ⟨d0,d1,d2,d3,d4,d5⟩:=fA q;obtain ⟨g0,g1,g2,g3,g4,g5⟩:=mr q;obtain ⟨e0,e1,e2,e3,e4,e5⟩:=fA p;obtain ⟨i0,i1,i2,i3,i4,i5⟩:=mr p;have ad:Hid (((w7.setCell ⟨w4.heap.size,4,none⟩ (.slice qo qn qc)).setCell ⟨w4.heap.size,5,none⟩ (.int .i64 ((t:Int)+1))).heap[w4.heap.size]? = some (.cells #[.slice ao qn mc,.int .u64 (K:Nat),.slice bo qn rc,.slice lo qn lc,.slice qo qn qc,.int .i64 ((t+1:Nat):Int)] 150 (0,0))):=Bq p (.int .i64 ((t:Int)+1))
    have kk:Kept (fun b=>b=w4.heap.size) w7 ((w7.setCell ⟨w4.heap.size,4,none⟩ (.slice qo qn qc)).setCell ⟨w4.heap.size,5,none⟩ (.int .i64 ((t:Int)+1))):=((ai (fun b=>b=w4.heap.size) w7).setCell ⟨w4.heap.size,4,none⟩ (fun _=>rfl) _).setCell ⟨w4.heap.size,5,none⟩ (fun _=>rfl) _;have aK:=aa (E.kept kk (fun b hb=>(J b hb).1));have ae:=aa (cP (o.out.trans k7) kk (leR _));have au:=aa J;have aw:=aa (nh (fA ad.out).2.2.2.2.2);clear h9 ho d k7 E J q p kk hl c0 c1 c2 c3 c4 c5 f0 f1 f2 f3 f4 f5;go_wp2_with fail;go_roundw
    case rel=>exact ⟨t+1,qo,qc,by omega,ad,ae,aK,au⟩
    case measure=>rw [HT.out,aw.out];omega
   ·obtain rfl:t=s:=by omega
    rw [A.out.1] at hB;have C:=((j.out.trans (B.out.trans o.out)).block _ (lt_of_block T.out) (fun f=>f)).trans T.out;obtain ⟨d0,d1,d2,d3,d4,d5⟩:=fA C;obtain ⟨g0,g1,g2,g3,g4,g5⟩:=mr C;obtain ⟨r0,r1,r2,r3,r4,r5⟩:=fA (CP C (.slice ao bn mc) (.int .u64 (K:Nat)) (.slice bo bn rc) (.slice lo bn lc) (.slice oo bn oc) (.int .i64 (t:Nat)));have kk:=Ch wr w.heap.size (.slice ao bn mc) (.int .u64 (K:Nat)) (.slice bo bn rc) (.slice lo bn lc) (.slice oo bn oc) (.int .i64 (t:Nat));have Z:=j.out.trans (B.out.trans o.out);have aN:=aa ((aJ.out.grew o.out).kept kk (fun b hb e=>by have:=(U.out b hb).2;omega))
    have aG:=aa (g.out.kept kk (fun b hb e=>by have:=(aA.out b hb).2;omega));have i:=F.out.grew (B.out.trans o.out);have ay:Hid (Mod8 _ none ao bo bn bn K mc rc (digs X bn) (eI X)):=⟨RowT.none (i.hm.1.kept kk (fun b hb e=>by have:=ab.out.1 b hb;omega)),RowT.none (i.hr.1.kept kk (fun b hb e=>by have:=ab.out.2 b hb;omega)),i.hmd,i.hrd,i.hK,i.ok⟩
    have aB:=aa (cP (P.out.trans Z) kk (leR _));clear C kk Z i;go_wp2_with fail;refine hB.mono ?_;rintro e w6 ⟨rfl,rfl⟩;clear hB;go_wp2_with fail;refine bodyPost_ret (v:=.agg (fC ao bo lo oo bn mc rc lc oc K t)) (by simp [results,Tryz.results126,go_sem,r0,r1,r2,r3,r4,r5,fC]) rfl ⟨ao,bo,lo,oo,bn,mc,rc,lc,oc,K,t,rfl,⟨ay.out,aN.out,aG.out,A.out,aq,aL,I.out,aH,aF,aD⟩,aB.out⟩

theorem CO (ao bo lo oo vo:Option Addr) (n mc rc lc oc K s X M vc:Nat) (ys:List Nat) (R:Bool) (hR:R=decide (1<val ys∧val ys<X-1)) (w:World) (h:Num17 w X ao bo lo oo n mc rc lc oc K s) (hv:Row .u64 w (.slice vo M vc) ys) (hd:Digs ys) :
  Calls Tryz.prog 170 #[.agg (fC ao bo lo oo n mc rc lc oc K s),.slice vo M vc] w fun e w'=>e=.returned (.bool R)∧Kept af w w':=by
 obtain ⟨W,hW⟩:∃ W,W=w.alloc (.cells (fC ao bo lo oo n mc rc lc oc K s) 150):=⟨_,rfl⟩
 have k0:Kept af w W:=by rw [hW];exact (ai af w).alloc _
 have l:W.heap[w.heap.size]? = some (.cells (fC ao bo lo oo n mc rc lc oc K s) 150 (0,0)):=by rw [hW];exact heap_alloc_new _ _
 have JC:Hid (∀ W',Kept af W W'→W'.cell? ⟨w.heap.size,3,none⟩=some (.slice lo n lc)):=fun W' k=>(fA ((k.block _ (lt_of_block l) (fun f=>f)).trans l)).2.2.2.1
 have b:Calls Tryz.prog 79 #[.int .u64 1,.int .i64 1] W fun r w'=>∃ zo zc,r=.returned (.slice zo 1 zc)∧Row .u64 w' (.slice zo 1 zc) (digs 1 1)∧Kept af W w':=by
  refine (ll 1 (by omega) 1 W).mono ?_;rintro e w' ⟨v',rfl,h1,h2⟩;rw [show dg 1=1 by decide] at h1;obtain ⟨zo,zn,zc,rfl,hl,_⟩:=h1.open;obtain rfl:zn=1:=hl.out.symm;exact ⟨zo,zc,rfl,h1,h2⟩
 obtain ⟨A,hA⟩:∃ A,A=val ys:=⟨_,rfl⟩
 rw [← hA] at hR;have J1:Hid (∀ W' zo zc,Kept af W W'→Row .u64 W' (.slice zo 1 zc) (digs 1 1)→Calls Tryz.prog 116 #[.slice vo M vc,.slice zo 1 zc] W' fun e w'=>e=.returned (.int .i64 (aK A 1))∧Kept af W w'):=fun W' zo zc k h1=>by
  have h2:=gJ _ _ _ _ W' (hv.grew (k0.trans k)) h1 hd (ah (by omega) _ _);rw [ak,Nat.pow_one,show (1:Nat)%18446744073709551616=1 by decide,← hA] at h2;refine h2.mono ?_;rintro e w' ⟨rfl,k2⟩;exact ⟨rfl,k.trans k2⟩
 have d:X-1<18446744073709551616^n:=Nat.lt_of_le_of_lt (Nat.sub_le _ _) h.fit;have J2:Hid (∀ W',Kept af W W'→Calls Tryz.prog 116 #[.slice vo M vc,.slice lo n lc] W' fun e w'=>e=.returned (.int .i64 (aK A (X-1)))∧Kept af W w'):=fun W' k=>by
  have h2:=gJ _ _ _ _ W' (hv.grew (k0.trans k)) (h.last.grew (k0.trans k)) hd (ah (by omega) _ _);rw [ak,al d,← hA] at h2;refine h2.mono ?_;rintro e w' ⟨rfl,k2⟩;exact ⟨rfl,k.trans k2⟩
 have HW:=aa hW;have j:=aa k0;have HR:=aa hR;unfold fC at HW ⊢;clear hW k0 l hR hA h hv hd d;by_cases h1:1<A
 ·have e1:aK A 1=1:=eu h1;rw [e1] at J1;by_cases h2:A<X-1
  ·have e2:aK A (X-1)=-1:=cj h2;rw [e2] at J2;go_enter Tryz.func170,Tryz.ntmps170;go_wp2_with (rw [← HW.out]);refine b.mono ?_;rintro e w2 ⟨zo,zc,rfl,a,k2⟩;have j1:=J1.out _ zo zc k2 a;clear b;go_wp2_with fail;refine j1.mono ?_;rintro e w3 ⟨rfl,k3⟩;have c3:=JC.out _ k3;have j2:=J2.out _ k3;clear j1 a;go_wp2_with fail;refine j2.mono ?_;rintro e w4 ⟨rfl,k4⟩;have i:Hid (R=true):=by unfold Hid;rw [HR.out];exact aT ⟨h1,h2⟩
   clear j2;go_wp2_with fail;go_ret;exact ⟨by rw [i.out];rfl,j.out.trans k4⟩
  ·have e2:=gY (show X-1≤A by omega);generalize aK A (X-1)=c at *;have m:¬ c<0:=e2;go_enter Tryz.func170,Tryz.ntmps170;go_wp2_with (rw [← HW.out]);refine b.mono ?_;rintro e w2 ⟨zo,zc,rfl,a,k2⟩;have j1:=J1.out _ zo zc k2 a;clear b;go_wp2_with fail;refine j1.mono ?_;rintro e w3 ⟨rfl,k3⟩;have c3:=JC.out _ k3;have j2:=J2.out _ k3;clear j1 a;go_wp2_with fail;refine j2.mono ?_;rintro e w4 ⟨rfl,k4⟩;have i:Hid (R=false):=by unfold Hid;rw [HR.out];exact aC (fun h=>h2 h.2)
   clear j2;go_wp2_with fail;go_ret;refine ⟨?_,j.out.trans k4⟩;rw [i.out];simp [m]
 ·have e1:=yj (show A≤1 by omega);generalize aK A 1=c at *;have p:¬ c > 0:=by omega
  have g:¬ 0<c:=by omega
  have q1:decide (0<c)=false:=aC g;have o:decide (c > 0)=false:=aC g;go_enter Tryz.func170,Tryz.ntmps170;go_wp2_with (rw [← HW.out]);refine b.mono ?_;rintro e w2 ⟨zo,zc,rfl,a,k2⟩;have j1:=J1.out _ zo zc k2 a;clear b;go_wp2_with fail;refine j1.mono ?_;rintro e w3 ⟨rfl,k3⟩;have i:Hid (R=false):=by unfold Hid;rw [HR.out];exact aC (fun h=>h1 h.1)
  clear j1 a;go_wp2_with fail;go_ret;exact ⟨by rw [i.out];rfl,j.out.trans k3⟩

open Go.RowKit Go.Shelf

attribute [local go_sem] Oper.semAt_some

theorem xG {ys:List Nat} {L:Nat} (hd:Digs ys) (hL:ys.length=L):au (val ys)≤64*L:=by
 rw [aA];have:=aq (B:=18446744073709551616) (by omega) hd;rw [hL,show (18446744073709551616:Nat)=2^64 from rfl,← Nat.pow_mul] at this;exact this

def pt (l:List Nat):Nat:=l.foldl (fun a d=>2*a+d) 0

theorem kM (l:List Nat) (d:Nat):pt (l ++ [d])=2*pt l+d:=by simp [pt]

theorem nR {E N:Nat} (hE:E<2^N):∀ j,j≤N→pt ((List.range j).map fun i=>E/2^(N-1-i)%2)=E/2^(N-j)
 | 0,_=>by
  rw [List.range_zero,List.map_nil,Nat.sub_zero,Nat.div_eq_of_lt hE];rfl
 | j+1,hj=>by
  rw [List.range_succ,List.map_append,List.map_cons,List.map_nil,kM,nR hE j (by omega)];have e:N-j=(N-1-j)+1:=by omega
  rw [e,Nat.pow_succ,← Nat.div_div_eq_div_mul,show N-(j+1)=N-1-j by omega];omega

theorem vY {E N:Nat} (hE:au E=N):pt ((List.range N).map fun i=>E/2^(N-1-i)%2)=E:=by
 have h:=nR ((aA E N).1 (Nat.le_of_eq hE)) N (leR _);rw [Nat.sub_self,Nat.pow_zero,Nat.div_one] at h;exact h

theorem Cv (n:Nat) (hn:1≤n) (l Bs L N:Nat) (g:Nat→Nat) (v:Value) (ys:List Nat) (hd:Digs ys) (hL:Hid (ys.length=L)) (hN:Hid (au (val ys)=N)) (hb:L≤1000000) (hg:Hid (∀ j,val ys/2^(N-1-j)%2=g j)) (S:Nat→Prop) (hS:S Bs) (D:∀ b,v.ownBlock=some b→0<L→S b)
  (J Jx:List (Fin N)→World→Prop)
  (hY:∀ a (x:Fin N) W,J a W→a.length<N→YieldAt Fence.wide (n-1) Tryz.prog l #[.int .u64 (g x.val:Nat)] W fun e W'=>
   (e=.returned (.bool true)∧J (a ++ [x]) W'∧KeepB S W W')∨(e=.returned (.bool false)∧Jx (a ++ [x]) W'))
  (W:World) (F:W.cell? ⟨Bs,0,none⟩=some v) (hr:Row .u64 W v ys) (h0:J [] W) :
  CallsIn Fence.wide n Tryz.prog 254 #[.func (.yield l) #[] #[],.pointer (some ⟨Bs,0,none⟩)] W fun e W'=>(∃ v,e=.returned v) ∧
   ((∃ zs,zs.map Fin.val=List.range N∧J zs W')∨(∃ a,True∧Jx a W')):=by
 obtain ⟨ao,m,cap,rfl,o,c1,c2,c3,y⟩:=hr.open;obtain rfl:m=L:=by rw [← o.out];exact hL.out
 have t:Hid (N≤64000000):=by have:=xG hd hL.out;have:=hN.out;unfold Hid;omega
 have c:=dG _ ys W hr hd (by have:=hL.out;omega);rw [hN.out] at c;have w:Hid (∀ (i j:Nat) (W':World),KeepB S W W'→i=N-1-j→i≤64000000→Calls Tryz.prog 133 #[.slice ao m cap,.int .i64 (i:Int)] W' fun r w'=>r=.returned (.int .u64 (g j:Nat))∧w'=W'):=fun i j W' k hi hb=>by
  have:=Ah _ ys (i:Int) W' (k.row (fun b hb hp=>D b hb (by have:=hL.out;omega)) hr) hd (by omega);rw [fg,hi,hg.out] at this;rw [hi];exact this
 clear y hr hL o hd hN hg;refine callsIn_of_wp Tryz.func254 rfl trivial ?_ rfl;simp only [Tryz.ntmps254,List.size_toArray,List.length_cons,List.length_nil,Nat.reduceAdd,Nat.reduceSub,Array.replicate_succ,Array.replicate_zero,List.push_toArray,List.append_toArray,List.nil_append,List.cons_append]
 gi_wp2_with fail
 refine ⟨trivial,?_⟩;refine (callsIn_wide.2 c).mono ?_;rintro e w' ⟨rfl,rfl⟩;have gN:IntKind.i64.wrap ((N:Int)-1)=(N:Int)-1:=by rw [IntKind.wrap_i64];have:=t.out;omega
 clear c
 gi_wp2_with fail
 gi_loopw [3] (fun i wr=>∃ (k:Nat) (I:Int),k≤N∧i=.int .i64 I∧Hid (I=(N:Int)-1-(k:Int))∧(∃ a:List (Fin N),Hid (a.map Fin.val=List.range k)∧J a wr)∧KeepB S w' wr)
  (fun i _=>(intOf i+1).toNat)
 case atStart=>exact ⟨0,_,Nat.zero_le _,rfl,by unfold Hid;omega,⟨[],by simp [Hid],h0⟩,KeepB.refl _ _⟩
 case round=>
  obtain ⟨k,I,hk,rfl,HI,⟨a,d,z⟩,s⟩:=hrel;by_cases hkm:k<N
  ·obtain ⟨i,hi⟩:∃ i:Nat,i=N-1-k:=⟨_,rfl⟩
   obtain rfl:I=(i:Int):=by have:=HI.out;omega
   have H:(0:Int)≤(i:Int):=by omega
   have C:IntKind.i64.wrap ((i:Int)-1)=(i:Int)-1:=by rw [IntKind.wrap_i64];have:=t.out;omega
   have B:=(s.cell (p:=⟨Bs,0,none⟩) hS).trans F;have h:=w.out i k wr s hi (by have:=t.out;omega);have f:a.length<N:=by
    have:=congrArg List.length d.out;rw [List.length_map,List.length_range] at this;omega
   obtain ⟨fn,tmps,assign,body,hy,hR⟩:=hY a ⟨k,hkm⟩ wr z f;dsimp only at hy;have G:=aa hi;clear hi
   gi_wp2_with fail
   refine ⟨trivial,?_⟩;refine (callsIn_wide.2 h).mono ?_;rintro e w2 ⟨rfl,rfl⟩;clear h
   gi_wp2_with fail
   refine hR.mono ?_;rintro e W3 (⟨rfl,E,A⟩ | ⟨rfl,q⟩)
   ·gi_wp2_with fail
    go_roundw
    case rel=>exact ⟨k+1,(i:Int)-1,hkm,by first | rfl | (rw [C]),by have:=HI.out;unfold Hid;omega,⟨a ++ [⟨k,hkm⟩],by unfold Hid;rw [List.map_append,d.out,List.range_succ];rfl,E⟩,s.trans A⟩
    case measure=>simp [intOf]
   ·gi_wp2_with fail
    refine bodyPost_ret (results_none rfl _ _ _) rfl ?_;exact ⟨⟨_,rfl⟩,.inr ⟨_,trivial,q⟩⟩
  ·obtain rfl:k=N:=by omega
   obtain rfl:I=-1:=by have:=HI.out;omega
   gi_wp2_with fail
   go_end0
   exact ⟨⟨_,rfl⟩,.inl ⟨a,d.out,z⟩⟩

theorem Am (ao:Option Addr) (a cap:Nat) (w:World) :
  Calls Tryz.prog 241 #[.slice ao a cap] w fun e w'=>e=.returned (.func (.func 254) #[] #[.pointer (some ⟨w.heap.size,0,none⟩)])∧w'=w.alloc (.cells #[.slice ao a cap] 32):=by
 go_enter Tryz.func241,Tryz.ntmps241;go_wp2;go_ret;exact ⟨rfl,rfl⟩

theorem ux (n:Nat) (hn:1≤n) (Bs L N:Nat) (g:Nat→Nat) (v:Value) (ys:List Nat) (hd:Digs ys) (hL:ys.length=L) (hN:au (val ys)=N) (hb:L≤1000000) (hg:∀ j,val ys/2^(N-1-j)%2=g j) (S:Nat→Prop) (hS:S Bs) (a:∀ b,v.ownBlock=some b→0<L→S b)
  (w:World) (c:∀ k,S k→k<w.heap.size) (d:w.cell? ⟨Bs,0,none⟩=some v) (hr:Row .u64 w v ys) :
  SeqStopsK Fence.wide n Tryz.prog 254 #[.pointer (some ⟨Bs,0,none⟩)] (fun x:Fin N=>#[Value.int .u64 (g x.val:Nat)]) (KeepB S) (fun zs=>zs.map Fin.val=List.range N) (fun _=>True) N w:=fun l J Jx W hW _ _ hY h0=>by
 have hk:KeepB S w W:=fun k hk=>hW.block k (c k hk)
 exact Cv n hn l Bs L N g v ys hd hL hN hb hg S hS a J Jx hY W ((hk.cell (p:=⟨Bs,0,none⟩) hS).trans d) (hk.row (fun b hb hp=>a b hb (by omega)) hr) h0

end Go.Proofs.YtcemlfokmjjiaaaGreatDoor
