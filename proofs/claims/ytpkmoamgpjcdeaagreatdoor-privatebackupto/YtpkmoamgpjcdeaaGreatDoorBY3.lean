/- Put together of: BigM Prm2 Key1 Key2 Bev1 Key4 Key5 Num1 Key6 Law19 Law19b OpenKey. -/
import Derived.Test.YtpkmoamgpjcdeaaGreatDoorBY2
import Derived.Deep.Strs
import Derived.ChangeSame

namespace Go.Proofs.YtpkmoamgpjcdeaaGreatDoor
open _root_.Go.Proofs.Tryz
set_option maxRecDepth 100000
set_option maxHeartbeats 4000000
open Go.RowKit
variable {A L M P Q V X e n p q x:Nat} {t:TypeId} {w:World}

attribute [local go_sem ↓] Go.wp_at_zero Go.wp_at_succ

theorem yS (u v:Value) (A M:Nat) (w:World) (hu:IsBig w u A) (hv:IsBig w v M) (hM:0<M:=by omega) (hla:cC A<=10000000:=by omega) :
  ClZ 50 #[u,v] w fun r w'=>∃ v',r=.returned v'/\IsBig w' v' (A%M)/\(∀ b,v'.ownBlock=some b->u.ownBlock=some b\/w.heap.size<=b)/\Kept af w w':=by
 have hD:=pZ u v A M w hu hv hM hla;clear hu hv hM hla;delta ClZ;go_in;go_wp2_with fail;refine hD.mono ?_;rintro e w1 ⟨v1,v2,rfl,b1,b2,o1,o2,k⟩;go_wp2;go_ret;exact ⟨v2,rfl,b2,o2,k⟩

theorem tI (u v m:Value) (A B M:Nat) (w:World) (hu:IsBig w u A) (hv:IsBig w v B) (hm:IsBig w m M) (hM:0<M:=by omega) (hla:cC A<=100000000:=by omega) (hlb:cC B<=100000000:=by omega) (hab:cC (A*B)<=10000000:=by omega) :
  ClZ 80 #[u,v,m] w fun r w'=>∃ v',r=.returned v'/\IsBig w' v' (A*B%M)/\(∀ b,v'.ownBlock=some b->w.heap.size<=b)/\Kept af w w':=by
 have hD:=Dx u v A B w hu hv hla hlb;clear hu hv hla hlb;delta ClZ;go_in;go_wp2_with fail;refine hD.mono ?_;rintro e w1 ⟨v1,rfl,b1,o1,k1⟩;go_wp2_with fail;refine (yS v1 m (A*B) M w1 b1 (hm.g k1) hM hab).mono ?_;rintro e w2 ⟨v2,rfl,b2,o2,k2⟩;go_wp2;go_ret;exact ⟨v2,rfl,b2,fun b hb=>(o2 b hb).elim (fun h=>o1 b h) (fun h=>aI k1.size h),k1.trans k2⟩

theorem Ag (u v m:Value) (A B M:Nat) (w:World) (hu:IsBig w u A) (hv:IsBig w v B) (hm:IsBig w m M) (hB:B<=A+M:=by omega) (hla:cC A<=100000000:=by omega) (hlb:cC M<=100000000:=by omega) :
  ClZ 85 #[u,v,m] w fun r w'=>∃ v',r=.returned v'/\IsBig w' v' (if B<=A then A-B else A+M-B)/\(∀ b,v'.ownBlock=some b->w.heap.size<=b)/\Kept af w w':=by
 have hC:=mI u v A B w hu hv;by_cases hlt:A<B
 ·rw [fh hlt] at hC;rw [aK];clear hlt;delta ClZ;go_in;go_wp2_with fail;refine hC.mono ?_;rintro e w1 ⟨rfl,n1,rfl⟩;have k1:Kept af w (w.drewN n1):=(ah _ _).drewN n1;go_wp2_with fail;refine (Ma u m A M _ (hu.g k1) (hm.g k1) hla hlb).mono ?_;rintro e w2 ⟨v2,rfl,b2,o2,k2⟩;have c:=k1.trans k2;go_wp2_with fail;refine (vZ v2 v (A+M) B _ b2 (hv.g c) hB).mono ?_;rintro e w3 ⟨v3,rfl,b3,o3,k3⟩;go_wp2;go_ret;exact ⟨v3,rfl,b3,fun b hb=>aI c.size (o3 b hb),c.trans k3⟩
 ·have f:¬ cY A B<0:=by unfold cY;rw [ar hlt];split <;> decide
  have d:B<=A:=by omega
  rw [ai d];obtain ⟨cc,a⟩:=aj (cY A B)
  rw [<- a] at hC f;clear a hlt;delta ClZ;go_in;go_wp2_with fail;refine hC.mono ?_;rintro e w1 ⟨rfl,n1,rfl⟩;have k1:Kept af w (w.drewN n1):=(ah _ _).drewN n1;go_wp2_with fail;refine (vZ u v A B _ (hu.g k1) (hv.g k1) d).mono ?_;rintro e w3 ⟨v3,rfl,b3,o3,k3⟩;go_wp2;go_ret;exact ⟨v3,rfl,b3,fun b hb=>aI k1.size (o3 b hb),k1.trans k3⟩

attribute [local go_sem ↓] Go.wp_at_zero Go.wp_at_succ

def cellN (w:World) (a:Addr):Nat:=
 match w.cell? a with
 | some (.int _ z)=>z.toNat
 | _=>0

def BQ (w:World):Value->Nat
 | .slice (some a) n _=>val ((List.range n).map fun i=>cellN w ⟨a.block,a.off+i,none⟩) 4294967296
 | _=>0

theorem IsBig.of {v:Value} (h:IsBig w v V):BQ w v=V:=by
 obtain ⟨ds,h1,_,_,rfl,_⟩:=h;obtain ⟨ao,f,rfl,_,_,_,hc⟩:=h1;cases ao with
 | none=>
  have:ds=[]:=by
   rcases ds with _ | ⟨d,r⟩
   ·rfl
   ·obtain ⟨b,off,e,_⟩:=hc 0 (by simp);cases e
  subst this;rfl
 | some a=>
  show val ((List.range ds.length).map fun i=>cellN w ⟨a.block,a.off+i,none⟩) 4294967296=_
  congr 1
  refine List.ext_getElem (by simp) (fun i h1 h2=>?_);obtain ⟨b,off,e,c⟩:=hc i h2;cases e
  rw [List.getElem_map,List.getElem_range];unfold cellN;rw [c,aA,aS h2];simp

theorem IsBig.length {v:Value} (h:IsBig w v V):∃ ao n a,v=.slice ao n a/\HzD (n=cC V)/\n<=1000000000:=by
 obtain ⟨ds,h1,h2,h3,h4,h5⟩:=h;obtain ⟨ao,n,a,e,hN,_⟩:=h1.open;refine ⟨ao,n,a,e,?_,by rw [<- hN.o];exact h5⟩;have:=fY h2 h3;rw [h4] at this;unfold HzD;rw [<- this,hN.o]

theorem uH (h:0<A):0<cC A:=by
 rcases cE (cC A) with h0 | h0
 ·have:=(dI A 0).1 (by omega);rw [cP] at this;omega
 ·exact h0

theorem Id (u v:Value) (A B:Nat) (w:World) (hu:IsBig w u A) (hv:IsBig w v B) (c:cC A<=10000000:=by omega) (hlb:cC B<=10000000:=by omega) :
  ClZ 42 #[u,v] w fun r w'=>∃ v',r=.returned v'/\IsBig w' v' (Nat.gcd A B)/\(∀ b,v'.ownBlock=some b->u.ownBlock=some b\/v.ownBlock=some b\/w.heap.size<=b)/\Kept af w w':=by
 delta ClZ;go_in;go_wp2_with fail;go_loopw [0,1] (fun a b wr=>∃ (C D:Nat),IsBig wr a C/\IsBig wr b D/\HzD (Nat.gcd C D=Nat.gcd A B)/\HzD (cC C<=10000000)/\HzD (cC D<=10000000)/\HzD (∀ x,a.ownBlock=some x->u.ownBlock=some x\/v.ownBlock=some x\/w.heap.size<=x)/\HzD (∀ x,b.ownBlock=some x->u.ownBlock=some x\/v.ownBlock=some x\/w.heap.size<=x)/\Kept af w wr) (fun _ b wr=>BQ wr b)
 case atStart=>exact ⟨A,B,hu,hv,rfl,c,hlb,fun x h=>.inl h,fun x h=>.inr (.inl h),ah _ _⟩
 case round=>
  clear hu hv c hlb;obtain ⟨C,D,hc,hd,hg,lc,ld,oc,od,hk⟩:=hrel;obtain ⟨ao,n,i,rfl,hn,k⟩:=hd.length;rcases cE D with h0 | h0
  ·have f:n=0:=by rw [hn.o,h0];rfl
   subst f;have d:HzD (C=Nat.gcd A B):=by have:=hg.o;rw [h0,Nat.gcd_zero_right] at this;exact this
   clear hg h0 hn;go_wp2;go_ret;exact ⟨_,rfl,by rw [<- d.o];exact hc,oc.o,hk⟩
  ·have j:0<n:=by rw [hn.o];exact uH h0
   have hM:=yS _ _ C D wr hc hd h0 lc.o;have hlt:=aY C h0;have g:=hd.of;go_wp2_with fail;refine hM.mono ?_;rintro e w1 ⟨v1,rfl,b1,o1,k1⟩;go_wp2;go_roundw
   case rel=>exact ⟨D,C%D,hd.g k1,b1,by unfold HzD;rw [<- hg.o,ft D,<- kj,ft],ld,aI (ef (Nat.mod_le _ _)) lc.o,od,fun x hx=>(o1 x hx).elim (oc.o x) (fun h=>.inr (.inr (aI hk.size h))),hk.trans k1⟩
   case measure=>rw [b1.of,g];exact hlt

attribute [local go_sem ↓] Go.wp_at_zero Go.wp_at_succ

theorem lU (A B:Nat):cC (A*B)<=cC A+cC B:=by
 have h1:=(dI A _).1 (leR _);have h2:=(dI B _).1 (leR _);refine (dI _ _).2 ?_;rw [aL];exact Nat.mul_lt_mul'' h1 h2

theorem oL (A M:Nat) (hM:0<M):cC (A%M)<=cC M:=ef (eH (aY _ hM))

theorem Ch (A E M j:Nat) (hb:E/2^j%2=0):(A^(E/2^(j+1))%M)*(A^(E/2^(j+1))%M)%M=A^(E/2^j)%M:=by
 rw [<- cH,<- aL];have:E/2^(j+1)=E/2^j/2:=by rw [aG,<- di]
 rw [this];generalize E/2^j=q at *;rw [show q/2+q/2=q by omega]

theorem EM (A E M j:Nat) (hb:E/2^j%2=1):((A^(E/2^(j+1))%M)*(A^(E/2^(j+1))%M)%M)*(A%M)%M=A^(E/2^j)%M:=by
 rw [<- cH (A^(E/2^(j+1))) (A^(E/2^(j+1))) M,<- cH,<- aL,<- aG];have:E/2^(j+1)=E/2^j/2:=by rw [aG,<- di]
 rw [this];generalize E/2^j=q at *;rw [show (q/2+q/2).succ=q by omega]

theorem tG (u x m:Value) (A E M:Nat) (w:World) (hu:IsBig w u A) (hx:IsBig w x E) (hm:IsBig w m M) (hM:0<M:=by omega) (hla:cC A<=10000000:=by omega) (hlm:cC M<=1000000:=by omega) :
  ClZ 36 #[u,x,m] w fun r w'=>∃ v',r=.returned v'/\IsBig w' v' (A^E%M)/\(∀ b,v'.ownBlock=some b->w.heap.size<=b)/\Kept af w w':=by
 have hS:=jp 1 (by omega) w;have z:=EA hx;have hB:=fun W (hk:Kept af w W)=>oy x E W (hx.g hk)
 have p:cC 1<=10000000:=aI ((dI 1 1).2 (by omega)) (by omega);delta ClZ;go_in;go_wp2_with fail;refine hS.mono ?_;rintro e w1 ⟨v1,rfl,b1,o1,k1⟩;clear hS;go_wp2_with fail;refine (yS v1 m 1 M w1 b1 (hm.g k1) hM p).mono ?_;rintro e w2 ⟨v2,rfl,b2,o2,k2⟩;have f:=k1.trans k2;have t:∀ b,v2.ownBlock=some b->w.heap.size<=b:=fun b hb=>(o2 b hb).elim (o1 b) (fun h=>aI k1.size h)
 clear b1 o1 k1 o2 k2 p;go_wp2_with fail;refine (yS u m A M w2 (hu.g f) (hm.g f) hM hla).mono ?_;rintro e w3 ⟨v3,rfl,b3,o3,k3⟩;have s:=f.trans k3;have g:=b2.g k3;clear b2 f k3 o3 hu hla;go_wp2_with fail;refine (hB _ s).mono ?_;rintro e w4 ⟨rfl,rfl⟩;clear hB;have n:HzD (1%M=A^(E/2^aN E)%M):=by
  unfold HzD;rw [bJ ((bh E _).1 (leR _)),cP]
 obtain ⟨bl,a⟩:=aj (aN E)
 rw [<- a] at z n;rw [<- a];clear a;rw [n.o] at g;clear n;go_wp2_with fail;go_loopw [7,8] (fun o i wr=>∃ k:Nat,k<=bl/\i=.int .i64 ((k:Int)-1)/\IsBig wr o (A^(E/2^k)%M)/\HzD (∀ b,o.ownBlock=some b->w.heap.size<=b)/\Kept af w4 wr) (fun _ i _=>(intOf i+1).toNat)
 case atStart=>exact ⟨bl,leR _,by go_num,g,t,ah _ _⟩
 case round=>
  clear g t;obtain ⟨k,hk,rfl,ho,B,d⟩:=hrel;have KW:=s.trans d;cases k with
  | zero=>
   rw [cP,fC] at ho;go_wp2;go_ret;exact ⟨_,rfl,ho,B.o,KW⟩
  | succ j=>
   obtain ⟨P,hP⟩:=aj (A^(E/2^(j+1))%M)
   rw [<- hP] at ho;have y:cC P<=1000000:=by rw [hP];exact aI (oL _ _ hM) hlm
   have v:=lU P P;have c:=fun W (hk:Kept af w W)=>Lp x E (j:Int) W (hx.g hk)
   rw [kH] at c;have q:=tI _ _ m P P M wr ho ho (hm.g KW) hM;have F:cC (P*P%M)<=1000000:=aI (oL _ _ hM) hlm;have D:cC (A%M)<=1000000:=aI (oL _ _ hM) hlm;have C:=lU (P*P%M) (A%M);have l:cC (P*P%M*(A%M))<=10000000:=by omega
   clear v C y;by_cases hb:E/2^j%2=0
   ·have hz:HzD (P*P%M=A^(E/2^j)%M):=by unfold HzD;rw [hP];exact Ch A E M j hb
    rw [hb] at c;clear hb hP ho;go_wp2_with fail;refine q.mono ?_;rintro e w5 ⟨v5,rfl,b5,o5,k5⟩;go_wp2_with fail;refine (c _ (KW.trans k5)).mono ?_;rintro e w6 ⟨rfl,rfl⟩;go_wp2;go_roundw
    case rel=>exact ⟨j,by omega,by go_num,by rw [<- hz.o];exact b5,fun b hb=>aI KW.size (o5 b hb),d.trans k5⟩
    case measure=>simp [intOf]
   ·have h1:E/2^j%2=1:=by omega
    have hz:HzD (P*P%M*(A%M)%M=A^(E/2^j)%M):=by unfold HzD;rw [hP];exact EM A E M j h1
    rw [h1] at c;clear hb hP ho h1;go_wp2_with fail;refine q.mono ?_;rintro e w5 ⟨v5,rfl,b5,o5,k5⟩;go_wp2_with fail;refine (c _ (KW.trans k5)).mono ?_;rintro e w6 ⟨rfl,rfl⟩;go_wp2_with fail;refine (tI v5 v3 m (P*P%M) (A%M) M w6 b5 (b3.g (d.trans k5)) (hm.g (KW.trans k5)) hM (by omega) (by omega) l).mono ?_;rintro e w7 ⟨v7,rfl,b7,o7,k7⟩;go_wp2;go_roundw
    case rel=>exact ⟨j,by omega,by go_num,by rw [<- hz.o];exact b7,fun b hb=>aI (KW.trans k5).size (o7 b hb),(d.trans k5).trans k7⟩
    case measure=>simp [intOf]

attribute [local go_sem ↓] Go.wp_at_zero Go.wp_at_succ

def oG (A M T R:Nat):Prop:=(M:Int) ∣ (A:Int)*T-R

theorem uB (A M:Nat):oG A M 0 M:=by
 unfold oG;exact ⟨-1,by simp⟩

theorem uC (A M:Nat):oG A M 1 (A%M):=by
 unfold oG;refine ⟨((A/M:Nat):Int),?_⟩;have h:((M*(A/M)+A%M:Nat):Int)=A:=by rw [dD]
 rw [Int.natCast_add,ny] at h;omega

theorem AE {T0 T1 R0 R1:Nat} (h0:oG A M T0 R0) (h1:oG A M T1 R1) (S:Nat) (hM:0<M)
  (hS:S=if R0/R1*T1%M<=T0 then T0-R0/R1*T1%M else T0+M-R0/R1*T1%M):oG A M S (R0%R1):=by
 unfold oG at *;obtain ⟨a,ha⟩:=h0;obtain ⟨b,hb⟩:=h1;have hq:((R1*(R0/R1)+R0%R1:Nat):Int)=R0:=by rw [dD]
 have hz:((M*(R0/R1*T1/M)+R0/R1*T1%M:Nat):Int)=((R0/R1*T1:Nat):Int):=by rw [dD]
 have d:=aY (R0/R1*T1) hM;generalize R0/R1*T1/M=k at *;generalize hZ:R0/R1*T1%M=Z at *;clear hZ;generalize R0/R1=q at *;generalize R0%R1=r at *
 push_cast at hq hz
 by_cases hc:Z<=T0
 ·rw [ai hc] at hS;have c:(S:Int)=T0-Z:=by omega
  refine ⟨a-q*b+A*k,?_⟩;rw [c]
  grind
 ·rw [ar hc] at hS;have c:(S:Int)=T0+M-Z:=by omega
  refine ⟨a-q*b+A*k+A,?_⟩;rw [c]
  grind

theorem Cb {T:Nat} (h:oG A M T 1) (hM:1<M):A*T%M=1:=by
 unfold oG at h;obtain ⟨k,hk⟩:=h;have h1:((A*T:Nat):Int)=M*k+1:=by push_cast;omega
 have h2:((A*T%M:Nat):Int)=1:=by
  rw [Int.natCast_emod,h1,Int.add_comm,Int.add_mul_emod_self_left];exact Int.emod_eq_of_lt (by omega) (by omega)
 omega

theorem yW {T0 Z:Nat} (h0:T0<M) (hz:Z<M):(if Z<=T0 then T0-Z else T0+M-Z)<M:=by
 split <;> omega

theorem vY (u m:Value) (A M:Nat) (w:World) (hu:IsBig w u A) (hm:IsBig w m M) (hM:1<M:=by omega) (hla:cC A<=10000000:=by omega) (hlm:cC M<=1000000:=by omega) :
  ClZ 47 #[u,m] w fun r w'=>∃ v',r=.returned (.tuple #[v',.bool (decide (Nat.gcd A M=1))])/\(Nat.gcd A M=1->∃ T,T<M/\A*T%M=1/\IsBig w' v' T)/\(Nat.gcd A M≠1->v'=.slice none 0 0)/\(∀ b,v'.ownBlock=some b->w.heap.size<=b)/\Kept af w w':=by
 have hD:=yS u m A M w hu hm (by omega) hla;have hS:=fun W=>jp 1 (by omega) W
 clear hu hla;have k:HzD (Nat.gcd M (A%M)=Nat.gcd A M):=by unfold HzD;rw [ft M,<- kj,ft]
 delta ClZ;go_in;go_wp2_with fail;refine hD.mono ?_;rintro e w1 ⟨v1,rfl,b1,o1,k1⟩;clear hD;go_wp2_with fail;refine (hS _).mono ?_;rintro e w2 ⟨v2,rfl,b2,o2,k2⟩;have o:=k1.trans k2;go_wp2_with fail;go_loopw [6,7,8,9] (fun r0 r1 t0 t1 wr=>∃ (R0 R1 T0 T1:Nat),IsBig wr r0 R0/\IsBig wr r1 R1/\IsBig wr t0 T0/\IsBig wr t1 T1/\HzD (Nat.gcd R0 R1=Nat.gcd A M)/\HzD (R1<R0)/\HzD (R0<=M)/\HzD (T0<M)/\HzD (T1<M)/\HzD (oG A M T0 R0)/\HzD (oG A M T1 R1)/\HzD (∀ x,t0.ownBlock=some x->w.heap.size<=x)/\HzD (∀ x,t1.ownBlock=some x->w.heap.size<=x)/\Kept af w2 wr) (fun _ b _ _ wr=>BQ wr b)
 case atStart=>exact ⟨M,A%M,0,1,hm.g o,b1.g k2,IsBig.nil _,b2,k,bu,leR _,by unfold HzD;omega,hM,uB A M,uC A M,fun x h=>(by cases h),fun x h=>aI k1.size (o2 x h),ah _ _⟩
 case round=>
  clear b1 o1 b2 o2 k1 k2 k;obtain ⟨R0,R1,T0,T1,c0,c1,d0,d1,hg,hlt,g,l0,l1,g0,g1,x0,x1,hk⟩:=hrel;have KW:=o.trans hk;obtain ⟨ao,n,z,rfl,hn,C⟩:=c1.length;rcases cE R1 with h0 | h0
  ·have s:n=0:=by rw [hn.o,h0];rfl
   subst s;have f:HzD (R0=Nat.gcd A M):=by have:=hg.o;rw [h0,Nat.gcd_zero_right] at this;exact this
   clear hg h0 hn g1 c1 d1 hlt g l1 x1;have hC:=fun W v (hk:Kept af wr W) (hv:IsBig W v 1)=>mI _ v R0 1 W (c0.g hk) hv
   by_cases h1:R0=1
   ·have d:cY R0 1=0:=by rw [h1];rfl
    rw [d] at hC;have l:Nat.gcd A M=1:=by rw [<- f.o];exact h1
    rw [h1] at g0;have hT:HzD (A*T0%M=1):=Cb g0.o hM;have HG:HzD (Nat.gcd A M=1):=l;clear l f g0 d h1 c0;go_wp2_with fail;refine (hS _).mono ?_;rintro e w3 ⟨v3,rfl,b3,o3,k3⟩;go_wp2_with fail;refine (hC _ _ k3 b3).mono ?_;rintro e w4 ⟨rfl,n4,rfl⟩;have k4:Kept af w3 (w3.drewN n4):=(ah _ _).drewN n4;go_wp2;go_ret2;exact ⟨_,by rw [dV HG.o];rfl,fun _=>⟨T0,l0.o,hT.o,d0.g (k3.trans k4)⟩,fun h=>absurd HG.o h,x0.o,KW.trans (k3.trans k4)⟩
   ·have d:cY R0 1≠0:=by
     unfold cY;by_cases ha:R0<1
     ·rw [ai ha];decide
     ·rw [ar ha]
      first
       | (rw [ai (show 1<R0 by omega)];decide)
       | (rw [ar (show ¬ R0=1 from h1)];decide)
    obtain ⟨cc,j⟩:=aj (cY R0 1)
    rw [<- j] at hC d;have HG:HzD (Nat.gcd A M≠1):=by unfold HzD;rw [<- f.o];exact h1
    clear f g0 j h1 c0 d0 l0 x0;go_wp2_with fail;refine (hS _).mono ?_;rintro e w3 ⟨v3,rfl,b3,o3,k3⟩;go_wp2_with fail;refine (hC _ _ k3 b3).mono ?_;rintro e w4 ⟨rfl,n4,rfl⟩;have k4:Kept af w3 (w3.drewN n4):=(ah _ _).drewN n4;go_wp2;go_ret2;exact ⟨.slice none 0 0,by rw [cI HG.o];rfl,fun h=>absurd h HG.o,fun _=>rfl,fun b hb=>(by cases hb),KW.trans (k3.trans k4)⟩
  ·have B:0<n:=by rw [hn.o];exact uH h0
   have hD:=pZ _ _ R0 R1 wr c0 c1 h0 (aI (ef g.o) (by omega));have a:=aY R0 h0;have t:=c1.of;have hQ:R0/R1<=M:=aI (em _ _) g.o;have q1:cC (R0/R1)<=1000000:=aI (ef hQ) hlm;have q2:cC T1<=1000000:=aI (ef (eH l1.o)) hlm;have q3:cC T0<=1000000:=aI (ef (eH l0.o)) hlm;have q4:=lU (R0/R1) T1;obtain ⟨S,c⟩:=aj (if R0/R1*T1%M<=T0 then T0-R0/R1*T1%M else T0+M-R0/R1*T1%M)
   have gS:HzD (oG A M S (R0%R1)):=AE g0.o g1.o S (by omega) c;have y:=aY (R0/R1*T1) (show M > 0 by omega);have lS:HzD (S<M):=by unfold HzD;rw [c];exact yW l0.o y
   have q:HzD (Nat.gcd R1 (R0%R1)=Nat.gcd A M):=by unfold HzD;rw [<- hg.o,ft R1,<- kj,ft]
   have p:HzD (S=_):=c;have i:HzD (R1<=M):=aI (eH hlt.o) g.o;clear c hg g0 c0;go_wp2_with fail;refine hD.mono ?_;rintro e w3 ⟨vq,vr,rfl,bq,br,oq,D,k3⟩;have K3:=KW.trans k3;go_wp2_with fail;refine (tI vq _ m (R0/R1) T1 M w3 bq (d1.g k3) (hm.g K3)).mono ?_;rintro e w4 ⟨v4,rfl,b4,o4,k4⟩;have K4:=K3.trans k4;go_wp2_with fail;refine (Ag _ v4 m T0 (R0/R1*T1%M) M w4 (d0.g (k3.trans k4)) b4 (hm.g K4)).mono ?_;rintro e w5 ⟨v5,rfl,b5,o5,k5⟩;rw [<- p.o] at b5;go_wp2;go_roundw
   case rel=>exact ⟨R1,R0%R1,T1,S,c1.g ((k3.trans k4).trans k5),(br.g k4).g k5,d1.g ((k3.trans k4).trans k5),b5,q,a,i,l1,lS,g1,gS,x1,fun x hx=>aI K4.size (o5 x hx),((hk.trans k3).trans k4).trans k5⟩
   case measure=>rw [((br.g k4).g k5).of,t];exact a

theorem xP {v:Value} (h:IsBig w v X) (hX:0<X:=by omega):∃ b off n a d,v=.slice (some ⟨b,off,none⟩) n a/\0<n/\w.cell? ⟨b,off,none⟩=some (.int .u32 ((d:Nat):Int))/\d%2=X%2/\d<4294967296:=by
 obtain ⟨ds,hr,hd,_,rfl,_⟩:=h;cases ds with
 | nil=>simp [val] at hX
 | cons d ds=>
  obtain ⟨ao,n,a,rfl,hL,_,_,_,h4⟩:=hr.open;have hn:0<n:=by rw [<- hL.o];simp
  obtain ⟨b,off,rfl,hc⟩:=h4 0 hn;refine ⟨b,off,n,a,d,rfl,hn,by simpa using hc,?_,hd d (by simp)⟩;simp only [val];omega

theorem zy {a b:Nat} (h:a<=b):cY a b<=0:=by
 unfold cY
 split
 ·omega
 ·rw [cf];omega

theorem ri (w:World):ClZ 43 #[] w fun r w'=>∃ v',r=.returned v'/\IsBig w' v' 1/\(∀ b,v'.ownBlock=some b->w.heap.size<=b)/\Kept af w w':=by
 have h:=jp 1 (by omega) w;delta ClZ;go_in;go_wp2_with fail;refine h.mono ?_;rintro e w1 ⟨v1,rfl,h1,h2,h3⟩;go_wp2_with fail;go_ret;exact ⟨_,rfl,h1,h2,h3⟩

theorem sX {v:Value} (h:IsBig w v V):aN V<=100000000000:=by
 obtain ⟨ds,_,hd,_,rfl,hl⟩:=h;have h1:=aE (B:=4294967296) (by omega) hd;have h2:aN (val ds 4294967296)<=32*ds.length:=(bh _ _).2 (by rw [aW];exact h1);omega

def fI (X:Nat):Nat:=(aN X+7)/8

theorem Fz (v:Value) (xs:LN) (w:World) (hu:Row .u64 w v xs) (a:Digs xs) (hL:xs.length<=100000000) :
  ClZ 78 #[v] w fun e w'=>e=.returned (.int .i64 (fI (val xs):Nat))/\Kept af w w':=by
 have h1:=rOf v xs w hu a hL;obtain ⟨ao,L,d,rfl,-,-,-,-,-⟩:=hu.open;clear hu;delta ClZ;go_in;go_wp2_with fail;refine h1.mono ?_;rintro e w1 ⟨v1,rfl,b1,_,k1⟩;have h2:=oy v1 _ w1 b1;have hb:=sX b1;obtain ⟨t,ht⟩:=aj (aN (val xs))
 obtain ⟨z,hz⟩:=aj (fI (val xs))
 have c:z=(t+7)/8:=by rw [hz,ht];rfl
 have HZ:=aa hz;rw [<- ht] at h2 hb;have f:((t:Int)+7).tdiv 8=(z:Int):=by rw [Int.tdiv_eq_ediv_of_nonneg (by omega)];omega
 have b:((t:Int)+7)/8=(z:Int):=by omega
 clear h1 ht hz c;go_wp2_with fail;refine h2.mono ?_;rintro e w2 ⟨rfl,rfl⟩;go_wp2_with fail;go_ret;exact ⟨by rw [<- HZ.o];first | rfl | (simp;omega),k1⟩

def Ca (P Q L M:Nat):Nat:=if 130<L\/130<M then 2 else if P<2\/Q<2 then 1 else 0

def eW (P Q:Nat):Nat:=(P-1)/Nat.gcd (P-1) (Q-1)*(Q-1)

theorem Bh (ao bo:OA) (L M h i:Nat) (xs ys:LN) (E:Nat) (RL:LN) (hE:E=Ca (val xs) (val ys) L M) (f:RL=if E=0 then digs (eW (val xs) (val ys)) (max (am (eW (val xs) (val ys))) 1) else []) (w:World) (hu:Row .u64 w (.slice ao L h) xs) (hv:Row .u64 w (.slice bo M i) ys) (j:Digs xs) (l:Digs ys) (ap:L<=1000000) (aq:M<=1000000) :
  ClZ 46 #[.slice ao L h,.slice bo M i] w fun e w'=>∃ v',e=.returned (.tuple #[v',.int .i64 (E:Nat)])/\Row .u64 w' v' RL/\(∀ b,v'.ownBlock=some b->w.heap.size<=b)/\Kept af w w':=by
 obtain ⟨_,_,_,e1,hL,-,-,-,-⟩:=hu.open;cases e1
 obtain ⟨_,_,_,e1,hM,-,-,-,-⟩:=hv.open;cases e1
 have JX:HzD (∀ W,Kept af w W->ClZ 19 #[.slice ao L h] W fun r w'=>∃ v',r=.returned v'/\IsBig w' v' (val xs)/\(∀ b,v'.ownBlock=some b->W.heap.size<=b)/\Kept af W w'):=fun W k=>rOf _ xs W (hu.g k) j (by rw [hL.o];omega)
 have JY:HzD (∀ W,Kept af w W->ClZ 19 #[.slice bo M i] W fun r w'=>∃ v',r=.returned v'/\IsBig w' v' (val ys)/\(∀ b,v'.ownBlock=some b->W.heap.size<=b)/\Kept af W w'):=fun W k=>rOf _ ys W (hv.g k) l (by rw [hM.o];omega)
 by_cases hlen:130<L\/130<M
 ·have HE:HzD (E=2):=by unfold HzD;rw [hE,Ca,ai hlen]
  have HR:HzD (RL=[]):=by unfold HzD;rw [f,ar (by rw [HE.o];omega)]
  clear hu hv hE f hL hM JX JY;by_cases h1:130<L
  ·have g1:(130:Int)<(L:Int):=by omega
   clear hlen;delta ClZ;go_in;go_wp2_with fail;go_ret2;exact ⟨_,by rw [HE.o];rfl,by rw [HR.o];exact Row.nil _ _,(fun b hb=>by cases hb),ah _ _⟩
  ·have g1:¬ (130:Int)<(L:Int):=by omega
   have g2:(130:Int)<(M:Int):=by omega
   clear hlen;delta ClZ;go_in;go_wp2_with fail;go_ret2;exact ⟨_,by rw [HE.o];rfl,by rw [HR.o];exact Row.nil _ _,(fun b hb=>by cases hb),ah _ _⟩
 ·have g1:¬ (130:Int)<(L:Int):=by omega
  have g2:¬ (130:Int)<(M:Int):=by omega
  have au:cC (val xs)<=260:=by
   have:cC (val xs)<=2*L:=(dI _ _).2 (by rw [aW,<- hL.o];exact aE (by omega) j);omega
  have av:cC (val ys)<=260:=by
   have:cC (val ys)<=2*M:=(dI _ _).2 (by rw [aW,<- hM.o];exact aE (by omega) l);omega
  rw [Ca,ar hlen] at hE;have HE:=aa hE;have g:=aa f;clear hu hv hL hM hE f j l hlen;generalize val xs=P at *;generalize val ys=Q at *;delta ClZ;go_in;go_wp2_with fail;have h1:=JX.o _ (ah _ _);refine h1.mono ?_;rintro e w1 ⟨v1,rfl,b1,_,K1⟩;clear h1;have h2:=JY.o _ K1;go_wp2_with fail;refine h2.mono ?_;rintro e w2 ⟨v2,rfl,b2,_,k2⟩;have K2:=K1.trans k2;have b1:=b1.g k2;clear h2;have h3:=jp 2 (by omega) w2;go_wp2_with fail;refine h3.mono ?_;rintro e w3 ⟨v3,rfl,b3,_,k3⟩;have K3:=K2.trans k3;have b1:=b1.g k3;have b2:=b2.g k3;clear h3;have h4:=mI v1 v3 P 2 w3 b1 b3;by_cases hP:P<2
  ·have d:HzD (E=1):=by unfold HzD;rw [HE.o,ai (.inl hP)]
   have HR:HzD (RL=[]):=by unfold HzD;rw [g.o,ar (by rw [d.o];omega)]
   rw [fh hP] at h4;go_wp2_with fail;refine h4.mono ?_;rintro e w4 ⟨rfl,m4,rfl⟩;go_wp2_with fail;go_ret2;exact ⟨_,by rw [d.o];rfl,by rw [HR.o];exact Row.nil _ _,(fun b hb=>by cases hb),K3.drewN m4⟩
  have N:=nU (show 2<=P by omega);have q4:decide (cY P 2<0)=false:=cI N;generalize cY P 2=c4 at *;go_wp2_with fail;refine h4.mono ?_;rintro e ay ⟨rfl,m4,rfl⟩;have k4:=(ah af w3).drewN m4;obtain ⟨w4,y⟩:=aj (w3.drewN m4)
  rw [<- y] at k4 ⊢;have K4:=K3.trans k4;have b1:=b1.g k4;have b2:=b2.g k4;have b3:=b3.g k4;clear h4 y;have h5:=jp 2 (by omega) w4;go_wp2_with fail;refine h5.mono ?_;rintro e w5 ⟨v5,rfl,b5,_,k5⟩;have K5:=K4.trans k5;have b1:=b1.g k5;have b2:=b2.g k5;have b3:=b3.g k5;clear h5;have h6:=mI v2 v5 Q 2 w5 b2 b5;by_cases hQ:Q<2
  ·have d:HzD (E=1):=by unfold HzD;rw [HE.o,ai (.inr hQ)]
   have HR:HzD (RL=[]):=by unfold HzD;rw [g.o,ar (by rw [d.o];omega)]
   rw [fh hQ] at h6;go_wp2_with fail;refine h6.mono ?_;rintro e w6 ⟨rfl,m6,rfl⟩;go_wp2_with fail;go_ret2;exact ⟨_,by rw [d.o];rfl,by rw [HR.o];exact Row.nil _ _,(fun b hb=>by cases hb),K5.drewN m6⟩
  have O:=nU (show 2<=Q by omega);have q6:decide (cY Q 2<0)=false:=cI O;have n:HzD (E=0):=by unfold HzD;rw [HE.o,aK]
  have HR:HzD (RL=digs (eW P Q) (max (am (eW P Q)) 1)):=by unfold HzD;rw [g.o,ai n.o]
  generalize cY Q 2=c6 at *;go_wp2_with fail;refine h6.mono ?_;rintro e az ⟨rfl,m6,rfl⟩;have k6:=(ah af w5).drewN m6;obtain ⟨w6,z⟩:=aj (w5.drewN m6)
  rw [<- z] at k6 ⊢;have K6:=K5.trans k6;have b1:=b1.g k6;have b2:=b2.g k6;clear h6 z b3 b5;have h7:=ri w6;go_wp2_with fail;refine h7.mono ?_;rintro e w7 ⟨v7,rfl,b7,_,k7⟩;have K7:=K6.trans k7;have b1:=b1.g k7;have b2:=b2.g k7;clear h7;have h8:=vZ v1 v7 P 1 w7 b1 b7;go_wp2_with fail;refine h8.mono ?_;rintro e w8 ⟨v8,rfl,b8,_,k8⟩;have K8:=K7.trans k8;have b1:=b1.g k8;have b2:=b2.g k8;have b7:=b7.g k8;clear h8;have h9:=ri w8;go_wp2_with fail;refine h9.mono ?_;rintro e w9 ⟨v9,rfl,b9,_,k9⟩;have K9:=K8.trans k9;have b1:=b1.g k9;have b2:=b2.g k9;have b7:=b7.g k9;have b8:=b8.g k9;clear h9;have p:=vZ v2 v9 Q 1 w9 b2 b9
  go_wp2_with fail;refine p.mono ?_;rintro e ag ⟨B,rfl,a,_,c⟩;have C:=K9.trans c;have b1:=b1.g c;have b2:=b2.g c;have b7:=b7.g c;have b8:=b8.g c;have b9:=b9.g c;clear p;have R:cC (P-1)<=260:=by have:=ef (show P-1<=P by omega);omega
  have S:cC (Q-1)<=260:=by have:=ef (show Q-1<=Q by omega);omega
  have q:=Id v8 B (P-1) (Q-1) ag b8 a;go_wp2_with fail;refine q.mono ?_;rintro e ak ⟨Z,rfl,H,_,m⟩;have D:=C.trans m;have b8:=b8.g m;have a:=a.g m;clear q;have T:0<Nat.gcd (P-1) (Q-1):=Nat.gcd_pos_of_pos_left _ (by omega);have s:=pZ v8 Z (P-1) (Nat.gcd (P-1) (Q-1)) ak b8 H T;go_wp2_with fail;refine s.mono ?_;rintro e al ⟨ab,ac,rfl,I,_,_,_,A⟩;have F:=D.trans A;have a:=a.g A;clear s;have aw:cC ((P-1)/Nat.gcd (P-1) (Q-1))<=260:=by have:=ef (em (P-1) (Nat.gcd (P-1) (Q-1)));omega
  have t:=Dx ab B _ (Q-1) al I a;go_wp2_with fail;refine t.mono ?_;rintro e an ⟨ad,rfl,J,_,U⟩;have o:=F.trans U;clear t;have v:=tH ad _ an J;go_wp2_with fail;refine v.mono ?_;rintro e ax ⟨ae,rfl,Y,X,V⟩;have G:=o.trans V;clear v;go_wp2_with fail;go_ret2;exact ⟨_,by rw [n.o];rfl,by rw [HR.o];exact Y,(fun b hb=>by have x:ae.ownBlock=some b:=hb;rw [X] at x;cases x;exact o.size),G⟩

def gU (xs:LN) (e:Nat):Nat:=
 if xs.length=0\/1000<xs.length\/xs.getD (xs.length-1) 0=0\/val xs%2=0\/aN (val xs)<32\/8192<aN (val xs)\/e<3\/e%2=0\/4294967296<=e then 190 else 0

theorem sI (ao:OA) (L f:Nat) (xs:LN) (e:Nat) (he:e<18446744073709551616) (E:Nat) (hE:E=gU xs e) (w:World) (hu:Row .u64 w (.slice ao L f) xs) (g:Digs xs) (x:L<=1000000:=by omega) :
  ClZ 33 #[.slice ao L f,.int .u64 (e:Nat)] w fun r w'=>r=.returned (.int .i64 (E:Nat))/\Kept af w w':=by
 obtain ⟨_,_,_,e1,hL,-,-,-,h4⟩:=hu.open;cases e1
 have hO:=rOf _ xs w hu g (by rw [hL.o];omega);have a:HzD ((L=0\/1000<L\/xs.getD (L-1) 0=0\/val xs%2=0\/aN (val xs)<32\/8192<aN (val xs)\/e<3\/e%2=0\/4294967296<=e)->E=190):=fun h=>by
  rw [hE,gU,hL.o,ai h]
 have c:HzD (¬ (L=0\/1000<L\/xs.getD (L-1) 0=0\/val xs%2=0\/aN (val xs)<32\/8192<aN (val xs)\/e<3\/e%2=0\/4294967296<=e)->E=0):=fun h=>by
  rw [hE,gU,hL.o,ar h]
 have d:HzD (xs.getD (L-1) 0≠0->0<L->0<val xs):=fun h h2=>by
  have hT:iD xs:=.inr (by rw [hL.o];exact h);have:=kG (B:=18446744073709551616) hT (by rw [hL.o];exact h2);exact bi (aX) this
 clear hu g hE hL;generalize hXX:val xs=X at *;clear hXX;by_cases a1:L=0
 ·have HT:=aa (a.o (.inl a1));subst a1;clear h4 hO;delta ClZ;go_in;go_wp2_with fail;go_ret;exact ⟨by rw [HT.o];rfl,ah _ _⟩
 have q1:((L:Int) == 0)=false:=by simp;omega
 by_cases a2:1000<L
 ·have HT:=aa (a.o (.inr (.inl a2)));have g2:(1000:Int)<(L:Int):=by omega
  clear h4 hO;delta ClZ;go_in;go_wp2_with fail;go_ret;exact ⟨by rw [HT.o];rfl,ah _ _⟩
 have g2:¬ (1000:Int)<(L:Int):=by omega
 have q2:decide ((1000:Int)<(L:Int))=false:=cI g2;obtain ⟨m,hm⟩:∃ m,L=m+1:=⟨L-1,by omega⟩
 have j:L-1=m:=by omega
 rw [j] at a c d;obtain ⟨b,off,rfl,hc⟩:=h4 m (by omega);obtain ⟨z,hz⟩:=aj (xs.getD m 0)
 rw [<- hz] at hc a c d;have gw:IntKind.i64.wrap ((L:Int)-1)=(m:Int):=jN
 have gj:(L:Int)-1=(m:Int):=by omega
 have n:(0:Int)<=(m:Int):=by omega
 have o:(m:Int)<(L:Int):=by omega
 clear h4 hz hm j;by_cases a3:z=0
 ·have HT:=aa (a.o (.inr (.inr (.inl a3))));subst a3;clear hO;delta ClZ;go_in;go_wp2_with fail;go_ret;exact ⟨by rw [HT.o];rfl,ah _ _⟩
 have g3:¬ (z:Int)=0:=by omega
 have q3:((z:Int) == 0)=false:=by simp;omega
 have p:0<X:=d.o a3 (by omega);clear d;delta ClZ;go_in;go_wp2_with fail;refine hO.mono ?_;rintro r w1 ⟨v1,rfl,b1,_,k1⟩;have h2:=oy v1 X w1 b1;have q:=sX b1;obtain ⟨b5,v,n5,l,d5,rfl,D,y,A,C⟩:=xP b1 p;obtain ⟨t,ht⟩:=aj (aN X)
 rw [<- ht] at h2 a c q;have k:(d5:Int).tmod 2=((d5%2:Nat):Int):=by rw [jO (by omega)];omega
 have i:(e:Int).tmod 2=((e%2:Nat):Int):=by rw [jO (by omega)];omega
 clear hO ht b1 hc gw gj n o q1 q2 q3 g2 g3;go_wp2_with fail;refine h2.mono ?_;rintro r w2 ⟨rfl,rfl⟩;clear h2;by_cases a4:X%2=0
 ·have HT:=aa (a.o (.inr (.inr (.inr (.inl a4)))));have s:(d5:Int)%2=0:=by omega
  rw [show d5%2=0 by omega] at k;clear a c;go_wp2_with fail;go_ret;exact ⟨by rw [HT.o];rfl,k1⟩
 have s:(d5:Int)%2=1:=by omega
 rw [show d5%2=1 by omega] at k;by_cases a5:t<32
 ·have HT:=aa (a.o (.inr (.inr (.inr (.inr (.inl a5))))));have g5:(t:Int)<32:=by omega
  clear a c;go_wp2_with fail;go_ret;exact ⟨by rw [HT.o];rfl,k1⟩
 have g5:¬ (t:Int)<32:=by omega
 have q5:decide ((t:Int)<32)=false:=cI g5;by_cases a6:8192<t
 ·have HT:=aa (a.o (.inr (.inr (.inr (.inr (.inr (.inl a6)))))));have g6:(8192:Int)<(t:Int):=by omega
  clear a c;go_wp2_with fail;go_ret;exact ⟨by rw [HT.o];rfl,k1⟩
 have g6:¬ (8192:Int)<(t:Int):=by omega
 have q6:decide ((8192:Int)<(t:Int))=false:=cI g6;by_cases a7:e<3
 ·have HT:=aa (a.o (.inr (.inr (.inr (.inr (.inr (.inr (.inl a7))))))));have g7:(e:Int)<3:=by omega
  clear a c;go_wp2_with fail;go_ret;exact ⟨by rw [HT.o];rfl,k1⟩
 have g7:¬ (e:Int)<3:=by omega
 have q7:decide ((e:Int)<3)=false:=cI g7;by_cases a8:e%2=0
 ·have HT:=aa (a.o (.inr (.inr (.inr (.inr (.inr (.inr (.inr (.inl a8)))))))));have g8:(e:Int)%2=0:=by omega
  rw [show e%2=0 by omega] at i;clear a c;go_wp2_with fail;go_ret;exact ⟨by rw [HT.o];rfl,k1⟩
 have g8:(e:Int)%2=1:=by omega
 rw [show e%2=1 by omega] at i;by_cases a9:4294967296<=e
 ·have HT:=aa (a.o (.inr (.inr (.inr (.inr (.inr (.inr (.inr (.inr (a9))))))))));have g9:(4294967296:Int)<=(e:Int):=by omega
  clear a c;go_wp2_with fail;go_ret;exact ⟨by rw [HT.o];rfl,k1⟩
 have g9:¬ (4294967296:Int)<=(e:Int):=by omega
 have q9:decide ((4294967296:Int)<=(e:Int))=false:=cI g9;have HT:HzD (E=0):=c.o (by omega);clear a c;go_wp2_with fail;go_ret;exact ⟨by rw [HT.o];rfl,k1⟩

theorem Ay (m:LN):∀ a,m.foldl (fun a b=>a*256+b) a=a*256^m.length+bev m:=by
 unfold bev
 induction m with
 | nil=>intro a;simp
 | cons x m ih=>
  intro a;rw [List.foldl_cons,ih,List.foldl_cons,ih (0*256+x),dh,aG];simp only [i9,dU,dm,bd,iX,aD 256]

theorem ph (l m:LN):bev (l ++ m)=bev l*256^m.length+bev m:=by
 show (l ++ m).foldl _ 0=_
 rw [List.foldl_append,Ay];rfl

theorem nM {l:LN} (h:Digs l 256):bev l<256^l.length:=by
 induction l with
 | nil=>simp [bev]
 | cons x m ih=>
  have e:=ph [x] m;rw [pI] at e;have hx:=h.head;have hm:=ih h.tail;rw [e,dh,aG];have:(x+1)*256^m.length<=256*256^m.length:=cF _ hx;rw [dm,iG] at this;have e2:bev [x]=x:=by simp [bev]
  rw [e2,aD (256^m.length)];omega

theorem uu {xs:LN} (h:Digs xs):aN (val xs)<=64*xs.length:=by
 rw [bh,aW];exact aE (by omega) h

theorem aZ {W:World} {a b c d e f g h:Value} (hh:W.heap[p]? = some (.cells #[a,b,c,d,e,f,g,h] t (0,0))) :
  W.cell? ⟨p,0,none⟩=some a/\W.cell? ⟨p,1,none⟩=some b/\W.cell? ⟨p,2,none⟩=some c/\W.cell? ⟨p,3,none⟩=some d/\W.cell? ⟨p,4,none⟩=some e/\W.cell? ⟨p,5,none⟩=some f/\W.cell? ⟨p,6,none⟩=some g/\W.cell? ⟨p,7,none⟩=some h:=by
 simp [World.cell?,hh]

theorem Fy (aj ad am ap o r v ax au aA aD z C F:OA) (ai ag ac ab al ak ao an n m q p t s aw av ar aq az ay aC aB y x B A E D ae be:Nat) (J I L M d f g O N P Q i j l:LN) (R:Bool) (hR:R=true↔ae=be/\J=O/\I=N/\L=P/\M=Q/\d=i/\f=j/\g=l) (w:World) (aF:Row .u64 w (.slice aj ai ag) J) (aE:Row .u64 w (.slice ad ac ab) I) (aG:Row .u64 w (.slice am al ak) L) (aH:Row .u64 w (.slice ap ao an) M) (S:Row .u64 w (.slice o n m) d) (T:Row .u64 w (.slice r q p) f) (U:Row .u64 w (.slice v t s) g) (aJ:Row .u64 w (.slice ax aw av) O) (aI:Row .u64 w (.slice au ar aq) N) (aK:Row .u64 w (.slice aA az ay) P) (aL:Row .u64 w (.slice aD aC aB) Q) (V:Row .u64 w (.slice z y x) i) (X:Row .u64 w (.slice C B A) j) (Y:Row .u64 w (.slice F E D) l) :
  ClZ 17 #[.agg #[.slice aj ai ag,.int .u64 (ae:Nat),.slice ad ac ab,.slice am al ak,.slice ap ao an,.slice o n m,.slice r q p,.slice v t s],.agg #[.slice ax aw av,.int .u64 (be:Nat),.slice au ar aq,.slice aA az ay,.slice aD aC aB,.slice z y x,.slice C B A,.slice F E D]] w fun e w'=>e=.returned (.bool R)/\Kept af w w':=by
 have HR:=aa hR;have HF:HzD (¬ (ae=be/\J=O/\I=N/\L=P/\M=Q/\d=i/\f=j/\g=l)->R=false):=fun h=>by
  cases h2:R with
  | false=>rfl
  | true=>exact absurd (HR.o.1 h2) h
 have k0:Kept af w ((w.alloc (.cells #[.slice aj ai ag,.int .u64 (ae:Nat),.slice ad ac ab,.slice am al ak,.slice ap ao an,.slice o n m,.slice r q p,.slice v t s] 26)).alloc (.cells #[.slice ax aw av,.int .u64 (be:Nat),.slice au ar aq,.slice aA az ay,.slice aD aC aB,.slice z y x,.slice C B A,.slice F E D] 26)):=((ah af w).alloc _).alloc _;have Jn:=aa (fun W (k:Kept af w W)=>rj _ _ J O W (aF.g k) (aJ.g k));have Jd:=aa (fun W (k:Kept af w W)=>rj _ _ I N W (aE.g k) (aI.g k));have Jp:=aa (fun W (k:Kept af w W)=>rj _ _ L P W (aG.g k) (aK.g k))
 have Jq:=aa (fun W (k:Kept af w W)=>rj _ _ M Q W (aH.g k) (aL.g k));have a:=aa (fun W (k:Kept af w W)=>rj _ _ d i W (S.g k) (V.g k));have b:=aa (fun W (k:Kept af w W)=>rj _ _ f j W (T.g k) (X.g k));have c:=aa (fun W (k:Kept af w W)=>rj _ _ g l W (U.g k) (Y.g k));clear hR aF aJ aE aI aG aK aH aL S V T X U Y;by_cases he:ae=be
 ·subst he;by_cases e0:J=O
  ·have hn:=Jn.o;rw [dV e0] at hn;by_cases e1:I=N
   ·have hd:=Jd.o;rw [dV e1] at hd;by_cases e2:L=P
    ·have hp:=Jp.o;rw [dV e2] at hp;by_cases e3:M=Q
     ·have hq:=Jq.o;rw [dV e3] at hq;by_cases e4:d=i
      ·have G:=a.o;rw [dV e4] at G;by_cases e5:f=j
       ·have H:=b.o;rw [dV e5] at H;by_cases e6:g=l
        ·have Z:=c.o;rw [dV e6] at Z;have HT:HzD (R=true):=HR.o.2 ⟨rfl,e0,e1,e2,e3,e4,e5,e6⟩;clear HR HF Jn Jd Jp Jq a b c e0 e1 e2 e3 e4 e5 e6;delta ClZ;go_in;go_wp2_with fail;refine (hn _ k0).mono ?_;rintro e w0 ⟨rfl,m0,rfl⟩;go_wp2_with fail;refine (hd _ (k0.drewN _)).mono ?_;rintro e w1 ⟨rfl,m1,rfl⟩;go_wp2_with fail;refine (hp _ (k0.drewN _)).mono ?_;rintro e w2 ⟨rfl,m2,rfl⟩;go_wp2_with fail;refine (hq _ (k0.drewN _)).mono ?_;rintro e w3 ⟨rfl,m3,rfl⟩;go_wp2_with fail;refine (G _ (k0.drewN _)).mono ?_;rintro e w4 ⟨rfl,m4,rfl⟩;go_wp2_with fail;refine (H _ (k0.drewN _)).mono ?_;rintro e w5 ⟨rfl,m5,rfl⟩;go_wp2_with fail
         refine (Z _ (k0.drewN _)).mono ?_;rintro e w6 ⟨rfl,m6,rfl⟩;go_wp2_with fail;go_ret;exact ⟨by rw [HT.o];rfl,k0.drewN _⟩
        ·have HT:=aa (HF.o (fun h=>e6 h.2.2.2.2.2.2.2));have Z:=c.o;rw [cI e6] at Z;clear HR HF Jn Jd Jp Jq a b c e0 e1 e2 e3 e4 e5 e6;delta ClZ;go_in;go_wp2_with fail;refine (hn _ k0).mono ?_;rintro e w0 ⟨rfl,m0,rfl⟩;go_wp2_with fail;refine (hd _ (k0.drewN _)).mono ?_;rintro e w1 ⟨rfl,m1,rfl⟩;go_wp2_with fail;refine (hp _ (k0.drewN _)).mono ?_;rintro e w2 ⟨rfl,m2,rfl⟩;go_wp2_with fail;refine (hq _ (k0.drewN _)).mono ?_;rintro e w3 ⟨rfl,m3,rfl⟩;go_wp2_with fail;refine (G _ (k0.drewN _)).mono ?_;rintro e w4 ⟨rfl,m4,rfl⟩;go_wp2_with fail;refine (H _ (k0.drewN _)).mono ?_;rintro e w5 ⟨rfl,m5,rfl⟩;go_wp2_with fail;refine (Z _ (k0.drewN _)).mono ?_
         rintro e w6 ⟨rfl,m6,rfl⟩;go_wp2_with fail;go_ret;exact ⟨by rw [HT.o];rfl,k0.drewN _⟩
       ·have HT:=aa (HF.o (fun h=>e5 h.2.2.2.2.2.2.1));have H:=b.o;rw [cI e5] at H;clear HR HF Jn Jd Jp Jq a b c e0 e1 e2 e3 e4 e5;delta ClZ;go_in;go_wp2_with fail;refine (hn _ k0).mono ?_;rintro e w0 ⟨rfl,m0,rfl⟩;go_wp2_with fail;refine (hd _ (k0.drewN _)).mono ?_;rintro e w1 ⟨rfl,m1,rfl⟩;go_wp2_with fail;refine (hp _ (k0.drewN _)).mono ?_;rintro e w2 ⟨rfl,m2,rfl⟩;go_wp2_with fail;refine (hq _ (k0.drewN _)).mono ?_;rintro e w3 ⟨rfl,m3,rfl⟩;go_wp2_with fail;refine (G _ (k0.drewN _)).mono ?_;rintro e w4 ⟨rfl,m4,rfl⟩;go_wp2_with fail;refine (H _ (k0.drewN _)).mono ?_;rintro e w5 ⟨rfl,m5,rfl⟩;go_wp2_with fail;go_ret
        exact ⟨by rw [HT.o];rfl,k0.drewN _⟩
      ·have HT:=aa (HF.o (fun h=>e4 h.2.2.2.2.2.1));have G:=a.o;rw [cI e4] at G;clear HR HF Jn Jd Jp Jq a b c e0 e1 e2 e3 e4;delta ClZ;go_in;go_wp2_with fail;refine (hn _ k0).mono ?_;rintro e w0 ⟨rfl,m0,rfl⟩;go_wp2_with fail;refine (hd _ (k0.drewN _)).mono ?_;rintro e w1 ⟨rfl,m1,rfl⟩;go_wp2_with fail;refine (hp _ (k0.drewN _)).mono ?_;rintro e w2 ⟨rfl,m2,rfl⟩;go_wp2_with fail;refine (hq _ (k0.drewN _)).mono ?_;rintro e w3 ⟨rfl,m3,rfl⟩;go_wp2_with fail;refine (G _ (k0.drewN _)).mono ?_;rintro e w4 ⟨rfl,m4,rfl⟩;go_wp2_with fail;go_ret;exact ⟨by rw [HT.o];rfl,k0.drewN _⟩
     ·have HT:=aa (HF.o (fun h=>e3 h.2.2.2.2.1));have hq:=Jq.o;rw [cI e3] at hq;clear HR HF Jn Jd Jp Jq a b c e0 e1 e2 e3;delta ClZ;go_in;go_wp2_with fail;refine (hn _ k0).mono ?_;rintro e w0 ⟨rfl,m0,rfl⟩;go_wp2_with fail;refine (hd _ (k0.drewN _)).mono ?_;rintro e w1 ⟨rfl,m1,rfl⟩;go_wp2_with fail;refine (hp _ (k0.drewN _)).mono ?_;rintro e w2 ⟨rfl,m2,rfl⟩;go_wp2_with fail;refine (hq _ (k0.drewN _)).mono ?_;rintro e w3 ⟨rfl,m3,rfl⟩;go_wp2_with fail;go_ret;exact ⟨by rw [HT.o];rfl,k0.drewN _⟩
    ·have HT:=aa (HF.o (fun h=>e2 h.2.2.2.1));have hp:=Jp.o;rw [cI e2] at hp;clear HR HF Jn Jd Jp Jq a b c e0 e1 e2;delta ClZ;go_in;go_wp2_with fail;refine (hn _ k0).mono ?_;rintro e w0 ⟨rfl,m0,rfl⟩;go_wp2_with fail;refine (hd _ (k0.drewN _)).mono ?_;rintro e w1 ⟨rfl,m1,rfl⟩;go_wp2_with fail;refine (hp _ (k0.drewN _)).mono ?_;rintro e w2 ⟨rfl,m2,rfl⟩;go_wp2_with fail;go_ret;exact ⟨by rw [HT.o];rfl,k0.drewN _⟩
   ·have HT:=aa (HF.o (fun h=>e1 h.2.2.1));have hd:=Jd.o;rw [cI e1] at hd;clear HR HF Jn Jd Jp Jq a b c e0 e1;delta ClZ;go_in;go_wp2_with fail;refine (hn _ k0).mono ?_;rintro e w0 ⟨rfl,m0,rfl⟩;go_wp2_with fail;refine (hd _ (k0.drewN _)).mono ?_;rintro e w1 ⟨rfl,m1,rfl⟩;go_wp2_with fail;go_ret;exact ⟨by rw [HT.o];rfl,k0.drewN _⟩
  ·have HT:=aa (HF.o (fun h=>e0 h.2.1));have hn:=Jn.o;rw [cI e0] at hn;clear HR HF Jn Jd Jp Jq a b c e0;delta ClZ;go_in;go_wp2_with fail;refine (hn _ k0).mono ?_;rintro e w0 ⟨rfl,m0,rfl⟩;go_wp2_with fail;go_ret;exact ⟨by rw [HT.o];rfl,k0.drewN _⟩
 ·have HT:=aa (HF.o (fun h=>he h.1));have ge:¬ (ae:Int)=(be:Int):=by omega
  have qe:((ae:Int) == (be:Int))=false:=by simp;omega
  clear HR HF Jn Jd Jp Jq a b c;delta ClZ;go_in;go_wp2_with fail;go_ret;exact ⟨by rw [HT.o];rfl,k0⟩

def ow (w:World) (p:Nat) (x0 x1 x2 x3 x4 x5 x6 x7:Value):World:=((((((((w.setCell ⟨p,0,none⟩ x0).setCell ⟨p,1,none⟩ x1).setCell ⟨p,2,none⟩ x2).setCell ⟨p,3,none⟩ x3).setCell ⟨p,4,none⟩ x4).setCell ⟨p,5,none⟩ x5).setCell ⟨p,6,none⟩ x6).setCell ⟨p,7,none⟩ x7)

theorem mC {w3:World} {a0 a1 a2 a3 a4 a5 a6 a7:Value} (hk:Kept af w w3) (hp:w.heap.size<=p) (a:w3.heap[p]? = some (.cells #[a0,a1,a2,a3,a4,a5,a6,a7] t (0,0))) (x0 x1 x2 x3 x4 x5 x6 x7:Value) :
  (ow w3 p x0 x1 x2 x3 x4 x5 x6 x7).heap[p]? = some (.cells #[x0,x1,x2,x3,x4,x5,x6,x7] t (0,0))/\Kept af w (ow w3 p x0 x1 x2 x3 x4 x5 x6 x7)/\Kept (fun q=>q=p) w3 (ow w3 p x0 x1 x2 x3 x4 x5 x6 x7):=by
 unfold ow;refine ⟨?_,?_,?_⟩
 ·have h0:=heap_setCell_same w3 p 0 _ _ x0 a;have h1:=heap_setCell_same _ p 1 _ _ x1 h0;have h2:=heap_setCell_same _ p 2 _ _ x2 h1;have h3:=heap_setCell_same _ p 3 _ _ x3 h2;have h4:=heap_setCell_same _ p 4 _ _ x4 h3;have h5:=heap_setCell_same _ p 5 _ _ x5 h4;have h6:=heap_setCell_same _ p 6 _ _ x6 h5;have h7:=heap_setCell_same _ p 7 _ _ x7 h6;simpa using h7
 ·exact ((((((((hk.setCell ⟨p,0,none⟩ (fun h=>by simp at h;omega) _).setCell ⟨p,1,none⟩ (fun h=>by simp at h;omega) _).setCell ⟨p,2,none⟩ (fun h=>by simp at h;omega) _).setCell ⟨p,3,none⟩ (fun h=>by simp at h;omega) _).setCell ⟨p,4,none⟩ (fun h=>by simp at h;omega) _).setCell ⟨p,5,none⟩ (fun h=>by simp at h;omega) _).setCell ⟨p,6,none⟩ (fun h=>by simp at h;omega) _).setCell ⟨p,7,none⟩ (fun h=>by simp at h;omega) _)
 ·exact ((((((((ah (fun q=>q=p) w3).setCell ⟨p,0,none⟩ (fun _=>rfl) _).setCell ⟨p,1,none⟩ (fun _=>rfl) _).setCell ⟨p,2,none⟩ (fun _=>rfl) _).setCell ⟨p,3,none⟩ (fun _=>rfl) _).setCell ⟨p,4,none⟩ (fun _=>rfl) _).setCell ⟨p,5,none⟩ (fun _=>rfl) _).setCell ⟨p,6,none⟩ (fun _=>rfl) _).setCell ⟨p,7,none⟩ (fun _=>rfl) _

theorem cL {W:World} {cs:Array Value} (h:W.heap[p]? = some (.cells cs t (0,0))) (j:Nat):W.frozen? ⟨p,j,none⟩=false:=frozen_of_row W _ j _ _ h

theorem jV {w3:World} {a0 a1 a2 a3 a4 a5 a6 a7:Value} (hk:Kept af w w3) (hp:w.heap.size<=p) (a:w3.heap[p]? = some (.cells #[a0,a1,a2,a3,a4,a5,a6,a7] t (0,0))) :
  ∃ Wf,(((((((w3.setCell ⟨p,0,none⟩ (.slice none 0 0)).setCell ⟨p,1,none⟩ (.int .u64 0)).setCell ⟨p,2,none⟩ (.slice none 0 0)).setCell ⟨p,3,none⟩ (.slice none 0 0)).setCell ⟨p,4,none⟩ (.slice none 0 0)).setCell ⟨p,5,none⟩ (.slice none 0 0)).setCell ⟨p,6,none⟩ (.slice none 0 0)).setCell ⟨p,7,none⟩ (.slice none 0 0)=Wf/\(Wf.cell? ⟨p,0,none⟩=some (.slice none 0 0)/\Wf.cell? ⟨p,1,none⟩=some (.int .u64 0)/\Wf.cell? ⟨p,2,none⟩=some (.slice none 0 0)/\Wf.cell? ⟨p,3,none⟩=some (.slice none 0 0)/\Wf.cell? ⟨p,4,none⟩=some (.slice none 0 0)/\Wf.cell? ⟨p,5,none⟩=some (.slice none 0 0)/\Wf.cell? ⟨p,6,none⟩=some (.slice none 0 0)/\Wf.cell? ⟨p,7,none⟩=some (.slice none 0 0))/\Kept af w Wf:=by
 have h:=mC hk hp a (.slice none 0 0) (.int .u64 0) (.slice none 0 0) (.slice none 0 0) (.slice none 0 0) (.slice none 0 0) (.slice none 0 0) (.slice none 0 0);exact ⟨_,rfl,aZ h.1,h.2.1⟩

abbrev zeroKey:Array Value:=#[.slice none 0 0,.int .u64 0,.slice none 0 0,.slice none 0 0,.slice none 0 0,.slice none 0 0,.slice none 0 0,.slice none 0 0]

theorem cX (h:aN X<=64*n:=by omega):am X<=n:=(aC X n).2 (by
 have:=(bh X (64*n)).1 h;rw [aW] at this;exact this)

theorem jU (h:aN X<=32*n):cC X<=n:=(dI X n).2 (by
 have:=(bh X (32*n)).1 h;rw [aW] at this;exact this)

theorem mU (h:cC X<=n):am X<=n:=(aC X n).2 (bi ((dI X n).1 h) (Nat.pow_le_pow_left (by omega) n))

def eI (P:Nat):Prop:=3<=P/\P%2=1/\aN P<=8192

def cK (P Q:Nat):LN:=digs (P*Q) (max (am (P*Q)) 1)

def eR (L M P Q e:Nat):Prop:=(L<=300/\M<=300)/\eI P/\eI Q/\Nat.gcd P Q=1/\gU (cK P Q) e=0/\Nat.gcd e (eW P Q)=1

def KeyAt (w:World) (P Q e:Nat) (kv:Array Value):Prop:=
 ∃ (vn vd vp vq vdp vdq vqi:Value) (d u:Nat),kv=#[vn,.int .u64 (e:Nat),vd,vp,vq,vdp,vdq,vqi]/\Row .u64 w vn (cK P Q)/\d<eW P Q/\e*d%eW P Q=1/\Row .u64 w vd (digs d (cK P Q).length) /\
  Row .u64 w vp (digs P (max (am P) (am Q)))/\Row .u64 w vq (digs Q (max (am P) (am Q)))/\Row .u64 w vdp (digs (d%(P-1)) (max (am P) (am Q)))/\Row .u64 w vdq (digs (d%(Q-1)) (max (am P) (am Q)))/\u<P/\Q*u%P=1/\Row .u64 w vqi (digs u (max (am P) (am Q)))

def kQ (B:Nat) (kv:Array Value):Prop:=∀ v ∈ kv.toList,∀ x,v.ownBlock=some x->B<x

theorem el (B:Nat):kQ B zeroKey:=by
 intro v hv x hx;have a:v ∈ [Value.slice none 0 0,.int .u64 0,.slice none 0 0,.slice none 0 0,.slice none 0 0,.slice none 0 0,.slice none 0 0,.slice none 0 0]:=hv;simp only [fM,List.not_mem_nil,or_false] at a;rcases a with rfl | rfl | rfl | rfl | rfl | rfl | rfl | rfl <;> cases hx

theorem zL {B:Nat} {v0 v2 v3 v4 v5 v6 v7:Value} {e:Int} (h0:∀ x,v0.ownBlock=some x->B<x) (h2:∀ x,v2.ownBlock=some x->B<x) (h3:∀ x,v3.ownBlock=some x->B<x) (h4:∀ x,v4.ownBlock=some x->B<x) (h5:∀ x,v5.ownBlock=some x->B<x) (h6:∀ x,v6.ownBlock=some x->B<x) (h7:∀ x,v7.ownBlock=some x->B<x):kQ B #[v0,.int .u64 e,v2,v3,v4,v5,v6,v7]:=by
 intro v hv x hx;have a:v ∈ [v0,.int .u64 e,v2,v3,v4,v5,v6,v7]:=hv;simp only [fM,List.not_mem_nil,or_false] at a;rcases a with rfl | rfl | rfl | rfl | rfl | rfl | rfl | rfl
 ·exact h0 x hx
 ·cases hx
 ·exact h2 x hx
 ·exact h3 x hx
 ·exact h4 x hx
 ·exact h5 x hx
 ·exact h6 x hx
 ·exact h7 x hx

theorem x8 (hP:3<=P) (hQ:3<=Q):2<=eW P Q:=by
 unfold eW;have hg:Nat.gcd (P-1) (Q-1) ∣ P-1:=Nat.gcd_dvd_left _ _;have h1:1<=(P-1)/Nat.gcd (P-1) (Q-1):=Nat.div_pos (mu (by omega) hg) (Nat.gcd_pos_of_pos_left _ (by omega));have:=cF (Q-1) h1;omega

theorem Lo (ao bo:OA) (L M bz bA:Nat) (xs ys:LN) (P Q e:Nat) (hP:P=val xs) (hQ:Q=val ys) (he:e<18446744073709551616) (w:World) (hu:Row .u64 w (.slice ao L bz) xs) (hv:Row .u64 w (.slice bo M bA) ys) (bI:Digs xs) (bJ:Digs ys) (eU:L<=1000000) (eV:M<=1000000) :
  ClZ 16 #[.slice ao L bz,.slice bo M bA,.int .u64 (e:Nat)] w fun r w'=>∃ kv E,r=.returned (.tuple #[.agg kv,.int .i64 ((E:Nat):Int)])/\((E=0/\eR L M P Q e/\KeyAt w' P Q e kv)\/(E=190/\¬ eR L M P Q e/\kv=zeroKey))/\kQ w.heap.size kv/\Kept af w w':=by
 obtain ⟨_,_,_,e1,hL,-,-,-,-⟩:=hu.open;cases e1
 obtain ⟨_,_,_,e1,hM,-,-,-,-⟩:=hv.open;cases e1
 obtain ⟨W0,bg⟩:=aj (w.alloc (.cells #[.slice none 0 0,.int .u64 0,.slice none 0 0,.slice none 0 0,.slice none 0 0,.slice none 0 0,.slice none 0 0,.slice none 0 0] 26))
 have k0:Kept af w W0:=by rw [bg];exact (ah af w).alloc _
 have bk:W0.heap[w.heap.size]? = some (.cells #[.slice none 0 0,.int .u64 0,.slice none 0 0,.slice none 0 0,.slice none 0 0,.slice none 0 0,.slice none 0 0,.slice none 0 0] 26 (0,0)):=by rw [bg];exact heap_alloc_new _ _
 have O:HzD (∀ W,Kept af W0 W->W.heap[w.heap.size]? = some (.cells #[.slice none 0 0,.int .u64 0,.slice none 0 0,.slice none 0 0,.slice none 0 0,.slice none 0 0,.slice none 0 0,.slice none 0 0] 26 (0,0))):=fun W k=>(k.block _ (lt_of_block bk) (fun f=>f)).trans bk
 have JX:HzD (∀ W,Kept af W0 W->ClZ 19 #[.slice ao L bz] W fun r w'=>∃ v',r=.returned v'/\IsBig w' v' P/\(∀ b,v'.ownBlock=some b->W.heap.size<=b)/\Kept af W w'):=fun W k=>by rw [hP];exact rOf _ xs W (hu.g (k0.trans k)) bI (by rw [hL.o];omega)
 have JY:HzD (∀ W,Kept af W0 W->ClZ 19 #[.slice bo M bA] W fun r w'=>∃ v',r=.returned v'/\IsBig w' v' Q/\(∀ b,v'.ownBlock=some b->W.heap.size<=b)/\Kept af W w'):=fun W k=>by rw [hQ];exact rOf _ ys W (hv.g (k0.trans k)) bJ (by rw [hM.o];omega)
 have eX:cC P<=2*L:=by rw [hP];exact (dI _ _).2 (by rw [aW,<- hL.o];exact aE (by omega) bI)
 have eY:cC Q<=2*M:=by rw [hQ];exact (dI _ _).2 (by rw [aW,<- hM.o];exact aE (by omega) bJ)
 have bv:=aa bg;have y:HzD (w.heap.size<W0.heap.size):=lt_of_block bk;have F:=aa k0;have KR:Kept af W0 W0:=ah _ _;clear hu hv bI bJ hL hM hP hQ bg k0 bk;by_cases c1:300<L
 ·have HN:HzD (¬ eR L M P Q e):=fun h=>by have:=h.1.1;omega
  have g1:(300:Int)<(L:Int):=by omega
  have hh:=bv.o;subst hh;delta ClZ;go_in;go_wp2_with fail;exact bodyPost_ret (v:=.tuple #[.agg zeroKey,.int .i64 190]) (by simp [results,results16,go_sem]) rfl ⟨_,190,rfl,.inr ⟨rfl,HN.o,rfl⟩,el _,F.o⟩
 have g1:¬ (300:Int)<(L:Int):=by omega
 have q1:decide ((300:Int)<(L:Int))=false:=cI g1;by_cases c2:300<M
 ·have HN:HzD (¬ eR L M P Q e):=fun h=>by have:=h.1.2;omega
  have g2:(300:Int)<(M:Int):=by omega
  have hh:=bv.o;subst hh;delta ClZ;go_in;go_wp2_with fail;exact bodyPost_ret (v:=.tuple #[.agg zeroKey,.int .i64 190]) (by simp [results,results16,go_sem]) rfl ⟨_,190,rfl,.inr ⟨rfl,HN.o,rfl⟩,el _,F.o⟩
 have g2:¬ (300:Int)<(M:Int):=by omega
 have q2:decide ((300:Int)<(M:Int))=false:=cI g2;delta ClZ;go_in;go_wp2_with (rw [<- bv.o]);have h1:=JX.o _ KR;refine h1.mono ?_;rintro r w1 ⟨v1,rfl,b1,_,K1⟩;have h2:=JY.o _ K1;clear h1;go_wp2_with fail;refine h2.mono ?_;rintro r w2 ⟨v2,rfl,b2,_,k2⟩;have K2:=K1.trans k2;have b1:=b1.g k2;clear h2 k2;obtain ⟨a1,n1,d1,rfl,-,-⟩:=b1.length;obtain ⟨a2,n2,d2,rfl,-,-⟩:=b2.length;obtain ⟨W3,bh⟩:=aj (w2.alloc (.cells #[.slice a1 n1 d1,.slice a2 n2 d2] 54))
 have k3:Kept af w2 W3:=by rw [bh];exact (ah af w2).alloc _
 have bR:W3.heap[w2.heap.size]? = some (.cells #[.slice a1 n1 d1,.slice a2 n2 d2] 54 (0,0)):=by rw [bh];exact heap_alloc_new _ _
 have cd:HzD (∀ W,Kept af W3 W->W.cell? ⟨w2.heap.size,0,none⟩=some (.slice a1 n1 d1)/\W.cell? ⟨w2.heap.size,0+1,none⟩=some (.slice a2 n2 d2)):=fun W k=>by
  have hh:=(k.block _ (lt_of_block bR) (fun f=>f)).trans bR;exact ⟨(cell_of_row W _ 0 _ _ _ hh).trans rfl,(cell_of_row W _ 1 _ _ _ hh).trans rfl⟩
 have dA:=aa bh;have aD:=aa (K2.trans k3);have bt:=aa (b1.g k3);have bu:=aa (b2.g k3);clear bh bR k3 b1 b2 K1 K2;go_wp2_with (rw [<- dA.o]);go_loopw [37] (fun iv wr=>∃ k:Nat,k<=2/\iv=.int .i64 (k:Int)/\HzD (0<k->eI P)/\HzD (1<k->eI Q)/\HzD (Kept af W3 wr)) (fun iv _=>2-(intOf iv).toNat)
 case atStart=>exact ⟨0,by omega,rfl,(fun h=>absurd h (by omega)),(fun h=>absurd h (by omega)),ah _ _⟩
 case round=>
  obtain ⟨k,hk,rfl,bL,da,T⟩:=hrel;obtain ⟨l0,l1⟩:=cd.o _ T.o;rcases (show k=0\/k=1\/k=2 by omega) with rfl | rfl | rfl
  ·have bx:=bt.o.g T.o;have h4:=jp 3 (by omega) wr;go_wp2_with fail;refine h4.mono ?_;rintro r w4 ⟨v4,rfl,b4,_,k4⟩;have K4:=T.o.trans k4;have bx:=bx.g k4;have h5:=mI _ v4 P 3 w4 bx b4;clear h4 b4 l0 l1;by_cases c3:P<3
   ·have HN:HzD (¬ eR L M P Q e):=fun h=>by have:=h.2.1.1;omega
    rw [fh c3] at h5;go_wp2_with fail;refine h5.mono ?_;rintro r bZ ⟨rfl,m5,rfl⟩;have K5:=aD.o.trans (K4.drewN m5);obtain ⟨w5,J⟩:=aj (w4.drewN m5)
    rw [<- J] at K5 ⊢;clear h5 J;have a:=O.o _ K5;obtain ⟨c0,c1,c2,c3,c4,c5,c6,c7⟩:=aZ a;have f:=cL a;have m:=aa (F.o.trans K5);go_wp2_with fail;obtain ⟨Wf,o,⟨r0,r1,r2,r3,r4,r5,r6,r7⟩,z2⟩:=jV m.o (leR _) a;rw [o];exact bodyPost_ret (v:=.tuple #[.agg zeroKey,.int .i64 190]) (by simp [results,results16,go_sem,r0,r1,r2,r3,r4,r5,r6,r7]) rfl ⟨_,190,rfl,.inr ⟨rfl,HN.o,rfl⟩,el _,z2⟩
   have bF:=nU (show 3<=P by omega);have q5:decide (cY P 3<0)=false:=cI bF;generalize cY P 3=c5 at *;obtain ⟨bV,bW,d7,d6,d5,bB,dZ,aX,dT,dU⟩:=xP bx;cases bB
   have dQ:(0:Int)<(n1:Int):=by omega
   have aF:(d5:Int).tmod 2=((d5%2:Nat):Int):=by rw [jO (by omega)];omega
   go_wp2_with fail;refine h5.mono ?_;rintro r bZ ⟨rfl,m5,rfl⟩;have kd:=(ah af w4).drewN m5;obtain ⟨w5,J⟩:=aj (w4.drewN m5)
   rw [<- J] at kd ⊢;have K5:=K4.trans kd;have bx:=bx.g kd;have l5:w5.cell? ⟨bV,bW,none⟩=some (.int .u32 (d5:Int)):=kd.cellN aX;clear h5 J aX K4 k4;by_cases c6:P%2=0
   ·have HN:HzD (¬ eR L M P Q e):=fun h=>by have:=h.2.1.2.1;omega
    have a5:(d5:Int)%2=0:=by omega
    rw [show d5%2=0 by omega] at aF;have H:=aD.o.trans K5;have a:=O.o _ H;obtain ⟨c0,c1,c2,c3,c4,c5,c6,c7⟩:=aZ a;have f:=cL a;have m:=aa (F.o.trans H);go_wp2_with fail;obtain ⟨Wf,o,⟨r0,r1,r2,r3,r4,r5,r6,r7⟩,z2⟩:=jV m.o (leR _) a;rw [o];exact bodyPost_ret (v:=.tuple #[.agg zeroKey,.int .i64 190]) (by simp [results,results16,go_sem,r0,r1,r2,r3,r4,r5,r6,r7]) rfl ⟨_,190,rfl,.inr ⟨rfl,HN.o,rfl⟩,el _,z2⟩
   have a5:(d5:Int)%2=1:=by omega
   rw [show d5%2=1 by omega] at aF;have h6:=oy _ P w5 bx;have bE:=sX bx;obtain ⟨t,ht⟩:=aj (aN P)
   rw [<- ht] at h6 bE;have aS:=aa ht;clear ht;go_wp2_with fail;refine h6.mono ?_;rintro r w6 ⟨rfl,rfl⟩;clear h6;by_cases c7:8192<t
   ·have HN:HzD (¬ eR L M P Q e):=fun h=>by have:=h.2.1.2.2;have:=aS.o;omega
    have g7:(8192:Int)<(t:Int):=by omega
    have H:=aD.o.trans K5;have a:=O.o _ H;obtain ⟨c0,c1,c2,c3,c4,c5,c6,c7⟩:=aZ a;have f:=cL a;have m:=aa (F.o.trans H);go_wp2_with fail;obtain ⟨Wf,o,⟨r0,r1,r2,r3,r4,r5,r6,r7⟩,z2⟩:=jV m.o (leR _) a;rw [o];exact bodyPost_ret (v:=.tuple #[.agg zeroKey,.int .i64 190]) (by simp [results,results16,go_sem,r0,r1,r2,r3,r4,r5,r6,r7]) rfl ⟨_,190,rfl,.inr ⟨rfl,HN.o,rfl⟩,el _,z2⟩
   have g7:¬ (8192:Int)<(t:Int):=by omega
   have q7:decide ((8192:Int)<(t:Int))=false:=cI g7;have bs:HzD (eI P):=⟨by omega,by omega,by have:=aS.o;omega⟩
   clear l5 bx aF a5;go_wp2_with fail;go_roundw
   case rel=>exact ⟨1,by omega,by go_num,(fun _=>bs.o),(fun h=>absurd h (by omega)),K5⟩
   case measure=>simp [intOf]
  ·have bx:=bu.o.g T.o;have h4:=jp 3 (by omega) wr;go_wp2_with fail;refine h4.mono ?_;rintro r w4 ⟨v4,rfl,b4,_,k4⟩;have K4:=T.o.trans k4;have bx:=bx.g k4;have h5:=mI _ v4 Q 3 w4 bx b4;clear h4 b4 l0 l1;by_cases c3:Q<3
   ·have HN:HzD (¬ eR L M P Q e):=fun h=>by have:=h.2.2.1.1;omega
    rw [fh c3] at h5;go_wp2_with fail;refine h5.mono ?_;rintro r bZ ⟨rfl,m5,rfl⟩;have K5:=aD.o.trans (K4.drewN m5);obtain ⟨w5,J⟩:=aj (w4.drewN m5)
    rw [<- J] at K5 ⊢;clear h5 J;have a:=O.o _ K5;obtain ⟨c0,c1,c2,c3,c4,c5,c6,c7⟩:=aZ a;have f:=cL a;have m:=aa (F.o.trans K5);go_wp2_with fail;obtain ⟨Wf,o,⟨r0,r1,r2,r3,r4,r5,r6,r7⟩,z2⟩:=jV m.o (leR _) a;rw [o];exact bodyPost_ret (v:=.tuple #[.agg zeroKey,.int .i64 190]) (by simp [results,results16,go_sem,r0,r1,r2,r3,r4,r5,r6,r7]) rfl ⟨_,190,rfl,.inr ⟨rfl,HN.o,rfl⟩,el _,z2⟩
   have bF:=nU (show 3<=Q by omega);have q5:decide (cY Q 3<0)=false:=cI bF;generalize cY Q 3=c5 at *;obtain ⟨bV,bW,d7,d6,d5,bB,dZ,aX,dT,dU⟩:=xP bx;cases bB
   have dQ:(0:Int)<(n2:Int):=by omega
   have aF:(d5:Int).tmod 2=((d5%2:Nat):Int):=by rw [jO (by omega)];omega
   go_wp2_with fail;refine h5.mono ?_;rintro r bZ ⟨rfl,m5,rfl⟩;have kd:=(ah af w4).drewN m5;obtain ⟨w5,J⟩:=aj (w4.drewN m5)
   rw [<- J] at kd ⊢;have K5:=K4.trans kd;have bx:=bx.g kd;have l5:w5.cell? ⟨bV,bW,none⟩=some (.int .u32 (d5:Int)):=kd.cellN aX;clear h5 J aX K4 k4;by_cases c6:Q%2=0
   ·have HN:HzD (¬ eR L M P Q e):=fun h=>by have:=h.2.2.1.2.1;omega
    have a5:(d5:Int)%2=0:=by omega
    rw [show d5%2=0 by omega] at aF;have H:=aD.o.trans K5;have a:=O.o _ H;obtain ⟨c0,c1,c2,c3,c4,c5,c6,c7⟩:=aZ a;have f:=cL a;have m:=aa (F.o.trans H);go_wp2_with fail;obtain ⟨Wf,o,⟨r0,r1,r2,r3,r4,r5,r6,r7⟩,z2⟩:=jV m.o (leR _) a;rw [o];exact bodyPost_ret (v:=.tuple #[.agg zeroKey,.int .i64 190]) (by simp [results,results16,go_sem,r0,r1,r2,r3,r4,r5,r6,r7]) rfl ⟨_,190,rfl,.inr ⟨rfl,HN.o,rfl⟩,el _,z2⟩
   have a5:(d5:Int)%2=1:=by omega
   rw [show d5%2=1 by omega] at aF;have h6:=oy _ Q w5 bx;have bE:=sX bx;obtain ⟨t,ht⟩:=aj (aN Q)
   rw [<- ht] at h6 bE;have aS:=aa ht;clear ht;go_wp2_with fail;refine h6.mono ?_;rintro r w6 ⟨rfl,rfl⟩;clear h6;by_cases c7:8192<t
   ·have HN:HzD (¬ eR L M P Q e):=fun h=>by have:=h.2.2.1.2.2;have:=aS.o;omega
    have g7:(8192:Int)<(t:Int):=by omega
    have H:=aD.o.trans K5;have a:=O.o _ H;obtain ⟨c0,c1,c2,c3,c4,c5,c6,c7⟩:=aZ a;have f:=cL a;have m:=aa (F.o.trans H);go_wp2_with fail;obtain ⟨Wf,o,⟨r0,r1,r2,r3,r4,r5,r6,r7⟩,z2⟩:=jV m.o (leR _) a;rw [o];exact bodyPost_ret (v:=.tuple #[.agg zeroKey,.int .i64 190]) (by simp [results,results16,go_sem,r0,r1,r2,r3,r4,r5,r6,r7]) rfl ⟨_,190,rfl,.inr ⟨rfl,HN.o,rfl⟩,el _,z2⟩
   have g7:¬ (8192:Int)<(t:Int):=by omega
   have q7:decide ((8192:Int)<(t:Int))=false:=cI g7;have bs:HzD (eI Q):=⟨by omega,by omega,by have:=aS.o;omega⟩
   clear l5 bx aF a5;go_wp2_with fail;go_roundw
   case rel=>exact ⟨2,by omega,by go_num,(fun _=>bL.o (by omega)),(fun _=>bs.o),K5⟩
   case measure=>simp [intOf]
  ·skip
   have hP:=bL.o (by omega);have hQ:=da.o (by omega);obtain ⟨en,rfl⟩:=aj wr
   have dB:=aD.o.trans T.o;have b1:=bt.o.g T.o;have b2:=bu.o.g T.o;have dW:cC P<=256:=jU hP.2.2;have dX:cC Q<=256:=jU hQ.2.2;have e2:am P<=128:=cX hP.2.2;have e3:am Q<=128:=cX hQ.2.2;have dR:=hP.1;have dS:=hQ.1;have dw:=aa hP;have dx:=aa hQ;clear l0 l1 bL da T hP hQ cd bt bu;have cr:=Id _ _ P Q en b1 b2;go_wp2_with fail;refine cr.mono ?_;rintro e eo ⟨d8,rfl,bd,_,bS⟩;have dC:=dB.trans bS;have b1:=b1.g bS;have b2:=b2.g bS;clear cr;have cs:=ri eo;go_wp2_with fail;refine cs.mono ?_;rintro e bq ⟨d9,rfl,cp,_,bl⟩;have ce:=dC.trans bl
   have b1:=b1.g bl;have b2:=b2.g bl;have bd:=bd.g bl;clear cs;have aV:=mI d8 d9 _ 1 bq bd cp;by_cases c8:Nat.gcd P Q=1
   case neg=>
    have HN:HzD (¬ eR L M P Q e):=fun h=>c8 h.2.2.2.1
    have d0:=xZ c8;have hq:(cY (Nat.gcd P Q) 1 == 0)=false:=by simpa using d0
    generalize cY (Nat.gcd P Q) 1=c13 at *;go_wp2_with fail;refine aV.mono ?_;rintro r bY ⟨rfl,a9,rfl⟩;have aU:=ce.drewN a9;obtain ⟨dp,I⟩:=aj (bq.drewN a9)
    rw [<- I] at aU ⊢;clear aV I;have a:=O.o _ aU;obtain ⟨c0,c1,c2,c3,c4,c5,c6,c7⟩:=aZ a;have f:=cL a;have m:=aa (F.o.trans aU);go_wp2_with fail;obtain ⟨Wf,o,⟨r0,r1,r2,r3,r4,r5,r6,r7⟩,z2⟩:=jV m.o (leR _) a;rw [o];exact bodyPost_ret (v:=.tuple #[.agg zeroKey,.int .i64 190]) (by simp [results,results16,go_sem,r0,r1,r2,r3,r4,r5,r6,r7]) rfl ⟨_,190,rfl,.inr ⟨rfl,HN.o,rfl⟩,el _,z2⟩
   rw [jz c8] at aV;have cb:=aa c8;clear c8;go_wp2_with fail;refine aV.mono ?_;rintro r bY ⟨rfl,a9,rfl⟩;have bm:=(ah af bq).drewN a9;obtain ⟨dp,I⟩:=aj (bq.drewN a9)
   rw [<- I] at bm ⊢;have aU:=ce.trans bm;have b1:=b1.g bm;have b2:=b2.g bm;clear aV I bd cp;have ct:=Dx _ _ P Q dp b1 b2;go_wp2_with fail;refine ct.mono ?_;rintro e ep ⟨ea,rfl,cq,_,bT⟩;have cf:=aU.trans bT;have b1:=b1.g bT;have b2:=b2.g bT;clear ct;have cu:=tH ea _ ep cq;go_wp2_with fail;refine cu.mono ?_;rintro r dq ⟨fa,rfl,rn,on,bU⟩;have cg:=cf.trans bU;have b1:=b1.g bU;have b2:=b2.g bU;obtain ⟨no,nl,nc,rfl,db,-,-,-,-⟩:=rn.open;have cc:HzD (∀ x,(Value.slice no nl nc).ownBlock=some x->w.heap.size<x):=fun x hx=>by
    rw [on] at hx;cases hx
    have:=cf.size;have:=y.o;omega
   have aG:nl=(cK P Q).length:=by rw [cK,ag];have:=db.o;rw [ag] at this;omega
   have aY:cC (P*Q)<=512:=by have:=lU P Q;omega
   have d3:am (P*Q)<=512:=mU aY;have e0:nl<=512:=by rw [aG,cK,ag];omega
   have rn:Row .u64 dq (.slice no nl nc) (cK P Q):=rn;have dv:=aa aG;clear cu cq db aG on;obtain ⟨EP,bD⟩:=aj (gU (cK P Q) e)
   have bf:=sI no nl nc (cK P Q) e he EP bD dq rn (ak (by omega) _ _);have ca:=aa bD;clear bD;by_cases c9:EP=0
   case neg=>
    have HN:HzD (¬ eR L M P Q e):=fun h=>c9 (ca.o.trans h.2.2.2.2.1)
    have g9:¬ (EP:Int)=0:=by omega
    go_wp2_with fail;refine bf.mono ?_;rintro r dr ⟨rfl,aM⟩;have bb:=cg.trans aM;clear bf;have a:=O.o _ bb;obtain ⟨c0,c1,c2,c3,c4,c5,c6,c7⟩:=aZ a;have f:=cL a;have m:=aa (F.o.trans bb);go_wp2_with fail;obtain ⟨Wf,o,⟨r0,r1,r2,r3,r4,r5,r6,r7⟩,z2⟩:=jV m.o (leR _) a;rw [o];exact bodyPost_ret (v:=.tuple #[.agg zeroKey,.int .i64 190]) (by simp [results,results16,go_sem,r0,r1,r2,r3,r4,r5,r6,r7]) rfl ⟨_,190,rfl,.inr ⟨rfl,HN.o,rfl⟩,el _,z2⟩
   subst c9;go_wp2_with fail;refine bf.mono ?_;rintro r dr ⟨rfl,aM⟩;have bb:=cg.trans aM;have b1:=b1.g aM;have b2:=b2.g aM;have rn:=rn.g aM;clear bf;have cv:=tH _ P dr b1;go_wp2_with fail;refine cv.mono ?_;rintro r eq ⟨fb,rfl,rp,_,bn⟩;have dD:=bb.trans bn;have b1:=b1.g bn;have b2:=b2.g bn;have rn:=rn.g bn;clear cv;have cx:=tH _ Q eq b2;go_wp2_with fail;refine cx.mono ?_;rintro r es ⟨fc,rfl,rq,_,a6⟩;have dE:=dD.trans a6;have b1:=b1.g a6;have b2:=b2.g a6;have rn:=rn.g a6;have rp:=rp.g a6;clear cx;obtain ⟨po,pl,pc,rfl,dc,-,-,-,-⟩:=rp.open;obtain ⟨qo,ql,qc,rfl,dd,-,-,-,-⟩:=rq.open
   have bN:pl=max (am P) 1:=by have:=dc.o;rw [ag] at this;omega
   have bP:ql=max (am Q) 1:=by have:=dd.o;rw [ag] at this;omega
   have bi:val (digs P (max (am P) 1))=P:=by rw [ay,aB ((aC P _).1 (by omega))]
   have bj:val (digs Q (max (am Q) 1))=Q:=by rw [ay,aB ((aC Q _).1 (by omega))]
   have cT:0=Ca P Q pl ql:=by unfold Ca;rw [aK,aK]
   obtain ⟨cw,bH⟩:=aj (digs (eW P Q) (max (am (eW P Q)) 1))
   obtain ⟨pw,bO⟩:=aj (digs P (max (am P) 1))
   obtain ⟨qw,bQ⟩:=aj (digs Q (max (am Q) 1))
   have a0:Digs pw:=by rw [bO];exact ak (by omega) _ _
   have a3:Digs qw:=by rw [bQ];exact ak (by omega) _ _
   rw [<- bO] at rp bi;rw [<- bQ] at rq bj;have cy:=Bh po qo pl ql pc qc pw qw 0 cw (by rw [bi,bj];exact cT) (by rw [bi,bj];exact bH) es rp rq a0 a3 (by omega) (by omega);have dt:=aa bH;clear dc dd bN bP bO bQ bH cT bi bj;go_wp2_with fail;refine cy.mono ?_;rintro r et ⟨fd,rfl,rl,_,bp⟩;have dF:=dE.trans bp;have b1:=b1.g bp;have b2:=b2.g bp;have rn:=rn.g bp;have bG:eW P Q<=P*Q:=by
    unfold eW;exact er (aI (em _ _) (by omega)) (by omega)
   have cU:=x8 dR dS;have cZ:cC (eW P Q)<=512:=aI (ef bG) aY;rw [dt.o] at rl;clear cy rp rq a0 a3;have cz:=jp e he et;go_wp2_with fail;refine cz.mono ?_;rintro e eu ⟨eb,rfl,be,_,a7⟩;have dG:=dF.trans a7;have b1:=b1.g a7;have b2:=b2.g a7;have rn:=rn.g a7;have rl:=rl.g a7;clear cz;obtain ⟨e6,e5,e4,rfl,dY,-,-,-,-⟩:=rl.open;have a4:(digs (eW P Q) (max (am (eW P Q)) 1)).length<=100000000:=by
    rw [ag];have:am (eW P Q)<=512:=mU cZ;omega
   have dg:val (digs (eW P Q) (max (am (eW P Q)) 1))=eW P Q:=by rw [ay,aB ((aC _ _).1 (by omega))]
   have cA:=rOf _ _ eu rl (ak (by omega) _ _) a4;go_wp2_with fail;refine cA.mono ?_;rintro e ev ⟨ec,rfl,bw,_,aO⟩;have ch:=dG.trans aO;have b1:=b1.g aO;have b2:=b2.g aO;have rn:=rn.g aO;have rl:=rl.g aO;have be:=be.g aO;clear cA;rw [dg] at bw;clear dg dY a4 rl;have aL:=vY eb ec e (eW P Q) ev be bw (by omega) (by have:=(dI e 2).2 (by omega);omega);by_cases c10:Nat.gcd e (eW P Q)=1
   case neg=>
    have HN:HzD (¬ eR L M P Q e):=fun h=>c10 h.2.2.2.2.2
    rw [cI c10] at aL;go_wp2_with fail;refine aL.mono ?_;rintro r ds ⟨ed,rfl,_,bM,_,aP⟩;obtain rfl:=bM c10;have bc:=ch.trans aP;clear aL;have a:=O.o _ bc;obtain ⟨c0,c1,c2,c3,c4,c5,c6,c7⟩:=aZ a;have f:=cL a;have m:=aa (F.o.trans bc);go_wp2_with fail;obtain ⟨Wf,o,⟨r0,r1,r2,r3,r4,r5,r6,r7⟩,z2⟩:=jV m.o (leR _) a;rw [o];exact bodyPost_ret (v:=.tuple #[.agg zeroKey,.int .i64 190]) (by simp [results,results16,go_sem,r0,r1,r2,r3,r4,r5,r6,r7]) rfl ⟨_,190,rfl,.inr ⟨rfl,HN.o,rfl⟩,el _,z2⟩
   rw [dV c10] at aL;go_wp2_with fail;refine aL.mono ?_;rintro r ds ⟨ed,rfl,hT,_,_,aP⟩;obtain ⟨d,cV,cW,c⟩:=hT c10;obtain ⟨eT,eS,eQ,rfl,-,-⟩:=c.length;have bc:=ch.trans aP;have b1:=b1.g aP;have b2:=b2.g aP;have rn:=rn.g aP;have br:=aa c10;clear aL hT be bw c10;have cB:=oX _ P ds b1;go_wp2_with fail;refine cB.mono ?_;rintro r ew ⟨rfl,rfl⟩;clear cB;have cD:=oX _ Q ew b2;go_wp2_with fail;refine cD.mono ?_;rintro r ey ⟨rfl,rfl⟩;clear cD;have dH:=bc;obtain ⟨ww,dh⟩:=aj (max (am P) (am Q))
   have dP:max ((am P:Nat):Int) ((am Q:Nat):Int)=(ww:Int):=by omega
   have d4:ww<=128:=by omega
   have aT:=aa dh;have b9:=aa cV;have du:=aa cW;have bC:=vY _ _ Q P ey b2 b1;have bK:Nat.gcd Q P=1:=by rw [ft];exact cb.o
   rw [dV bK] at bC;clear dh cV cW;go_wp2_with fail;refine bC.mono ?_;rintro r ez ⟨fe,rfl,hT,_,_,a8⟩;obtain ⟨u,de,df,g⟩:=hT bK;obtain ⟨e9,e8,e7,rfl,-,-⟩:=g.length;have ci:=dH.trans a8;have b1:=b1.g a8;have b2:=b2.g a8;have c:=c.g a8;have rn:=rn.g a8;have dy:=aa de;have dz:=aa df;clear bC hT de df bK;have eZ:cC d<=512:=aI (ef (eH b9.o)) cZ;have cE:=yU _ d nl ez c;go_wp2_with fail;refine cE.mono ?_;rintro r eA ⟨ff,rfl,i,di,aQ⟩;obtain ⟨aq,ad,V,rfl,-,-,-,-,-⟩:=i.open;have b0:HzD (∀ x,(Value.slice aq ad V).ownBlock=some x->w.heap.size<x):=fun x hx=>by
    rw [di] at hx;cases hx
    have:=ci.size;have:=y.o;omega
   have cj:=ci.trans aQ;have b1:=b1.g aQ;have b2:=b2.g aQ;have c:=c.g aQ;have g:=g.g aQ;have rn:=rn.g aQ;clear cE di;have cF:=yU _ P ww eA b1;go_wp2_with fail;refine cF.mono ?_;rintro r eB ⟨fg,rfl,j,dj,aH⟩;obtain ⟨ar,ae,X,rfl,-,-,-,-,-⟩:=j.open;have b3:HzD (∀ x,(Value.slice ar ae X).ownBlock=some x->w.heap.size<x):=fun x hx=>by
    rw [dj] at hx;cases hx
    have:=cj.size;have:=y.o;omega
   have ck:=cj.trans aH;have b1:=b1.g aH;have b2:=b2.g aH;have c:=c.g aH;have g:=g.g aH;have rn:=rn.g aH;have i:=i.g aH;clear cF dj;have cG:=yU _ Q ww eB b2;go_wp2_with fail;refine cG.mono ?_;rintro r eC ⟨fi,rfl,l,dk,aA⟩;obtain ⟨au,ai,Y,rfl,-,-,-,-,-⟩:=l.open;have b5:HzD (∀ x,(Value.slice au ai Y).ownBlock=some x->w.heap.size<x):=fun x hx=>by
    rw [dk] at hx;cases hx
    have:=ck.size;have:=y.o;omega
   have dJ:=ck.trans aA;have b1:=b1.g aA;have b2:=b2.g aA;have c:=c.g aA;have g:=g.g aA;have rn:=rn.g aA;have i:=i.g aA;have j:=j.g aA;clear cG dk;have cH:=ri eC;go_wp2_with fail;refine cH.mono ?_;rintro e eD ⟨ee,rfl,n,_,U⟩;have dK:=dJ.trans U;have b1:=b1.g U;have b2:=b2.g U;have c:=c.g U;have g:=g.g U;have rn:=rn.g U;have i:=i.g U;have j:=j.g U;have l:=l.g U;clear cH;have cJ:=vZ _ ee P 1 eD b1 n;go_wp2_with fail;refine cJ.mono ?_;rintro e eE ⟨eg,rfl,q,_,S⟩;have dL:=dK.trans S;have b1:=b1.g S;have b2:=b2.g S
   have c:=c.g S;have g:=g.g S;have rn:=rn.g S;have i:=i.g S;have j:=j.g S;have l:=l.g S;have n:=n.g S;clear cJ;have cM:=yS _ eg d (P-1) eE c q;go_wp2_with fail;refine cM.mono ?_;rintro e eF ⟨eh,rfl,A,_,N⟩;have cl:=dL.trans N;have b1:=b1.g N;have b2:=b2.g N;have c:=c.g N;have g:=g.g N;have rn:=rn.g N;have i:=i.g N;have j:=j.g N;have l:=l.g N;have n:=n.g N;have q:=q.g N;clear cM;have cN:=yU eh _ ww eF A;go_wp2_with fail;refine cN.mono ?_;rintro r eG ⟨fj,rfl,D,dl,G⟩
   obtain ⟨av,al,Z,rfl,-,-,-,-,-⟩:=D.open;have b6:HzD (∀ x,(Value.slice av al Z).ownBlock=some x->w.heap.size<x):=fun x hx=>by
    rw [dl] at hx;cases hx
    have:=cl.size;have:=y.o;omega
   have dM:=cl.trans G;have b1:=b1.g G;have b2:=b2.g G;have c:=c.g G;have g:=g.g G;have rn:=rn.g G;have i:=i.g G;have j:=j.g G;have l:=l.g G;have n:=n.g G;have q:=q.g G;have A:=A.g G;clear cN dl;have cO:=ri eG;go_wp2_with fail;refine cO.mono ?_;rintro e eJ ⟨ei,rfl,R,_,C⟩;have dN:=dM.trans C;have b1:=b1.g C;have b2:=b2.g C;have c:=c.g C;have g:=g.g C;have rn:=rn.g C;have i:=i.g C;have j:=j.g C;have l:=l.g C;have n:=n.g C;have q:=q.g C;have A:=A.g C;have D:=D.g C;clear cO
   have cP:=vZ _ ei Q 1 eJ b2 R;go_wp2_with fail;refine cP.mono ?_;rintro e eK ⟨ej,rfl,az,_,B⟩;have dO:=dN.trans B;have b1:=b1.g B;have b2:=b2.g B;have c:=c.g B;have g:=g.g B;have rn:=rn.g B;have i:=i.g B;have j:=j.g B;have l:=l.g B;have n:=n.g B;have q:=q.g B;have A:=A.g B;have D:=D.g B;have R:=R.g B;clear cP;have cQ:=yS _ ej d (Q-1) eK c az;go_wp2_with fail;refine cQ.mono ?_;rintro e eL ⟨ek,rfl,aJ,_,z⟩;have cm:=dO.trans z;have b1:=b1.g z;have b2:=b2.g z;have c:=c.g z;have g:=g.g z
   have rn:=rn.g z;have i:=i.g z;have j:=j.g z;have l:=l.g z;have n:=n.g z;have q:=q.g z;have A:=A.g z;have D:=D.g z;have R:=R.g z;have az:=az.g z;clear cQ;have cR:=yU ek _ ww eL aJ;go_wp2_with fail;refine cR.mono ?_;rintro r eM ⟨fk,rfl,ba,dm,s⟩;obtain ⟨aw,an,ab,rfl,-,-,-,-,-⟩:=ba.open;have b7:HzD (∀ x,(Value.slice aw an ab).ownBlock=some x->w.heap.size<x):=fun x hx=>by
    rw [dm] at hx;cases hx
    have:=cm.size;have:=y.o;omega
   have cn:=cm.trans s;have b1:=b1.g s;have b2:=b2.g s;have c:=c.g s;have g:=g.g s;have rn:=rn.g s;have i:=i.g s;have j:=j.g s;have l:=l.g s;have n:=n.g s;have q:=q.g s;have A:=A.g s;have D:=D.g s;have R:=R.g s;have az:=az.g s;have aJ:=aJ.g s;clear cR dm;have cS:=yU _ u ww eM g;go_wp2_with fail;refine cS.mono ?_;rintro r eN ⟨fl,rfl,bX,dn,p⟩;obtain ⟨ax,ap,ac,rfl,-,-,-,-,-⟩:=bX.open;have b8:HzD (∀ x,(Value.slice ax ap ac).ownBlock=some x->w.heap.size<x):=fun x hx=>by
    rw [dn] at hx;cases hx
    have:=cn.size;have:=y.o;omega
   have co:=cn.trans p;have b1:=b1.g p;have b2:=b2.g p;have c:=c.g p;have g:=g.g p;have rn:=rn.g p;have i:=i.g p;have j:=j.g p;have l:=l.g p;have n:=n.g p;have q:=q.g p;have A:=A.g p;have D:=D.g p;have R:=R.g p;have az:=az.g p;have aJ:=aJ.g p;have ba:=ba.g p;clear cS dn;have aR:=aa (⟨rn,i,j,l,D,ba,bX⟩:_/\_/\_/\_/\_/\_/\_);clear b1 b2 c g n q A R az aJ rn i j l D ba bX;have a:=O.o _ co;obtain ⟨c0,eO,eP,c3,c4,c5,c6,c7⟩:=aZ a;have f:=cL a;have m:=aa (F.o.trans co);go_wp2_with fail
   obtain ⟨z1,z2,z3⟩:=mC m.o (leR _) a (.slice no nl nc) (.int .u64 (e:Nat)) (.slice aq ad V) (.slice ar ae X) (.slice au ai Y) (.slice av al Z) (.slice aw an ab) (.slice ax ap ac);unfold ow at z1 z2 z3
   generalize ((((((((eN.setCell ⟨w.heap.size,0,none⟩ (.slice no nl nc)).setCell ⟨w.heap.size,1,none⟩ (.int .u64 (e:Nat))).setCell ⟨w.heap.size,2,none⟩ (.slice aq ad V)).setCell ⟨w.heap.size,3,none⟩ (.slice ar ae X)).setCell ⟨w.heap.size,4,none⟩ (.slice au ai Y)).setCell ⟨w.heap.size,5,none⟩ (.slice av al Z)).setCell ⟨w.heap.size,6,none⟩ (.slice aw an ab)).setCell ⟨w.heap.size,7,none⟩ (.slice ax ap ac))=Wf at *;obtain ⟨r0,r1,r2,r3,r4,r5,r6,r7⟩:=aZ z1;obtain ⟨y0,y1,y2,y3,y4,y5,y6⟩:=aR.o
   exact bodyPost_ret (v:=.tuple #[.agg #[.slice no nl nc,.int .u64 (e:Nat),.slice aq ad V,.slice ar ae X,.slice au ai Y,.slice av al Z,.slice aw an ab,.slice ax ap ac],.int .i64 0]) (by simp [results,results16,go_sem,r0,r1,r2,r3,r4,r5,r6,r7]) rfl ⟨_,0,rfl,.inl ⟨rfl,⟨⟨by omega,by omega⟩,dw.o,dx.o,cb.o,ca.o.symm,br.o⟩,_,_,_,_,_,_,_,d,u,rfl,y0.kept z3 (fun x hx ex=>by have:=cc.o x hx;omega),b9.o,du.o,(by rw [<- dv.o];exact y1.kept z3 (fun x hx ex=>by have:=b0.o x hx;omega)),(by rw [<- aT.o];exact y2.kept z3 (fun x hx ex=>by have:=b3.o x hx;omega)),(by rw [<- aT.o];exact y3.kept z3 (fun x hx ex=>by have:=b5.o x hx;omega)),(by rw [<- aT.o];exact y4.kept z3 (fun x hx ex=>by have:=b6.o x hx;omega)),(by rw [<- aT.o];exact y5.kept z3 (fun x hx ex=>by have:=b7.o x hx;omega)),dy.o,dz.o,(by rw [<- aT.o];exact y6.kept z3 (fun x hx ex=>by have:=b8.o x hx;omega))⟩,zL cc.o b0.o b3.o b5.o b6.o b7.o b8.o,z2⟩

theorem PrimeN.pos (h:PrimeN p):0<p:=by have:=h.1;omega

theorem PrimeN.dvd {d:Nat} (h:PrimeN p) (hd:d ∣ p):d=1\/d=p:=by
 have h0:=h.pos;have b:=mu h0 hd;have hm:=Nat.mod_eq_zero_of_dvd hd;rcases gG d 2 with h1 | h1
 ·have a:d=0\/d=1:=by omega
  rcases a with rfl | rfl
  ·simp at hm;omega
  ·exact .inl rfl
 ·rcases gG d p with h2 | h2
  ·exact absurd hm (h.2 d h1 h2)
  ·exact .inr (by omega)

theorem PrimeN.coprime {a:Nat} (h:PrimeN p) (ha:a%p≠0):Nat.Coprime p a:=by
 have hg:=Nat.gcd_dvd_left p a;rcases h.dvd hg with h1 | h1
 ·exact h1
 ·have:=Nat.gcd_dvd_right p a;rw [h1] at this;exact absurd (Nat.mod_eq_zero_of_dvd this) ha

theorem l9:∀ {l m:LN},l.Nodup->(∀ x ∈ l,x ∈ m)->m.length<=l.length->l.Perm m
 | [],m,_,_,h=>by
  have:m=[]:=ml.1 (by simpa using h);rw [this]
 | a :: l,m,hn,hs,h=>by
  have ha:=hs a (by simp);have hp:=List.perm_cons_erase ha;have hl:=hp.length_eq;rw [List.nodup_cons] at hn;refine List.Perm.trans (List.Perm.cons a (l9 hn.2 (fun x hx=>?_) ?_)) hp.symm
  ·have b:x≠a:=fun e=>by subst e;exact hn.1 hx
   exact (List.mem_erase_of_ne b).2 (hs x (by simp [hx]))
  ·simp at hl h;omega

def kL:LN->Nat
 | []=>1
 | a :: l=>a*kL l

theorem yJ {l m:LN} (h:l.Perm m):kL l=kL m:=by
 induction h with
 | nil=>rfl
 | cons a _ ih=>simp [kL,ih]
 | swap a b l=>simp only [kL];rw [<- bd,<- bd,aD a b]
 | trans _ _ h1 h2=>exact h1.trans h2

theorem sH (a p:Nat):∀ l:LN,kL (l.map fun x=>a*x%p)%p=a^l.length*kL l%p
 | []=>by simp [kL]
 | x :: l=>by
  simp only [jP,kL,dh];rw [cH,sH a p l,ep,<- cH,aG]
  congr 1
  rw [Nat.mul_mul_mul_comm,aD (a^l.length) a]

theorem mT:∀ {l:LN},(∀ x ∈ l,Nat.Coprime p x)->Nat.Coprime p (kL l)
 | [],_=>Nat.coprime_one_right p
 | x :: l,h=>Nat.Coprime.mul_right (h x (by simp)) (mT fun y hy=>h y (by simp [hy]))

theorem km {a b c:Nat} (hc:Nat.Coprime p c) (h:c*a%p=c*b%p):a%p=b%p:=by
 rcases Nat.le_total a b with hab | hab
 ·have h1:(c*b-c*a)%p=0:=jR h.symm;rw [<- li] at h1;have h2:=hc.dvd_of_dvd_mul_left (fE h1);obtain ⟨k,hk⟩:=h2;rw [show b=a+p*k by omega];simp
 ·have h1:(c*a-c*b)%p=0:=jR h;rw [<- li] at h1;have h2:=hc.dvd_of_dvd_mul_left (fE h1);obtain ⟨k,hk⟩:=h2;rw [show a=b+p*k by omega];simp

theorem yg {a:Nat} (h:PrimeN p) (ha:a%p≠0):a^(p-1)%p=1:=by
 have l:=h.1;have f:=h.coprime ha;have c:∀ x ∈ List.range' 1 (p-1),1<=x/\x<p:=fun x hx=>by
  rw [List.mem_range'_1] at hx;omega
 have d:((List.range' 1 (p-1)).map fun x=>a*x%p).Perm (List.range' 1 (p-1)):=by
  refine l9 ?_ ?_ (by simp)
  ·unfold List.Nodup;rw [List.pairwise_map];have i:List.Pairwise (fun a b=>a≠b) (List.range' 1 (p-1)):=List.nodup_range';refine List.Pairwise.imp_of_mem ?_ i;intro x y hx hy j e;have h1:=c x hx;have h2:=c y hy;have:=km f e;rw [aB h1.2,aB h2.2] at this;exact j this
  ·intro y hy;obtain ⟨x,hx,rfl⟩:=jv.1 hy;have h1:=c x hx;rw [List.mem_range'_1];have hlt:a*x%p<p:=bu;have k:a*x%p≠0:=fun e=>by
    have:=f.dvd_of_dvd_mul_left (fE e);have:=mu (by omega) this;omega
   omega
 have h1:=sH a p (List.range' 1 (p-1));rw [yJ d,List.length_range'] at h1;have g:Nat.Coprime p (kL (List.range' 1 (p-1))):=mT fun x hx=>by
  have:=c x hx;exact h.coprime (by rw [aB this.2];omega)
 have h2:kL (List.range' 1 (p-1))*1%p=kL (List.range' 1 (p-1))*a^(p-1)%p:=by
  rw [bI,aD _ (a^(p-1))];exact h1
 have h3:=km g h2;rw [<- h3,dH]

theorem yl {a m:Nat} (hm:1<m) (h:Nat.Coprime m a):∃ u,a*u%m=1:=by
 have c:((List.range m).map fun x=>a*x%m).Perm (List.range m):=by
  refine l9 ?_ ?_ (by simp)
  ·unfold List.Nodup;rw [List.pairwise_map];have d:List.Pairwise (fun a b=>a≠b) (List.range m):=List.nodup_range;refine List.Pairwise.imp_of_mem ?_ d;intro x y hx hy f e;have:=km h e;rw [aB (j8.1 hx),aB (j8.1 hy)] at this;exact f this
  ·intro y hy;obtain ⟨x,_,rfl⟩:=jv.1 hy;exact j8.2 (bu)
 have h1:1 ∈ List.range m:=j8.2 hm;obtain ⟨u,_,hu⟩:=jv.1 (c.mem_iff.2 h1);exact ⟨u,hu⟩

theorem kr {k:Nat} (hp:1<p) (h:x^k%p=1) (u:Nat):x^(k*u)%p=1:=by
 rw [aW,jx,h,Nat.one_pow,aB hp]

theorem sG:∀ (n:Nat),2<=n->∃ p,PrimeN p/\p ∣ n:=by
 intro n
 induction n using Nat.strongRecOn with
 | ind n ih=>
  intro hn;by_cases h:∀ d,2<=d->d<n->n%d≠0
  ·exact ⟨n,⟨hn,h⟩,Nat.dvd_refl n⟩
  ·have:∃ d,2<=d/\d<n/\n%d=0:=Classical.byContradiction fun hc=>h fun d h1 h2 h3=>hc ⟨d,h1,h2,h3⟩
   obtain ⟨d,h1,h2,h3⟩:=this;obtain ⟨p,hp,a⟩:=ih d h2 h1;exact ⟨p,hp,Nat.dvd_trans a (fE h3)⟩

theorem A8 (hp:PrimeN p) (hq:PrimeN q) (hx:x^q%p=1) (b:x%p≠1):q ∣ p-1:=by
 have f:=hp.1;have g:=hq.1;refine Classical.byContradiction fun c=>?_
 have d:x%p≠0:=fun e=>by
  rw [jx,e,Nat.zero_pow (by omega)] at hx;simp at hx
 have hf:=yg hp d;by_cases h1:p-1=1
 ·rw [h1,i8] at hf;exact b hf
 ·have hc:=hq.coprime (a:=p-1) (fun e=>c (fE e));obtain ⟨u,hu⟩:=yl (a:=q) (m:=p-1) (by omega) hc.symm;have he:q*u=(p-1)*(q*u/(p-1))+1:=by
   have:=dD (q*u) (p-1);omega
  have h2:=kr (by omega) hx u;rw [he,aL,i8,cH,kr (by omega) hf,iG,ep] at h2;exact b h2

theorem vI (hq:PrimeN q) (hn:1<n) (o:n<q*q) (hx:x^q%n=1) (hg:Nat.gcd (x-1) n=1):PrimeN n:=by
 refine ⟨hn,fun d hd l e=>?_⟩;have g:∀ p,PrimeN p->p ∣ n->q<p:=fun p hp b=>by
  have m:=hp.1;have h1:x^q%p=1:=by
   rw [<- nI _ b,hx,dH]
  have h2:x%p≠1:=fun e=>by
   have h3:p ∣ x-1:=fE (jR (by rw [e,dH]));have h4:=Nat.dvd_gcd h3 b;rw [hg] at h4;have:=mu (by omega) h4;omega
  obtain ⟨k,hk⟩:=A8 hp hq h1 h2;have j:0<k:=by
   rcases cE k with e | e
   ·subst e;omega
   ·exact e
  have:=bG q j;omega
 obtain ⟨c,hc⟩:=fE e;have i:2<=c:=by
  rcases gG c 2 with h1 | h1
  ·have h:c=0\/c=1:=by omega
   rcases h with rfl | rfl <;> omega
  ·exact h1
 obtain ⟨p,hp,a⟩:=sG d hd;obtain ⟨r,hr,f⟩:=sG c i;have h1:=g p hp (Nat.dvd_trans a ⟨c,hc⟩);have h2:=g r hr (Nat.dvd_trans f ⟨d,by rw [hc,aD]⟩);have h3:=mu (by omega) a;have h4:=mu (by omega) f;have:=er (show q<=d by omega) (show q<=c by omega);omega

theorem vK {t:Nat} (hp:PrimeN p) (ht:∃ v,t=(p-1)*v+1):x^t%p=x%p:=by
 have a:=hp.1;obtain ⟨v,rfl⟩:=ht;by_cases h0:x%p=0
 ·rw [jx,h0,Nat.zero_pow (by omega)];simp
 ·rw [aL,i8,cH,kr (by omega) (yg hp h0),iG,ep]

theorem uD {a b:Nat} (hc:Nat.Coprime p q) (h1:a%p=b%p) (h2:a%q=b%q):a%(p*q)=b%(p*q):=by
 rcases Nat.le_total a b with hab | hab
 ·have e1:=fE (jR h1.symm);have e2:=fE (jR h2.symm);obtain ⟨k,hk⟩:=Nat.Coprime.mul_dvd_of_dvd_of_dvd hc e1 e2;rw [show b=a+p*q*k by omega];simp
 ·have e1:=fE (jR h1);have e2:=fE (jR h2);obtain ⟨k,hk⟩:=Nat.Coprime.mul_dvd_of_dvd_of_dvd hc e1 e2;rw [show a=b+p*q*k by omega];simp

theorem rt {d:Nat} (hp:PrimeN p) (hq:PrimeN q) (hc:Nat.Coprime p q) (h1:∃ v,e*d=(p-1)*v+1) (h2:∃ v,e*d=(q-1)*v+1):x^(e*d)%(p*q)=x%(p*q):=
 uD hc (vK hp h1) (vK hq h2)

def pS (P Q e d u:Nat) (ns ds ps qs dps dqs qis:LN):Prop:=
 d<eW P Q/\e*d%eW P Q=1/\u<P/\Q*u%P=1/\ns=cK P Q/\ds=digs d (cK P Q).length/\ps=digs P (max (am P) (am Q))/\qs=digs Q (max (am P) (am Q))/\dps=digs (d%(P-1)) (max (am P) (am Q))/\dqs=digs (d%(Q-1)) (max (am P) (am Q))/\qis=digs u (max (am P) (am Q))

def KeyGood (ns ds ps qs dps dqs qis:LN) (e:Nat):Prop:=
 eR ps.length qs.length (val ps) (val qs) e/\∃ d u,pS (val ps) (val qs) e d u ns ds ps qs dps dqs qis

theorem pR {m a y:Nat} (hc:Nat.Coprime m a) (hx:x<m) (hy:y<m) (h1:a*x%m=1) (h2:a*y%m=1):x=y:=by
 have:=km hc (h1.trans h2.symm)
 rwa [aB hx,aB hy] at this

theorem Dv (M I B D j n q:OA) (L J H G y A z C i g m l p o e:Nat) (x v s t a b c:LN) (he:e<18446744073709551616) (E:Nat) (hE:(E=0/\KeyGood x v s t a b c e)\/(E=190/\¬ KeyGood x v s t a b c e)) (w:World) (hn:Row .u64 w (.slice M L J) x) (hd:Row .u64 w (.slice I H G) v) (hp:Row .u64 w (.slice B y A) s) (hq:Row .u64 w (.slice D z C) t) (aM:Row .u64 w (.slice j i g) a) (aN:Row .u64 w (.slice n m l) b) (aO:Row .u64 w (.slice q p o) c) (gp:Digs s) (gq:Digs t) (aV:y<=1000000) (aW:z<=1000000) :
  ClZ 7 #[.agg #[.slice M L J,.int .u64 (e:Nat),.slice I H G,.slice B y A,.slice D z C,.slice j i g,.slice n m l,.slice q p o]] w fun r w'=>r=.returned (.int .i64 (E:Nat))/\Kept af w w':=by
 obtain ⟨_,_,_,e1,aH,-,-,-,-⟩:=hp.open;cases e1
 obtain ⟨_,_,_,e1,aI,-,-,-,-⟩:=hq.open;cases e1
 obtain ⟨W1,ab⟩:=aj (w.alloc (.cells #[.slice M L J,.int .u64 (e:Nat),.slice I H G,.slice B y A,.slice D z C,.slice j i g,.slice n m l,.slice q p o] 26))
 have k1:Kept af w W1:=by rw [ab];exact (ah af w).alloc _
 have ad:W1.heap[w.heap.size]? = some (.cells #[.slice M L J,.int .u64 (e:Nat),.slice I H G,.slice B y A,.slice D z C,.slice j i g,.slice n m l,.slice q p o] 26 (0,0)):=by rw [ab];exact heap_alloc_new _ _
 have aT:HzD (∀ W,Kept af W1 W->W.heap[w.heap.size]? = some (.cells #[.slice M L J,.int .u64 (e:Nat),.slice I H G,.slice B y A,.slice D z C,.slice j i g,.slice n m l,.slice q p o] 26 (0,0))):=fun W k=>(k.block _ (lt_of_block ad) (fun f=>f)).trans ad
 have aJ:=Lo B D y z A C s t _ _ e rfl rfl he W1 (hp.g k1) (hq.g k1) gp gq aV aW;have HE:=aa hE;have ae:HzD (∀ W,Kept af w W->Row .u64 W (.slice M L J) x/\Row .u64 W (.slice I H G) v/\Row .u64 W (.slice B y A) s/\Row .u64 W (.slice D z C) t/\Row .u64 W (.slice j i g) a/\Row .u64 W (.slice n m l) b/\Row .u64 W (.slice q p o) c):=fun W k=>⟨hn.g k,hd.g k,hp.g k,hq.g k,aM.g k,aN.g k,aO.g k⟩
 have aE:=aa aH;have aF:=aa aI;obtain ⟨c0,c1,c2,c3,c4,c5,c6,c7⟩:=aZ ad;have aU:=aa ab;have aD:=aa k1;clear ab k1 ad hE hn hd hp hq aM aN aO gp gq aH aI;delta ClZ;go_in;go_wp2_with (rw [<- aU.o]);refine aJ.mono ?_;rintro r w2 ⟨kv,E2,rfl,Z,_,k2⟩;clear aJ c0 c1 c2 c3 c4 c5 c6 c7;rcases Z with ⟨rfl,hok,hat⟩ | ⟨rfl,hno,rfl⟩
 ·obtain ⟨vn,vd,vp,vq,aX,aY,a0,d,u,rfl,rn,aw,ax,rd,rp,rq,aA,aB,ay,az,aC⟩:=hat;obtain ⟨an,am,al,rfl,-,-,-,-,-⟩:=rn.open;obtain ⟨ak,ai,ag,rfl,-,-,-,-,-⟩:=rd.open;obtain ⟨aq,ap,ao,rfl,-,-,-,-,-⟩:=rp.open;obtain ⟨av,au,ar,rfl,-,-,-,-,-⟩:=rq.open;obtain ⟨P,O,N,rfl,-,-,-,-,-⟩:=aA.open;obtain ⟨T,S,Q,rfl,-,-,-,-,-⟩:=aB.open;obtain ⟨X,V,U,rfl,-,-,-,-,-⟩:=aC.open;obtain ⟨W3,ac⟩:=aj (w2.alloc (.cells #[.slice an am al,.int .u64 (e:Nat),.slice ak ai ag,.slice aq ap ao,.slice av au ar,.slice P O N,.slice T S Q,.slice X V U] 26))
  have k3:Kept af w2 W3:=by rw [ac];exact (ah af w2).alloc _
  have aP:W3.heap[w2.heap.size]? = some (.cells #[.slice an am al,.int .u64 (e:Nat),.slice ak ai ag,.slice aq ap ao,.slice av au ar,.slice P O N,.slice T S Q,.slice X V U] 26 (0,0)):=by rw [ac];exact heap_alloc_new _ _
  obtain ⟨d0,d1,d2,d3,d4,d5,d6,d7⟩:=aZ aP;have aL:=aT.o _ (k2.trans k3);obtain ⟨c0,c1,c2,c3,c4,c5,c6,c7⟩:=aZ aL;have Y:=aa (aD.o.trans (k2.trans k3));obtain ⟨tn,td,tp,tq,aQ,aR,aS⟩:=ae.o _ Y.o;have F:KeyGood x v s t a b c e↔pS (val s) (val t) e d u x v s t a b c:=by
   unfold KeyGood;rw [aE.o.o,aF.o.o];refine ⟨fun h=>?_,fun h=>⟨hok,d,u,h⟩⟩;obtain ⟨_,d',u',h'⟩:=h;have hd:d'=d:=pR (Nat.Coprime.symm hok.2.2.2.2.2) h'.1 aw h'.2.1 ax;have hu:u'=u:=pR hok.2.2.2.1 h'.2.2.1 ay h'.2.2.2.1 az;subst hd hu;exact h'
  obtain ⟨R,hR⟩:∃ R:Bool,R=true↔KeyGood x v s t a b c e:=by
   by_cases h:KeyGood x v s t a b c e
   ·exact ⟨true,by simp [h]⟩
   ·exact ⟨false,by simp [h]⟩
  have aK:=Fy an ak aq av P T X M I B D j n q am al ai ag ap ao au ar O N S Q V U L J H G y A z C i g m l p o e e _ _ _ _ _ _ _ x v s t a b c R (by
   rw [hR,F];unfold pS;exact ⟨fun h=>⟨rfl,h.2.2.2.2.1.symm,h.2.2.2.2.2.1.symm,h.2.2.2.2.2.2.1.symm,h.2.2.2.2.2.2.2.1.symm,h.2.2.2.2.2.2.2.2.1.symm,h.2.2.2.2.2.2.2.2.2.1.symm,h.2.2.2.2.2.2.2.2.2.2.symm⟩,fun h=>⟨aw,ax,ay,az,h.2.1.symm,h.2.2.1.symm,h.2.2.2.1.symm,h.2.2.2.2.1.symm,h.2.2.2.2.2.1.symm,h.2.2.2.2.2.2.1.symm,h.2.2.2.2.2.2.2.symm⟩⟩) W3 (rn.g k3) (rd.g k3) (rp.g k3) (rq.g k3) (aA.g k3) (aB.g k3) (aC.g k3) tn td tp tq aQ aR aS
  have aG:=aa ac;clear ac aP aL k2 k3 tn td tp tq aQ aR aS rn rd rp rq aA aB aC hok F aw ax ay az;cases R
  ·have HT:HzD (E=190):=by
    rcases HE.o with ⟨_,h⟩ | ⟨h,_⟩
    ·exact absurd (hR.2 h) (by decide)
    ·exact h
   clear hR;go_wp2_with (rw [<- aG.o]);refine aK.mono ?_;rintro r w4 ⟨rfl,k4⟩;go_wp2_with fail;go_ret;exact ⟨by rw [HT.o];rfl,Y.o.trans k4⟩
  ·have HT:HzD (E=0):=by
    rcases HE.o with ⟨h,_⟩ | ⟨_,h⟩
    ·exact h
    ·exact absurd (hR.1 rfl) h
   clear hR;go_wp2_with (rw [<- aG.o]);refine aK.mono ?_;rintro r w4 ⟨rfl,k4⟩;go_wp2_with fail;go_ret;exact ⟨by rw [HT.o];rfl,Y.o.trans k4⟩
 ·have HT:HzD (E=190):=by
   rcases HE.o with ⟨_,h⟩ | ⟨h,_⟩
   ·refine absurd ?_ hno;have:=h.1;rw [aE.o.o,aF.o.o] at this;exact this
   ·exact h
  have Y:=aa (aD.o.trans k2);clear hno k2;go_wp2_with fail;go_ret;exact ⟨by rw [HT.o];rfl,Y.o.alloc _⟩

def LG (w:World) (ao:OA) (n:Nat) (A:Nat->OA) (L C:Nat->Nat):Prop:=
 ∀ i,i<n->∃ b off,ao=some ⟨b,off,none⟩/\w.cell? ⟨b,off+i,none⟩=some (.slice (A i) (L i) (C i))

def fewL (L:Nat):Prop:=L<=20\/L=301\/L=131

theorem fewL.le (h:fewL L):L<=301:=by unfold fewL at h;omega

theorem GV (ao:OA) (n s:Nat) (A:Nat->OA) (L C:Nat->Nat) (w:World) (hn:n<=1000000000000) (R:Bool) (hR:R=true↔∀ i,i<n->fewL (L i)) (hc:LG w ao n A L C) :
  ClZ 40 #[.slice ao n s] w fun r w'=>r=.returned (.bool R)/\w'=w:=by
 have HR:=aa hR;have HC:=aa hc;clear hR hc;delta ClZ;go_in;go_wp2_with fail;go_loop [7] (fun i=>∃ k:Nat,k<=n/\i=.int .i64 (k:Int)/\HzD (∀ j,j<k->fewL (L j))) (fun i=>((n:Int)-intOf i).toNat)
 case atStart=>exact ⟨0,aQ _,rfl,fun j hj=>by omega⟩
 case round=>
  obtain ⟨k,hk,rfl,f⟩:=hrel;by_cases hkn:k<n
  ·have t:(k:Int)<(n:Int):=by omega
   obtain ⟨b,off,rfl,l⟩:=HC.o k hkn;obtain ⟨ao,q⟩:=aj (A k)
   obtain ⟨a,d⟩:=aj (L k)
   obtain ⟨cp,g⟩:=aj (C k)
   rw [<- q,<- d,<- g] at l;have m:=aa d;have o:HzD (fewL a->∀ j,j<k+1->fewL (L j)):=fun h j hj=>by
    by_cases e:j=k
    ·subst e;rw [<- d];exact h
    ·exact f.o j (by omega)
   clear q d g;by_cases h4:a<=20
   ·have p:¬ (a:Int) > 20:=by omega
    have c:¬ (20:Int)<(a:Int):=by omega
    go_wp2_with fail;go_round
    case rel=>exact ⟨k+1,by omega,by go_num,o.o (.inl h4)⟩
    case measure=>simp [intOf];omega
   ·have p:(a:Int) > 20:=by omega
    have c:(20:Int)<(a:Int):=by omega
    by_cases h5:a=301
    ·subst h5;clear h4 p c;go_wp2_with fail;go_round
     case rel=>exact ⟨k+1,by omega,by go_num,o.o (.inr (.inl rfl))⟩
     case measure=>simp [intOf];omega
    ·by_cases h6:a=131
     ·subst h6;clear h4 p c h5;go_wp2_with fail;go_round
      case rel=>exact ⟨k+1,by omega,by go_num,o.o (.inr (.inr rfl))⟩
      case measure=>simp [intOf];omega
     ·have x:¬ (a:Int)=301:=by omega
      have y:¬ (a:Int)=131:=by omega
      have d5:((a:Int) != 301)=true:=by simp;omega
      have d6:((a:Int) != 131)=true:=by simp;omega
      have v:decide ((20:Int)<(a:Int))=true:=dV c;have HF:HzD (R=false):=by
       cases e:R with
       | false=>rfl
       | true=>
        have:=HR.o.1 e k hkn;rw [<- m.o] at this;unfold fewL at this;omega
      go_wp2_with fail;go_ret;refine ⟨?_,rfl⟩;rw [HF.o];rfl
  ·have t:¬ (k:Int)<(n:Int):=by omega
   have e:k=n:=by omega
   subst e;have HT:HzD (R=true):=HR.o.2 f.o;go_wp2_with fail;go_ret;refine ⟨?_,rfl⟩;rw [HT.o];rfl

theorem Lr (W:World) (z:Nat):Row .u64 (W.alloc (.cells #[.int .u64 (z:Nat)] 24)) (.slice (some ⟨W.heap.size,0,none⟩) 1 1) [z]:=
 Row.of_own (base:=W.heap.size) (e:=24) (World.ownsRow_lit W #[.int .u64 (z:Nat)] 1 (leR _) (by unfold maxLen;omega) rfl)

theorem CY:¬ KeyGood [] [] [] [] [] [] [] 0:=fun h=>by
 have h1:3<=val []:=h.1.2.1.1;have h2:val []=0:=rfl;omega

structure KS where
 no:OA
 nl:Nat
 nc:Nat
 en:Nat
 dO:OA
 dl:Nat
 dc:Nat
 po:OA
 pl:Nat
 pc:Nat
 qo:OA
 ql:Nat
 qc:Nat
 dpo:OA
 dpl:Nat
 dpc:Nat
 dqo:OA
 dql:Nat
 dqc:Nat
 qio:OA
 qil:Nat
 qic:Nat

abbrev KS.v (t:KS):Array Value:=#[.slice t.no t.nl t.nc,.int .u64 ((t.en:Nat):Int),.slice t.dO t.dl t.dc,.slice t.po t.pl t.pc,.slice t.qo t.ql t.qc,.slice t.dpo t.dpl t.dpc,.slice t.dqo t.dql t.dqc,.slice t.qio t.qil t.qic]

structure KL where
 n:LN
 d:LN
 p:LN
 q:LN
 dp:LN
 dq:LN
 qi:LN

structure KS.Rows (w:World) (t:KS) (l:KL):Prop where
 n:Row .u64 w (.slice t.no t.nl t.nc) l.n
 d:Row .u64 w (.slice t.dO t.dl t.dc) l.d
 p:Row .u64 w (.slice t.po t.pl t.pc) l.p
 q:Row .u64 w (.slice t.qo t.ql t.qc) l.q
 dp:Row .u64 w (.slice t.dpo t.dpl t.dpc) l.dp
 dq:Row .u64 w (.slice t.dqo t.dql t.dqc) l.dq
 qi:Row .u64 w (.slice t.qio t.qil t.qic) l.qi

theorem KS.Rows.g {w':World} {t:KS} {l:KL} (h:t.Rows w l) (k:Kept af w w'):t.Rows w' l:=⟨h.n.g k,h.d.g k,h.p.g k,h.q.g k,h.dp.g k,h.dq.g k,h.qi.g k⟩

structure KL.Digs (l:KL):Prop where
 n:Proofs.YtpkmoamgpjcdeaaGreatDoor.Digs l.n
 d:Proofs.YtpkmoamgpjcdeaaGreatDoor.Digs l.d
 p:Proofs.YtpkmoamgpjcdeaaGreatDoor.Digs l.p
 q:Proofs.YtpkmoamgpjcdeaaGreatDoor.Digs l.q
 dp:Proofs.YtpkmoamgpjcdeaaGreatDoor.Digs l.dp
 dq:Proofs.YtpkmoamgpjcdeaaGreatDoor.Digs l.dq
 qi:Proofs.YtpkmoamgpjcdeaaGreatDoor.Digs l.qi

def KeySays (L M P Q e E en:Nat) (l:KL):Prop:=
 (E=0/\eR L M P Q e/\en=e/\∃ d u,pS P Q e d u l.n l.d l.p l.q l.dp l.dq l.qi)\/(E=190/\¬ eR L M P Q e/\en=0/\l=⟨[],[],[],[],[],[],[]⟩)

theorem KeySays.uniq {E E' en a:Nat} {l l':KL} (h:KeySays L M P Q e E en l) (h':KeySays L M P Q e E' a l'):E'=E/\a=en/\l'=l:=by
 rcases h with ⟨rfl,hok,rfl,d,u,h1⟩ | ⟨rfl,hno,rfl,rfl⟩
 ·rcases h' with ⟨rfl,_,rfl,d',u',h2⟩ | ⟨_,hno,_⟩
  ·have hd:d'=d:=pR (Nat.Coprime.symm hok.2.2.2.2.2) h2.1 h1.1 h2.2.1 h1.2.1;have hu:u'=u:=pR hok.2.2.2.1 h2.2.2.1 h1.2.2.1 h2.2.2.2.1 h1.2.2.2.1;subst hd hu;obtain ⟨_,_,_,_,a1,a2,a3,a4,a5,a6,a7⟩:=h1;obtain ⟨_,_,_,_,b1,b2,b3,b4,b5,b6,b7⟩:=h2;refine ⟨rfl,rfl,?_⟩;cases l
   cases l'
   simp only at a1 a2 a3 a4 a5 a6 a7 b1 b2 b3 b4 b5 b6 b7;rw [a1,a2,a3,a4,a5,a6,a7,b1,b2,b3,b4,b5,b6,b7]
  ·exact absurd hok hno
 ·rcases h' with ⟨_,hok,_⟩ | ⟨rfl,_,rfl,rfl⟩
  ·exact absurd hok hno
  ·exact ⟨rfl,rfl,rfl⟩

theorem KeySays.digs {E en:Nat} {l:KL} (h:KeySays L M P Q e E en l):l.Digs:=by
 rcases h with ⟨_,_,_,d,u,h1⟩ | ⟨_,_,_,rfl⟩
 ·obtain ⟨_,_,_,_,a1,a2,a3,a4,a5,a6,a7⟩:=h1;refine ⟨?_,?_,?_,?_,?_,?_,?_⟩
  ·rw [a1];exact ak (by omega) _ _
  ·rw [a2];exact ak (by omega) _ _
  ·rw [a3];exact ak (by omega) _ _
  ·rw [a4];exact ak (by omega) _ _
  ·rw [a5];exact ak (by omega) _ _
  ·rw [a6];exact ak (by omega) _ _
  ·rw [a7];exact ak (by omega) _ _
 ·exact ⟨Digs.nil _,Digs.nil _,Digs.nil _,Digs.nil _,Digs.nil _,Digs.nil _,Digs.nil _⟩

def Er (w:World) (L M P Q e:Nat) (r:Ending) (w':World):Prop:=∃ (t:KS) (E:Nat),r=.returned (.tuple #[.agg t.v,.int .i64 ((E:Nat):Int)])/\∃ l:KL,t.Rows w' l/\KeySays L M P Q e E t.en l/\kQ w.heap.size t.v/\Kept af w w'

theorem L4 {w':World} {r:Ending} (h:∃ kv E,r=.returned (.tuple #[.agg kv,.int .i64 ((E:Nat):Int)])/\((E=0/\eR L M P Q e/\KeyAt w' P Q e kv)\/(E=190/\¬ eR L M P Q e/\kv=zeroKey))/\kQ w.heap.size kv/\Kept af w w'):Er w L M P Q e r w':=by
 obtain ⟨kv,E,rfl,hc,hf,k⟩:=h;rcases hc with ⟨rfl,hok,hat⟩ | ⟨rfl,hno,rfl⟩
 ·obtain ⟨vn,vd,vp,vq,N,O,R,d,u,rfl,rn,G,H,rd,rp,rq,n,o,I,J,p⟩:=hat;obtain ⟨y,x,v,rfl,-,-,-,-,-⟩:=rn.open;obtain ⟨t,s,q,rfl,-,-,-,-,-⟩:=rd.open;obtain ⟨B,A,z,rfl,-,-,-,-,-⟩:=rp.open;obtain ⟨F,D,C,rfl,-,-,-,-,-⟩:=rq.open;obtain ⟨c,b,a,rfl,-,-,-,-,-⟩:=n.open;obtain ⟨i,g,f,rfl,-,-,-,-,-⟩:=o.open;obtain ⟨m,l,j,rfl,-,-,-,-,-⟩:=p.open;exact ⟨⟨y,x,v,e,t,s,q,B,A,z,F,D,C,c,b,a,i,g,f,m,l,j⟩,0,rfl,⟨_,_,_,_,_,_,_⟩,⟨rn,rd,rp,rq,n,o,p⟩,.inl ⟨rfl,hok,rfl,d,u,G,H,I,J,rfl,rfl,rfl,rfl,rfl,rfl,rfl⟩,hf,k⟩
 ·exact ⟨⟨none,0,0,0,none,0,0,none,0,0,none,0,0,none,0,0,none,0,0,none,0,0⟩,190,rfl,⟨[],[],[],[],[],[],[]⟩,⟨Row.nil _ _,Row.nil _ _,Row.nil _ _,Row.nil _ _,Row.nil _ _,Row.nil _ _,Row.nil _ _⟩,.inr ⟨rfl,hno,rfl,rfl⟩,hf,k⟩

open Go.RowKit Go.Deep Go.ChangeShapes

theorem Tryz.cells26:prog.cellsOf 26=8:=by kernel_rfl

theorem yq:∃ f0 f1 f2 f3 f4 f5 f6 f7:Field,prog.underlying 26=some (.struct #[f0,f1,f2,f3,f4,f5,f6,f7])/\(f0.type=23/\f1.type=24/\f2.type=23/\f3.type=23/\f4.type=23/\f5.type=23/\f6.type=23/\f7.type=23)/\f0.offset=0/\f1.offset=1/\f2.offset=2/\f3.offset=3/\f4.offset=4/\f5.offset=5/\f6.offset=6/\f7.offset=7:=
 ⟨_,_,_,_,_,_,_,_,underlying26,⟨rfl,rfl,rfl,rfl,rfl,rfl,rfl,rfl⟩,rfl,rfl,rfl,rfl,rfl,rfl,rfl,rfl⟩

theorem jk:prog.cellsOf 23=1:=by kernel_rfl

theorem AV:prog.cellsOf 24=1:=by kernel_rfl

section
variable {H : Type} {enc : TypeId × Value -> H} {w : World} {base : Nat} {held : Bool}

theorem jo {a:Nat} {cs:List Value} {x:DataW H × List MemPlace} (h:DataW.trod enc prog w base (fun _=>true) held a 23 cs=some x) :
  ∃ o n c ns,cs=[.slice o n c]/\Row .u64 w (.slice o n c) ns/\Digs ns:=by
 have hh:∃ v ns,cs=[v]/\Row .u64 w v ns/\Digs ns:=by
  rcases open_ints underlying23 underlying24 (by kernel_rfl) h with ⟨hcs,_⟩ | ⟨x,l,c,zs,hcs,_,hl,hm,hz,_,hcell,hwz⟩
  ·obtain ⟨ns,hr,hd⟩:=row_of_ints (w:=w) (k:=.u64) tV (zs:=[]) (.inl ⟨rfl,rfl,rfl,rfl⟩);exact ⟨_,ns,hcs,hr,hd⟩
  ·obtain ⟨ns,hr,hd⟩:=row_of_ints (w:=w) (k:=.u64) tV (.inr ⟨_,rfl,hl,hm,by simpa using hz,hcell,hwz⟩);exact ⟨_,ns,hcs,hr,hd⟩
 obtain ⟨v,ns,rfl,hr,hd⟩:=hh;obtain ⟨o,n,c,rfl,_⟩:=hr.open;exact ⟨o,n,c,ns,rfl,hr,hd⟩

theorem open_key {a:Nat} {cs:List Value} {x:DataW H × List MemPlace} (h:DataW.trod enc prog w base (fun _=>true) held a 26 cs=some x) :
  ∃ (t:KS) (l:KL),cs=t.v.toList/\t.Rows w l/\l.Digs/\t.en<18446744073709551616:=by
 obtain ⟨f0,f1,f2,f3,f4,f5,f6,f7,hu,⟨t0,t1,t2,t3,t4,t5,t6,t7⟩,o0,o1,o2,o3,o4,o5,o6,o7⟩:=yq;obtain ⟨xs,n,_,_,hl,b,hf⟩:=DataW.trod_struct hu h;rw [Tryz.cells26] at hl
 match xs,b with
 | [y0,y1,y2,y3,y4,y5,y6,y7],_=>
  have h0:=hf 0 f0 rfl;have h1:=hf 1 f1 rfl;have h2:=hf 2 f2 rfl;have h3:=hf 3 f3 rfl;have h4:=hf 4 f4 rfl;have h5:=hf 5 f5 rfl;have h6:=hf 6 f6 rfl;have h7:=hf 7 f7 rfl;rw [t0,o0,jk] at h0;rw [t1,o1,AV] at h1;rw [t2,o2,jk] at h2;rw [t3,o3,jk] at h3;rw [t4,o4,jk] at h4;rw [t5,o5,jk] at h5;rw [t6,o6,jk] at h6;rw [t7,o7,jk] at h7;obtain ⟨no,nl,nc,ln,e0,r0,d0⟩:=jo h0;obtain ⟨k,e1,_,hk⟩:=DataW.trod_int underlying24 h1;obtain ⟨dO,dl,dc,ld,e2,r2,d2⟩:=jo h2;obtain ⟨po,pl,pc,lp,e3,r3,d3⟩:=jo h3;obtain ⟨qo,ql,qc,lq,e4,r4,d4⟩:=jo h4;obtain ⟨e,d,c,m,e5,r5,d5⟩:=jo h5
  obtain ⟨i,g,f,o,e6,r6,d6⟩:=jo h6;obtain ⟨s,r,q,p,e7,r7,d7⟩:=jo h7;obtain ⟨j,y⟩:=bounds_u64 hk;obtain ⟨en,rfl⟩:=eN j
  match cs,hl with
  | [c0,c1,c2,c3,c4,c5,c6,c7],_=>
   simp at e0 e1 e2 e3 e4 e5 e6 e7;subst e0 e1 e2 e3 e4 e5 e6 e7;exact ⟨⟨no,nl,nc,en,dO,dl,dc,po,pl,pc,qo,ql,qc,e,d,c,i,g,f,s,r,q⟩,⟨ln,ld,lp,lq,m,o,p⟩,rfl,⟨r0,r2,r3,r4,r5,r6,r7⟩,⟨d0,d2,d3,d4,d5,d6,d7⟩,by show en<_;omega⟩

end

end Go.Proofs.YtpkmoamgpjcdeaaGreatDoor
