/- Put together of: BigM Prm2 Key1 Key2 Bev1. -/
import Derived.Test.YtcemlfokmjjiaaaGreatDoorPm4

namespace Go.Proofs.YtcemlfokmjjiaaaGreatDoor
set_option maxRecDepth 100000
set_option maxHeartbeats 4000000
open Go.RowKit

attribute [local go_sem ↓] Go.wp_at_zero Go.wp_at_succ

theorem mn (u v:Value) (A M:Nat) (w:World) (hu:IsBig w u A) (hv:IsBig w v M) (hM:0<M) (a:aF A≤10000000) :
  Calls Tryz.prog 67 #[u,v] w fun r w'=>∃ v',r=.returned v'∧IsBig w' v' (A%M)∧(∀ b,v'.ownBlock=some b→u.ownBlock=some b∨w.heap.size≤b)∧Kept af w w':=by
 have hD:=lZ u v A M w hu hv hM a;clear hu hv hM a;go_enter Tryz.func67,Tryz.ntmps67;go_wp2_with fail;refine hD.mono ?_;rintro e w1 ⟨v1,v2,rfl,b1,b2,o1,o2,k⟩;go_wp2;go_ret;exact ⟨v2,rfl,b2,o2,k⟩

theorem jN (u v m:Value) (A B M:Nat) (w:World) (hu:IsBig w u A) (hv:IsBig w v B) (hm:IsBig w m M) (hM:0<M) (a:aF A≤100000000) (c:aF B≤100000000) (d:aF (A*B)≤10000000) :
  Calls Tryz.prog 111 #[u,v,m] w fun r w'=>∃ v',r=.returned v'∧IsBig w' v' (A*B%M)∧(∀ b,v'.ownBlock=some b→w.heap.size≤b)∧Kept af w w':=by
 have hD:=xE u v A B w hu hv a c;clear hu hv a c;go_enter Tryz.func111,Tryz.ntmps111;go_wp2_with fail;refine hD.mono ?_;rintro e w1 ⟨v1,rfl,b1,o1,k1⟩;go_wp2_with fail;refine (mn v1 m (A*B) M w1 b1 (hm.grew k1) hM d).mono ?_;rintro e w2 ⟨v2,rfl,b2,o2,k2⟩;go_wp2;go_ret;exact ⟨v2,rfl,b2,fun b hb=>(o2 b hb).elim (fun h=>o1 b h) (fun h=>Nat.le_trans k1.size h),k1.trans k2⟩

theorem ym (u v m:Value) (A B M:Nat) (w:World) (hu:IsBig w u A) (hv:IsBig w v B) (hm:IsBig w m M) (hB:B≤A+M) (f:aF A≤100000000) (h:aF M≤100000000) :
  Calls Tryz.prog 110 #[u,v,m] w fun r w'=>∃ v',r=.returned v'∧IsBig w' v' (if B≤A then A-B else A+M-B)∧(∀ b,v'.ownBlock=some b→w.heap.size≤b)∧Kept af w w':=by
 have hC:=fw u v A B w hu hv;by_cases hlt:A<B
 ·rw [bu hlt] at hC;rw [if_neg (by omega)];clear hlt;go_enter Tryz.func110,Tryz.ntmps110;go_wp2_with fail;refine hC.mono ?_;rintro e w1 ⟨rfl,n1,rfl⟩;have k1:Kept af w (w.drewN n1):=(ah _ _).drewN n1;go_wp2_with fail;refine (xG u m A M _ (hu.grew k1) (hm.grew k1) f h).mono ?_;rintro e w2 ⟨v2,rfl,b2,o2,k2⟩;have c:=k1.trans k2;go_wp2_with fail;refine (kK v2 v (A+M) B _ b2 (hv.grew c) hB).mono ?_;rintro e w3 ⟨v3,rfl,b3,o3,k3⟩;go_wp2;go_ret;exact ⟨v3,rfl,b3,fun b hb=>Nat.le_trans c.size (o3 b hb),c.trans k3⟩
 ·have g:¬ aH A B<0:=by unfold aH;rw [if_neg hlt];split <;> decide
  have d:B≤A:=by omega
  rw [if_pos d];obtain ⟨cc,a⟩:∃ cc,cc=aH A B:=⟨_,rfl⟩
  rw [← a] at hC g;clear a hlt;go_enter Tryz.func110,Tryz.ntmps110;go_wp2_with fail;refine hC.mono ?_;rintro e w1 ⟨rfl,n1,rfl⟩;have k1:Kept af w (w.drewN n1):=(ah _ _).drewN n1;go_wp2_with fail;refine (kK u v A B _ (hu.grew k1) (hv.grew k1) d).mono ?_;rintro e w3 ⟨v3,rfl,b3,o3,k3⟩;go_wp2;go_ret;exact ⟨v3,rfl,b3,fun b hb=>Nat.le_trans k1.size (o3 b hb),k1.trans k3⟩

attribute [local go_sem ↓] Go.wp_at_zero Go.wp_at_succ

def cellN (w:World) (a:Addr):Nat:=
 match w.cell? a with
 | some (.int _ z)=>z.toNat
 | _=>0

def vT (w:World):Value→Nat
 | .slice (some a) n _=>val ((List.range n).map fun i=>cellN w ⟨a.block,a.off+i,none⟩) 4294967296
 | _=>0

theorem IsBig.of {w:World} {v:Value} {V:Nat} (h:IsBig w v V):vT w v=V:=by
 obtain ⟨ds,h1,_,_,rfl,_⟩:=h;obtain ⟨ao,cap,rfl,_,_,_,hc⟩:=h1;cases ao with
 | none=>
  have:ds=[]:=by
   rcases ds with _ | ⟨d,r⟩
   ·rfl
   ·obtain ⟨b,off,e,_⟩:=hc 0 (by simp);cases e
  subst this;rfl
 | some a=>
  show val ((List.range ds.length).map fun i=>cellN w ⟨a.block,a.off+i,none⟩) 4294967296=_
  congr 1
  refine List.ext_getElem (by simp) (fun i h1 h2=>?_);obtain ⟨b,off,e,c⟩:=hc i h2;cases e
  rw [List.getElem_map,List.getElem_range];unfold cellN;rw [c,List.getD_eq_getElem?_getD,List.getElem?_eq_getElem h2];simp

theorem IsBig.length {w:World} {v:Value} {V:Nat} (h:IsBig w v V):∃ ao n cap,v=.slice ao n cap∧Hid (n=aF V)∧n≤1000000000:=by
 obtain ⟨ds,h1,h2,h3,h4,h5⟩:=h;obtain ⟨ao,n,cap,e,hN,_⟩:=h1.open;refine ⟨ao,n,cap,e,?_,by rw [← hN.out];exact h5⟩;have:=dm h2 h3;rw [h4] at this;unfold Hid;rw [← this,hN.out]

theorem iY {A:Nat} (h:0<A):0<aF A:=by
 rcases Nat.eq_zero_or_pos (aF A) with h0 | h0
 ·have:=(aI A 0).1 (by omega);rw [Nat.pow_zero] at this;omega
 ·exact h0

theorem AN (u v:Value) (A B:Nat) (w:World) (hu:IsBig w u A) (hv:IsBig w v B) (c:aF A≤10000000) (d:aF B≤10000000) :
  Calls Tryz.prog 32 #[u,v] w fun r w'=>∃ v',r=.returned v'∧IsBig w' v' (Nat.gcd A B)∧(∀ b,v'.ownBlock=some b→u.ownBlock=some b∨v.ownBlock=some b∨w.heap.size≤b)∧Kept af w w':=by
 go_enter Tryz.func32,Tryz.ntmps32;go_wp2_with fail;go_loopw [0,1] (fun a b wr=>∃ (C D:Nat),IsBig wr a C∧IsBig wr b D∧Hid (Nat.gcd C D=Nat.gcd A B)∧Hid (aF C≤10000000)∧Hid (aF D≤10000000)∧Hid (∀ x,a.ownBlock=some x→u.ownBlock=some x∨v.ownBlock=some x∨w.heap.size≤x)∧Hid (∀ x,b.ownBlock=some x→u.ownBlock=some x∨v.ownBlock=some x∨w.heap.size≤x)∧Kept af w wr) (fun _ b wr=>vT wr b)
 case atStart=>exact ⟨A,B,hu,hv,rfl,c,d,fun x h=>.inl h,fun x h=>.inr (.inl h),ah _ _⟩
 case round=>
  clear hu hv c d;obtain ⟨C,D,hc,hd,hg,lc,ld,oc,od,hk⟩:=hrel;obtain ⟨ao,n,cap,rfl,hn,k⟩:=hd.length;rcases Nat.eq_zero_or_pos D with h0 | h0
  ·have i:n=0:=by rw [hn.out,h0];rfl
   subst i;have g:Hid (C=Nat.gcd A B):=by have:=hg.out;rw [h0,Nat.gcd_zero_right] at this;exact this
   clear hg h0 hn;go_wp2;go_ret;exact ⟨_,rfl,by rw [← g.out];exact hc,oc.out,hk⟩
  ·have j:0<n:=by rw [hn.out];exact iY h0
   have hM:=mn _ _ C D wr hc hd h0 lc.out;have hlt:=Nat.mod_lt C h0;have f:=hd.of;go_wp2_with fail;refine hM.mono ?_;rintro e w1 ⟨v1,rfl,b1,o1,k1⟩;go_wp2;go_roundw
   case rel=>exact ⟨D,C%D,hd.grew k1,b1,by unfold Hid;rw [← hg.out,Nat.gcd_comm D,← Nat.gcd_rec,Nat.gcd_comm],ld,Nat.le_trans (aZ (Nat.mod_le _ _)) lc.out,od,fun x hx=>(o1 x hx).elim (oc.out x) (fun h=>.inr (.inr (Nat.le_trans hk.size h))),hk.trans k1⟩
   case measure=>rw [b1.of,f];exact hlt

attribute [local go_sem ↓] Go.wp_at_zero Go.wp_at_succ

theorem iX (A B:Nat):aF (A*B)≤aF A+aF B:=by
 have h1:=(aI A _).1 (leR _);have h2:=(aI B _).1 (leR _);refine (aI _ _).2 ?_;rw [Nat.pow_add];exact Nat.mul_lt_mul'' h1 h2

theorem jh (A M:Nat) (hM:0<M):aF (A%M)≤aF M:=aZ (Nat.le_of_lt (Nat.mod_lt _ hM))

theorem vE (A E M j:Nat) (hb:E/2^j%2=0):(A^(E/2^(j+1))%M)*(A^(E/2^(j+1))%M)%M=A^(E/2^j)%M:=by
 rw [← Nat.mul_mod,← Nat.pow_add];have:E/2^(j+1)=E/2^j/2:=by rw [Nat.pow_succ,← Nat.div_div_eq_div_mul]
 rw [this];generalize E/2^j=q at *;rw [show q/2+q/2=q by omega]

theorem yf (A E M j:Nat) (hb:E/2^j%2=1):((A^(E/2^(j+1))%M)*(A^(E/2^(j+1))%M)%M)*(A%M)%M=A^(E/2^j)%M:=by
 rw [← Nat.mul_mod (A^(E/2^(j+1))) (A^(E/2^(j+1))) M,← Nat.mul_mod,← Nat.pow_add,← Nat.pow_succ];have:E/2^(j+1)=E/2^j/2:=by rw [Nat.pow_succ,← Nat.div_div_eq_div_mul]
 rw [this];generalize E/2^j=q at *;rw [show (q/2+q/2).succ=q by omega]

theorem zf (u x m:Value) (A E M:Nat) (w:World) (hu:IsBig w u A) (hx:IsBig w x E) (hm:IsBig w m M) (hM:0<M) (v:aF A≤10000000) (p:aF M≤1000000) :
  Calls Tryz.prog 129 #[u,x,m] w fun r w'=>∃ v',r=.returned v'∧IsBig w' v' (A^E%M)∧(∀ b,v'.ownBlock=some b→w.heap.size≤b)∧Kept af w w':=by
 have hS:=bY 1 (by omega) w;have F:=yA hx;have hB:=fun W (hk:Kept af w W)=>iV x E W (hx.grew hk)
 have t:aF 1≤10000000:=Nat.le_trans ((aI 1 1).2 (by omega)) (by omega);go_enter Tryz.func129,Tryz.ntmps129;go_wp2_with fail;refine hS.mono ?_;rintro e w1 ⟨v1,rfl,b1,o1,k1⟩;clear hS;go_wp2_with fail;refine (mn v1 m 1 M w1 b1 (hm.grew k1) hM t).mono ?_;rintro e w2 ⟨v2,rfl,b2,o2,k2⟩;have f:=k1.trans k2;have s:∀ b,v2.ownBlock=some b→w.heap.size≤b:=fun b hb=>(o2 b hb).elim (o1 b) (fun h=>Nat.le_trans k1.size h)
 clear b1 o1 k1 o2 k2 t;go_wp2_with fail;refine (mn u m A M w2 (hu.grew f) (hm.grew f) hM v).mono ?_;rintro e w3 ⟨v3,rfl,b3,o3,k3⟩;have y:=f.trans k3;have n:=b2.grew k3;clear b2 f k3 o3 hu v;go_wp2_with fail;refine (hB _ y).mono ?_;rintro e w4 ⟨rfl,rfl⟩;clear hB;have l:Hid (1%M=A^(E/2^aw E)%M):=by
  unfold Hid;rw [Nat.div_eq_of_lt ((aB E _).1 (leR _)),Nat.pow_zero]
 obtain ⟨bl,a⟩:∃ bl,bl=aw E:=⟨_,rfl⟩
 rw [← a] at F l;rw [← a];clear a;rw [l.out] at n;clear l;go_wp2_with fail;go_loopw [7,8] (fun o i wr=>∃ k:Nat,k≤bl∧i=.int .i64 ((k:Int)-1)∧IsBig wr o (A^(E/2^k)%M)∧Hid (∀ b,o.ownBlock=some b→w.heap.size≤b)∧Kept af w4 wr) (fun _ i _=>(intOf i+1).toNat)
 case atStart=>exact ⟨bl,leR _,by go_num,n,s,ah _ _⟩
 case round=>
  clear n s;obtain ⟨k,hk,rfl,ho,B,d⟩:=hrel;have KW:=y.trans d;cases k with
  | zero=>
   rw [Nat.pow_zero,Nat.div_one] at ho;go_wp2;go_ret;exact ⟨_,rfl,ho,B.out,KW⟩
  | succ j=>
   obtain ⟨P,hP⟩:∃ P,P=A^(E/2^(j+1))%M:=⟨_,rfl⟩
   rw [← hP] at ho;have D:aF P≤1000000:=by rw [hP];exact Nat.le_trans (jh _ _ hM) p
   have C:=iX P P;have c:=fun W (hk:Kept af w W)=>xV x E (j:Int) W (hx.grew hk) (by omega)
   rw [eP] at c;have q:=jN _ _ m P P M wr ho ho (hm.grew KW) hM (by omega) (by omega) (by omega);have H:aF (P*P%M)≤1000000:=Nat.le_trans (jh _ _ hM) p;have G:aF (A%M)≤1000000:=Nat.le_trans (jh _ _ hM) p;have z:=iX (P*P%M) (A%M);have g:aF (P*P%M*(A%M))≤10000000:=by omega
   clear C z D;by_cases hb:E/2^j%2=0
   ·have hz:Hid (P*P%M=A^(E/2^j)%M):=by unfold Hid;rw [hP];exact vE A E M j hb
    rw [hb] at c;clear hb hP ho;go_wp2_with fail;refine q.mono ?_;rintro e w5 ⟨v5,rfl,b5,o5,k5⟩;go_wp2_with fail;refine (c _ (KW.trans k5)).mono ?_;rintro e w6 ⟨rfl,rfl⟩;go_wp2;go_roundw
    case rel=>exact ⟨j,by omega,by go_num,by rw [← hz.out];exact b5,fun b hb=>Nat.le_trans KW.size (o5 b hb),d.trans k5⟩
    case measure=>simp [intOf]
   ·have h1:E/2^j%2=1:=by omega
    have hz:Hid (P*P%M*(A%M)%M=A^(E/2^j)%M):=by unfold Hid;rw [hP];exact yf A E M j h1
    rw [h1] at c;clear hb hP ho h1;go_wp2_with fail;refine q.mono ?_;rintro e w5 ⟨v5,rfl,b5,o5,k5⟩;go_wp2_with fail;refine (c _ (KW.trans k5)).mono ?_;rintro e w6 ⟨rfl,rfl⟩;go_wp2_with fail;refine (jN v5 v3 m (P*P%M) (A%M) M w6 b5 (b3.grew (d.trans k5)) (hm.grew (KW.trans k5)) hM (by omega) (by omega) g).mono ?_;rintro e w7 ⟨v7,rfl,b7,o7,k7⟩;go_wp2;go_roundw
    case rel=>exact ⟨j,by omega,by go_num,by rw [← hz.out];exact b7,fun b hb=>Nat.le_trans (KW.trans k5).size (o7 b hb),(d.trans k5).trans k7⟩
    case measure=>simp [intOf]

attribute [local go_sem ↓] Go.wp_at_zero Go.wp_at_succ

def jq (A M T R:Nat):Prop:=(M:Int) ∣ (A:Int)*T-R

theorem nZ (A M:Nat):jq A M 0 M:=by
 unfold jq;exact ⟨-1,by simp⟩

theorem oC (A M:Nat):jq A M 1 (A%M):=by
 unfold jq;refine ⟨((A/M:Nat):Int),?_⟩;have h:((M*(A/M)+A%M:Nat):Int)=A:=by rw [Nat.div_add_mod]
 rw [Int.natCast_add,Int.natCast_mul] at h;omega

theorem qY {A M T0 T1 R0 R1:Nat} (h0:jq A M T0 R0) (h1:jq A M T1 R1) (S:Nat) (hM:0<M)
  (hS:S=if R0/R1*T1%M≤T0 then T0-R0/R1*T1%M else T0+M-R0/R1*T1%M):jq A M S (R0%R1):=by
 unfold jq at *;obtain ⟨a,ha⟩:=h0;obtain ⟨b,hb⟩:=h1;have hq:((R1*(R0/R1)+R0%R1:Nat):Int)=R0:=by rw [Nat.div_add_mod]
 have hz:((M*(R0/R1*T1/M)+R0/R1*T1%M:Nat):Int)=((R0/R1*T1:Nat):Int):=by rw [Nat.div_add_mod]
 have d:=Nat.mod_lt (R0/R1*T1) hM;generalize R0/R1*T1/M=k at *;generalize hZ:R0/R1*T1%M=Z at *;clear hZ;generalize R0/R1=q at *;generalize R0%R1=r at *
 push_cast at hq hz
 by_cases hc:Z≤T0
 ·rw [if_pos hc] at hS;have c:(S:Int)=T0-Z:=by omega
  refine ⟨a-q*b+A*k,?_⟩;rw [c]
  grind
 ·rw [if_neg hc] at hS;have c:(S:Int)=T0+M-Z:=by omega
  refine ⟨a-q*b+A*k+A,?_⟩;rw [c]
  grind

theorem vI {A M T:Nat} (h:jq A M T 1) (hM:1<M):A*T%M=1:=by
 unfold jq at h;obtain ⟨k,hk⟩:=h;have h1:((A*T:Nat):Int)=M*k+1:=by push_cast;omega
 have h2:((A*T%M:Nat):Int)=1:=by
  rw [Int.natCast_emod,h1,Int.add_comm,Int.add_mul_emod_self_left];exact Int.emod_eq_of_lt (by omega) (by omega)
 omega

theorem pA {T0 Z M:Nat} (h0:T0<M) (hz:Z<M):(if Z≤T0 then T0-Z else T0+M-Z)<M:=by
 split <;> omega

theorem oF (u m:Value) (A M:Nat) (w:World) (hu:IsBig w u A) (hm:IsBig w m M) (hM:1<M) (p:aF A≤10000000) (j:aF M≤1000000) :
  Calls Tryz.prog 64 #[u,m] w fun r w'=>∃ v',r=.returned (.tuple #[v',.bool (decide (Nat.gcd A M=1))])∧(Nat.gcd A M=1→∃ T,T<M∧A*T%M=1∧IsBig w' v' T)∧(Nat.gcd A M≠1→v'=.slice none 0 0)∧(∀ b,v'.ownBlock=some b→w.heap.size≤b)∧Kept af w w':=by
 have hD:=mn u m A M w hu hm (by omega) p;have hS:=fun W=>bY 1 (by omega) W
 clear hu p;have q:Hid (Nat.gcd M (A%M)=Nat.gcd A M):=by unfold Hid;rw [Nat.gcd_comm M,← Nat.gcd_rec,Nat.gcd_comm]
 go_enter Tryz.func64,Tryz.ntmps64;go_wp2_with fail;refine hD.mono ?_;rintro e w1 ⟨v1,rfl,b1,o1,k1⟩;clear hD;go_wp2_with fail;refine (hS _).mono ?_;rintro e w2 ⟨v2,rfl,b2,o2,k2⟩;have k:=k1.trans k2;go_wp2_with fail;go_loopw [6,7,8,9] (fun r0 r1 t0 t1 wr=>∃ (R0 R1 T0 T1:Nat),IsBig wr r0 R0∧IsBig wr r1 R1∧IsBig wr t0 T0∧IsBig wr t1 T1∧Hid (Nat.gcd R0 R1=Nat.gcd A M)∧Hid (R1<R0)∧Hid (R0≤M)∧Hid (T0<M)∧Hid (T1<M)∧Hid (jq A M T0 R0)∧Hid (jq A M T1 R1)∧Hid (∀ x,t0.ownBlock=some x→w.heap.size≤x)∧Hid (∀ x,t1.ownBlock=some x→w.heap.size≤x)∧Kept af w2 wr) (fun _ b _ _ wr=>vT wr b)
 case atStart=>exact ⟨M,A%M,0,1,hm.grew k,b1.grew k2,IsBig.nil _,b2,q,Nat.mod_lt _ (by omega),leR _,by unfold Hid;omega,hM,nZ A M,oC A M,fun x h=>(by cases h),fun x h=>Nat.le_trans k1.size (o2 x h),ah _ _⟩
 case round=>
  clear b1 o1 b2 o2 k1 k2 q;obtain ⟨R0,R1,T0,T1,c0,c1,d0,d1,hg,hlt,d,l0,l1,g0,g1,x0,x1,hk⟩:=hrel;have KW:=k.trans hk;obtain ⟨ao,n,cap,rfl,hn,D⟩:=c1.length;rcases Nat.eq_zero_or_pos R1 with h0 | h0
  ·have z:n=0:=by rw [hn.out,h0];rfl
   subst z;have g:Hid (R0=Nat.gcd A M):=by have:=hg.out;rw [h0,Nat.gcd_zero_right] at this;exact this
   clear hg h0 hn g1 c1 d1 hlt d l1 x1;have hC:=fun W v (hk:Kept af wr W) (hv:IsBig W v 1)=>fw _ v R0 1 W (c0.grew hk) hv
   by_cases h1:R0=1
   ·have f:aH R0 1=0:=by rw [h1];rfl
    rw [f] at hC;have o:Nat.gcd A M=1:=by rw [← g.out];exact h1
    rw [h1] at g0;have hT:Hid (A*T0%M=1):=vI g0.out hM;have HG:Hid (Nat.gcd A M=1):=o;clear o g g0 f h1 c0;go_wp2_with fail;refine (hS _).mono ?_;rintro e w3 ⟨v3,rfl,b3,o3,k3⟩;go_wp2_with fail;refine (hC _ _ k3 b3).mono ?_;rintro e w4 ⟨rfl,n4,rfl⟩;have k4:Kept af w3 (w3.drewN n4):=(ah _ _).drewN n4;go_wp2;go_ret2;exact ⟨_,by rw [aQ HG.out];rfl,fun _=>⟨T0,l0.out,hT.out,d0.grew (k3.trans k4)⟩,fun h=>absurd HG.out h,x0.out,KW.trans (k3.trans k4)⟩
   ·have f:aH R0 1≠0:=by
     unfold aH;by_cases ha:R0<1
     ·rw [if_pos ha];decide
     ·rw [if_neg ha]
      first
       | (rw [if_pos (show 1<R0 by omega)];decide)
       | (rw [if_neg (show ¬ R0=1 from h1)];decide)
    obtain ⟨cc,l⟩:∃ cc,cc=aH R0 1:=⟨_,rfl⟩
    rw [← l] at hC f;have HG:Hid (Nat.gcd A M≠1):=by unfold Hid;rw [← g.out];exact h1
    clear g g0 l h1 c0 d0 l0 x0;go_wp2_with fail;refine (hS _).mono ?_;rintro e w3 ⟨v3,rfl,b3,o3,k3⟩;go_wp2_with fail;refine (hC _ _ k3 b3).mono ?_;rintro e w4 ⟨rfl,n4,rfl⟩;have k4:Kept af w3 (w3.drewN n4):=(ah _ _).drewN n4;go_wp2;go_ret2;exact ⟨.slice none 0 0,by rw [aD HG.out];rfl,fun h=>absurd h HG.out,fun _=>rfl,fun b hb=>(by cases hb),KW.trans (k3.trans k4)⟩
  ·have C:0<n:=by rw [hn.out];exact iY h0
   have hD:=lZ _ _ R0 R1 wr c0 c1 h0 (Nat.le_trans (aZ d.out) (by omega));have a:=Nat.mod_lt R0 h0;have s:=c1.of;have hQ:R0/R1≤M:=Nat.le_trans (Nat.div_le_self _ _) d.out;have q1:aF (R0/R1)≤1000000:=Nat.le_trans (aZ hQ) j;have q2:aF T1≤1000000:=Nat.le_trans (aZ (Nat.le_of_lt l1.out)) j;have q3:aF T0≤1000000:=Nat.le_trans (aZ (Nat.le_of_lt l0.out)) j;have q4:=iX (R0/R1) T1;obtain ⟨S,c⟩:∃ S,S=if R0/R1*T1%M≤T0 then T0-R0/R1*T1%M else T0+M-R0/R1*T1%M:=⟨_,rfl⟩
   have gS:Hid (jq A M S (R0%R1)):=qY g0.out g1.out S (by omega) c;have y:=Nat.mod_lt (R0/R1*T1) (show M > 0 by omega);have lS:Hid (S<M):=by unfold Hid;rw [c];exact pA l0.out y
   have B:Hid (Nat.gcd R1 (R0%R1)=Nat.gcd A M):=by unfold Hid;rw [← hg.out,Nat.gcd_comm R1,← Nat.gcd_rec,Nat.gcd_comm]
   have t:Hid (S=_):=c;have i:Hid (R1≤M):=Nat.le_trans (Nat.le_of_lt hlt.out) d.out;clear c hg g0 c0;go_wp2_with fail;refine hD.mono ?_;rintro e w3 ⟨vq,vr,rfl,bq,br,oq,E,k3⟩;have K3:=KW.trans k3;go_wp2_with fail;refine (jN vq _ m (R0/R1) T1 M w3 bq (d1.grew k3) (hm.grew K3) (by omega) (by omega) (by omega) (by omega)).mono ?_;rintro e w4 ⟨v4,rfl,b4,o4,k4⟩;have K4:=K3.trans k4;go_wp2_with fail;refine (ym _ v4 m T0 (R0/R1*T1%M) M w4 (d0.grew (k3.trans k4)) b4 (hm.grew K4) (by omega) (by omega) (by omega)).mono ?_;rintro e w5 ⟨v5,rfl,b5,o5,k5⟩;rw [← t.out] at b5;have K5:=K4.trans k5;go_wp2;go_roundw
   case rel=>exact ⟨R1,R0%R1,T1,S,c1.grew ((k3.trans k4).trans k5),(br.grew k4).grew k5,d1.grew ((k3.trans k4).trans k5),b5,B,a,i,l1,lS,g1,gS,x1,fun x hx=>Nat.le_trans K4.size (o5 x hx),((hk.trans k3).trans k4).trans k5⟩
   case measure=>rw [((br.grew k4).grew k5).of,s];exact a

def gQ (X:Nat):Nat:=if 130<ak X then 2 else if X≤3∨X%2=0 then 1 else 0

theorem rQ {xs:List Nat} {k:Nat} (hd:Digs xs) (hk:k≤xs.length) (hz:∀ i,k≤i→xs.getD i 0=0) (ht:k=0∨xs.getD (k-1) 0≠0):ak (val xs)=k:=by
 have hl:(xs.take k).length=k:=by rw [List.length_take];omega
 have hT:=dK hk ht;have hv:=dH (B:=18446744073709551616) hk hz;have h1:=fun n=>el (B:=18446744073709551616) (by omega) (hd.take k) hT n
 rw [hl,hv] at h1;have h2:=fun n=>ap (val xs) n
 have h3:=(h2 k).2 ((h1 k).1 (leR _));have h4:=(h1 _).2 ((h2 _).1 (leR _));omega

theorem jO {w:World} {v:Value} {X:Nat} (h:IsBig w v X) (hX:0<X):∃ b off n cap d,v=.slice (some ⟨b,off,none⟩) n cap∧0<n∧w.cell? ⟨b,off,none⟩=some (.int .u32 ((d:Nat):Int))∧d%2=X%2∧d<4294967296:=by
 obtain ⟨ds,hr,hd,_,rfl,_⟩:=h;cases ds with
 | nil=>simp [val] at hX
 | cons d ds=>
  obtain ⟨ao,n,cap,rfl,hL,_,_,_,h4⟩:=hr.open;have hn:0<n:=by rw [← hL.out];simp
  obtain ⟨b,off,rfl,hc⟩:=h4 0 hn;refine ⟨b,off,n,cap,d,rfl,hn,by simpa using hc,?_,hd d (by simp)⟩;simp only [val];omega

theorem mu {a b:Nat} (h:a≤b):aH a b≤0:=by
 unfold aH
 split
 ·omega
 ·rw [if_pos (by omega)];omega

theorem uC (ao:Option Addr) (L cap:Nat) (xs:List Nat) (E:Nat) (hE:E=gQ (val xs)) (w:World) (hu:Row .u64 w (.slice ao L cap) xs) (v:Digs xs) (I:L≤1000000) :
  Calls Tryz.prog 87 #[.slice ao L cap] w fun e w'=>e=.returned (.int .i64 (E:Int))∧Kept af w w':=by
 have y:=hu;obtain ⟨_,_,_,e1,hL,c1,c2,c3,h4⟩:=hu.open;cases e1
 have HC:Hid (∀ k,k≤L→Row .u64 w (.slice ao k cap) (xs.take k)):=fun k hk=>y.cut (by rw [hL.out];exact hk)
 have HZ:Hid (∀ i,L≤i→xs.getD i 0=0):=fun i hi=>by have:=hL.out;rw [List.getD_eq_getElem?_getD,List.getElem?_eq_none (by omega)];rfl
 have HD:=aa v;have HE:=aa hE;have r:=aa hL;clear hu y v hE hL c3;go_enter Tryz.func87,Tryz.ntmps87;go_wp2_with fail;go_loopw [3] (fun kv wr=>wr=w∧∃ k:Nat,k≤L∧kv=.int .i64 (k:Int)∧Hid (∀ i,k≤i→xs.getD i 0=0)) (fun kv _=>(intOf kv).toNat)
 case atStart=>exact ⟨rfl,L,leR _,rfl,HZ⟩
 case round=>
  obtain ⟨rfl,k,hk,rfl,hz⟩:=hrel;have t:∀ (ht:Hid (k=0∨xs.getD (k-1) 0≠0)),ak (val xs)=k∧val (xs.take k)=val xs:=fun ht=>⟨rQ HD.out (by rw [r.out.out];exact hk) hz.out ht.out,dH (by rw [r.out.out];exact hk) hz.out⟩
  by_cases hst:k=0∨xs.getD (k-1) 0≠0
  ·obtain ⟨hw,hv⟩:=t hst;have m:=HC.out k hk;have x:Digs (xs.take k):=HD.out.take k;have hO:=rOf _ _ wr m x (by rw [List.length_take,r.out.out];omega);rw [hv] at hO;have a:Hid (E=if 130<k then 2 else if val xs≤3∨val xs%2=0 then 1 else 0):=by
    unfold Hid;rw [HE.out,gQ,hw]
   generalize val xs=X at *;clear t m x hw hv;by_cases o:k=0
   ·subst o;rw [if_neg (by omega)] at a;go_wp2_with fail;refine hO.mono ?_;rintro e w1 ⟨v1,rfl,j,_,k1⟩;have hS:=bY 3 (by omega) w1;clear hO;go_wp2_with fail;refine hS.mono ?_;rintro e w2 ⟨v2,rfl,f,_,k2⟩;have d:=j.grew k2;have hC:=fw v1 v2 X 3 w2 d f;have K2:=k1.trans k2;clear hS j f;by_cases h3:X≤3
    ·have HT:Hid (E=1):=by unfold Hid;rw [a.out,if_pos (.inl h3)]
     have hc:=mu h3;generalize aH X 3=cc at *;go_wp2_with fail;refine hC.mono ?_;rintro e w3 ⟨rfl,m3,rfl⟩;go_wp2_with fail;go_ret;exact ⟨by rw [HT.out];rfl,K2.drewN m3⟩
    ·rw [dx (show 3<X by omega)] at hC;obtain ⟨b5,c,n5,p,d5,rfl,B,g,A,C⟩:=jO d (by omega);have D:(0:Int)<(n5:Int):=by omega
     go_wp2_with fail;refine hC.mono ?_;rintro e w3 ⟨rfl,m3,rfl⟩;have H:(w2.drewN m3).cell? ⟨b5,c,none⟩=some (.int .u32 (d5:Int)):=((ah af w2).drewN m3).cellN g;have l:(d5:Int).tmod 2=((d5%2:Nat):Int):=by rw [Int.tmod_eq_emod_of_nonneg (by omega)];omega
     clear hC g;by_cases h2:X%2=0
     ·have HT:Hid (E=1):=by unfold Hid;rw [a.out,if_pos (.inr h2)]
      have s:(d5:Int)%2=0:=by omega
      rw [show d5%2=0 by omega] at l;go_wp2_with fail;go_ret;exact ⟨by rw [HT.out];rfl,K2.drewN m3⟩
     ·have HT:Hid (E=0):=by unfold Hid;rw [a.out,if_neg (by omega)]
      have s:(d5:Int)%2=1:=by omega
      rw [show d5%2=1 by omega] at l;go_wp2_with fail;go_ret;exact ⟨by rw [HT.out];rfl,K2.drewN m3⟩
   ·have G:xs.getD (k-1) 0≠0:=by
     rcases hst with h | h
     ·exact absurd h o
     ·exact h
    obtain ⟨q,rfl⟩:∃ q,k=q+1:=⟨k-1,by omega⟩
    rw [Nat.add_sub_cancel] at G;obtain ⟨b,off,rfl,hc⟩:=h4 q (by omega);generalize xs.getD q 0=z at *;have gz:¬ (z:Int)=0:=by omega
    have gq:((q+1:Nat):Int)-1=(q:Int):=by omega
    have F:(q:Int)<(L:Int):=by omega
    clear h4;generalize hkk:q+1=k at *;by_cases h130:130<k
    ·have g3:(k:Int) > 130:=by omega
     have HT:Hid (E=2):=by unfold Hid;rw [a.out,if_pos h130]
     clear hO a;go_wp2_with fail;go_ret;exact ⟨by rw [HT.out];rfl,ah _ _⟩
    ·have g3:¬ (k:Int) > 130:=by omega
     rw [if_neg h130] at a;go_wp2_with fail;refine hO.mono ?_;rintro e w1 ⟨v1,rfl,j,_,k1⟩;have hS:=bY 3 (by omega) w1;clear hO;go_wp2_with fail;refine hS.mono ?_;rintro e w2 ⟨v2,rfl,f,_,k2⟩;have d:=j.grew k2;have hC:=fw v1 v2 X 3 w2 d f;have K2:=k1.trans k2;clear hS j f;by_cases h3:X≤3
     ·have HT:Hid (E=1):=by unfold Hid;rw [a.out,if_pos (.inl h3)]
      have hc:=mu h3;generalize aH X 3=cc at *;go_wp2_with fail;refine hC.mono ?_;rintro e w3 ⟨rfl,m3,rfl⟩;go_wp2_with fail;go_ret;exact ⟨by rw [HT.out];rfl,K2.drewN m3⟩
     ·rw [dx (show 3<X by omega)] at hC;obtain ⟨b5,c,n5,p,d5,rfl,B,g,A,C⟩:=jO d (by omega);have D:(0:Int)<(n5:Int):=by omega
      go_wp2_with fail;refine hC.mono ?_;rintro e w3 ⟨rfl,m3,rfl⟩;have H:(w2.drewN m3).cell? ⟨b5,c,none⟩=some (.int .u32 (d5:Int)):=((ah af w2).drewN m3).cellN g;have l:(d5:Int).tmod 2=((d5%2:Nat):Int):=by rw [Int.tmod_eq_emod_of_nonneg (by omega)];omega
      clear hC g;by_cases h2:X%2=0
      ·have HT:Hid (E=1):=by unfold Hid;rw [a.out,if_pos (.inr h2)]
       have s:(d5:Int)%2=0:=by omega
       rw [show d5%2=0 by omega] at l;go_wp2_with fail;go_ret;exact ⟨by rw [HT.out];rfl,K2.drewN m3⟩
      ·have HT:Hid (E=0):=by unfold Hid;rw [a.out,if_neg (by omega)]
       have s:(d5:Int)%2=1:=by omega
       rw [show d5%2=1 by omega] at l;go_wp2_with fail;go_ret;exact ⟨by rw [HT.out];rfl,K2.drewN m3⟩
  ·have o:¬ k=0:=fun h=>hst (.inl h)
   have n:xs.getD (k-1) 0=0:=Classical.byContradiction fun h=>hst (.inr h)
   obtain ⟨q,rfl⟩:∃ q,k=q+1:=⟨k-1,by omega⟩
   rw [Nat.add_sub_cancel] at n;obtain ⟨b,off,rfl,hc⟩:=h4 q (by omega);have HA:Hid (∀ i,q≤i→xs.getD i 0=0):=fun i hi=>by
    by_cases e:i=q
    ·subst e;exact n
    ·exact hz.out i (by omega)
   rw [n] at hc;have gq:((q+1:Nat):Int)-1=(q:Int):=by omega
   have F:(q:Int)<(L:Int):=by omega
   clear h4 n hst t o;go_wp2_with fail;go_roundw
   case rel=>exact ⟨trivial,q,by omega,by go_num,HA⟩
   case measure=>simp [intOf]

theorem gG (w:World):Calls Tryz.prog 34 #[] w fun r w'=>∃ v',r=.returned v'∧IsBig w' v' 1∧(∀ b,v'.ownBlock=some b→w.heap.size≤b)∧Kept af w w':=by
 have h:=bY 1 (by omega) w;go_enter Tryz.func34,Tryz.ntmps34;go_wp2_with fail;refine h.mono ?_;rintro e w1 ⟨v1,rfl,h1,h2,h3⟩;go_wp2_with fail;go_ret;exact ⟨_,rfl,h1,h2,h3⟩

theorem pF {w:World} {v:Value} {V:Nat} (h:IsBig w v V):aw V≤100000000000:=by
 obtain ⟨ds,_,hd,_,rfl,hl⟩:=h;have h1:=ar (B:=4294967296) (by omega) hd;have h2:aw (val ds 4294967296)≤32*ds.length:=(aB _ _).2 (by rw [Nat.pow_mul];exact h1);omega

def sD (P Q L M:Nat):Nat:=if 130<L∨130<M then 2 else if P<2∨Q<2 then 1 else 0

def dh (P Q:Nat):Nat:=(P-1)/Nat.gcd (P-1) (Q-1)*(Q-1)

theorem rR (ao bo:Option Addr) (L M cap j:Nat) (xs ys:List Nat) (E:Nat) (RL:List Nat) (hE:E=sD (val xs) (val ys) L M) (g:RL=if E=0 then ai (dh (val xs) (val ys)) (max (ak (dh (val xs) (val ys))) 1) else []) (w:World) (hu:Row .u64 w (.slice ao L cap) xs) (hv:Row .u64 w (.slice bo M j) ys) (h:Digs xs) (n:Digs ys) (an:L≤1000000) (ap:M≤1000000) :
  Calls Tryz.prog 63 #[.slice ao L cap,.slice bo M j] w fun e w'=>∃ v',e=.returned (.tuple #[v',.int .i64 (E:Nat)])∧Row .u64 w' v' RL∧(∀ b,v'.ownBlock=some b→w.heap.size≤b)∧Kept af w w':=by
 obtain ⟨_,_,_,e1,hL,-,-,-,-⟩:=hu.open;cases e1
 obtain ⟨_,_,_,e1,hM,-,-,-,-⟩:=hv.open;cases e1
 have JX:Hid (∀ W,Kept af w W→Calls Tryz.prog 17 #[.slice ao L cap] W fun r w'=>∃ v',r=.returned v'∧IsBig w' v' (val xs)∧(∀ b,v'.ownBlock=some b→W.heap.size≤b)∧Kept af W w'):=fun W k=>rOf _ xs W (hu.grew k) h (by rw [hL.out];omega)
 have JY:Hid (∀ W,Kept af w W→Calls Tryz.prog 17 #[.slice bo M j] W fun r w'=>∃ v',r=.returned v'∧IsBig w' v' (val ys)∧(∀ b,v'.ownBlock=some b→W.heap.size≤b)∧Kept af W w'):=fun W k=>rOf _ ys W (hv.grew k) n (by rw [hM.out];omega)
 by_cases hlen:130<L∨130<M
 ·have HE:Hid (E=2):=by unfold Hid;rw [hE,sD,if_pos hlen]
  have HR:Hid (RL=[]):=by unfold Hid;rw [g,if_neg (by rw [HE.out];omega)]
  clear hu hv hE g hL hM JX JY;by_cases h1:130<L
  ·have g1:(130:Int)<(L:Int):=by omega
   clear hlen;go_enter Tryz.func63,Tryz.ntmps63;go_wp2_with fail;go_ret2;exact ⟨_,by rw [HE.out];rfl,by rw [HR.out];exact Row.nil _ _,(fun b hb=>by cases hb),ah _ _⟩
  ·have g1:¬ (130:Int)<(L:Int):=by omega
   have g2:(130:Int)<(M:Int):=by omega
   clear hlen;go_enter Tryz.func63,Tryz.ntmps63;go_wp2_with fail;go_ret2;exact ⟨_,by rw [HE.out];rfl,by rw [HR.out];exact Row.nil _ _,(fun b hb=>by cases hb),ah _ _⟩
 ·have g1:¬ (130:Int)<(L:Int):=by omega
  have g2:¬ (130:Int)<(M:Int):=by omega
  have av:aF (val xs)≤260:=by
   have:aF (val xs)≤2*L:=(aI _ _).2 (by rw [Nat.pow_mul,← hL.out];exact ar (by omega) h);omega
  have ax:aF (val ys)≤260:=by
   have:aF (val ys)≤2*M:=(aI _ _).2 (by rw [Nat.pow_mul,← hM.out];exact ar (by omega) n);omega
  rw [sD,if_neg hlen] at hE;have HE:=aa hE;have i:=aa g;clear hu hv hL hM hE g h n hlen;generalize val xs=P at *;generalize val ys=Q at *;go_enter Tryz.func63,Tryz.ntmps63;go_wp2_with fail;have h1:=JX.out _ (ah _ _);refine h1.mono ?_;rintro e w1 ⟨v1,rfl,b1,_,K1⟩;clear h1;have h2:=JY.out _ K1;go_wp2_with fail;refine h2.mono ?_;rintro e w2 ⟨v2,rfl,b2,_,k2⟩;have K2:=K1.trans k2;have b1:=b1.grew k2;clear h2;have h3:=bY 2 (by omega) w2;go_wp2_with fail;refine h3.mono ?_;rintro e w3 ⟨v3,rfl,b3,_,k3⟩;have K3:=K2.trans k3;have b1:=b1.grew k3;have b2:=b2.grew k3;clear h3;have h4:=fw v1 v3 P 2 w3 b1 b3;by_cases hP:P<2
  ·have f:Hid (E=1):=by unfold Hid;rw [HE.out,if_pos (.inl hP)]
   have HR:Hid (RL=[]):=by unfold Hid;rw [i.out,if_neg (by rw [f.out];omega)]
   rw [bu hP] at h4;go_wp2_with fail;refine h4.mono ?_;rintro e w4 ⟨rfl,m4,rfl⟩;go_wp2_with fail;go_ret2;exact ⟨_,by rw [f.out];rfl,by rw [HR.out];exact Row.nil _ _,(fun b hb=>by cases hb),K3.drewN m4⟩
  have J:=fF (show 2≤P by omega);have q4:decide (aH P 2<0)=false:=aD J;generalize aH P 2=c4 at *;go_wp2_with fail;refine h4.mono ?_;rintro e am ⟨rfl,m4,rfl⟩;have k4:=(ah af w3).drewN m4;obtain ⟨w4,v⟩:∃ w4,w4=w3.drewN m4:=⟨_,rfl⟩
  rw [← v] at k4 ⊢;have K4:=K3.trans k4;have b1:=b1.grew k4;have b2:=b2.grew k4;have b3:=b3.grew k4;clear h4 v;have h5:=bY 2 (by omega) w4;go_wp2_with fail;refine h5.mono ?_;rintro e w5 ⟨v5,rfl,b5,_,k5⟩;have K5:=K4.trans k5;have b1:=b1.grew k5;have b2:=b2.grew k5;have b3:=b3.grew k5;clear h5;have h6:=fw v2 v5 Q 2 w5 b2 b5;by_cases hQ:Q<2
  ·have f:Hid (E=1):=by unfold Hid;rw [HE.out,if_pos (.inr hQ)]
   have HR:Hid (RL=[]):=by unfold Hid;rw [i.out,if_neg (by rw [f.out];omega)]
   rw [bu hQ] at h6;go_wp2_with fail;refine h6.mono ?_;rintro e w6 ⟨rfl,m6,rfl⟩;go_wp2_with fail;go_ret2;exact ⟨_,by rw [f.out];rfl,by rw [HR.out];exact Row.nil _ _,(fun b hb=>by cases hb),K5.drewN m6⟩
  have al:=fF (show 2≤Q by omega);have q6:decide (aH Q 2<0)=false:=aD al;have q:Hid (E=0):=by unfold Hid;rw [HE.out,if_neg (by omega)]
  have HR:Hid (RL=ai (dh P Q) (max (ak (dh P Q)) 1)):=by unfold Hid;rw [i.out,if_pos q.out]
  generalize aH Q 2=c6 at *;go_wp2_with fail;refine h6.mono ?_;rintro e aq ⟨rfl,m6,rfl⟩;have k6:=(ah af w5).drewN m6;obtain ⟨w6,C⟩:∃ w6,w6=w5.drewN m6:=⟨_,rfl⟩
  rw [← C] at k6 ⊢;have K6:=K5.trans k6;have b1:=b1.grew k6;have b2:=b2.grew k6;clear h6 C b3 b5;have h7:=gG w6;go_wp2_with fail;refine h7.mono ?_;rintro e w7 ⟨v7,rfl,b7,_,k7⟩;have K7:=K6.trans k7;have b1:=b1.grew k7;have b2:=b2.grew k7;clear h7;have h8:=kK v1 v7 P 1 w7 b1 b7 (by omega);go_wp2_with fail;refine h8.mono ?_;rintro e w8 ⟨v8,rfl,b8,_,k8⟩;have K8:=K7.trans k8;have b1:=b1.grew k8;have b2:=b2.grew k8;have b7:=b7.grew k8;clear h8;have h9:=gG w8;go_wp2_with fail;refine h9.mono ?_;rintro e w9 ⟨v9,rfl,b9,_,k9⟩;have K9:=K8.trans k9;have b1:=b1.grew k9;have b2:=b2.grew k9;have b7:=b7.grew k9;have b8:=b8.grew k9;clear h9;have s:=kK v2 v9 Q 1 w9 b2 b9 (by omega)
  go_wp2_with fail;refine s.mono ?_;rintro e O ⟨A,rfl,a,_,d⟩;have D:=K9.trans d;have b1:=b1.grew d;have b2:=b2.grew d;have b7:=b7.grew d;have b8:=b8.grew d;have b9:=b9.grew d;clear s;have R:aF (P-1)≤260:=by have:=aZ (show P-1≤P by omega);omega
  have I:aF (Q-1)≤260:=by have:=aZ (show Q-1≤Q by omega);omega
  have x:=AN v8 A (P-1) (Q-1) O b8 a (by omega) (by omega);go_wp2_with fail;refine x.mono ?_;rintro e ad ⟨ae,rfl,T,_,c⟩;have aj:=D.trans c;have b1:=b1.grew c;have b2:=b2.grew c;have b7:=b7.grew c;have b8:=b8.grew c;have b9:=b9.grew c;have a:=a.grew c;clear x;have ac:0<Nat.gcd (P-1) (Q-1):=Nat.gcd_pos_of_pos_left _ (by omega);have p:=lZ v8 ae (P-1) (Nat.gcd (P-1) (Q-1)) ad b8 T ac (by omega);go_wp2_with fail;refine p.mono ?_;rintro e G ⟨N,H,rfl,m,_,_,_,t⟩;have F:=aj.trans t;have a:=a.grew t;clear p;have au:aF ((P-1)/Nat.gcd (P-1) (Q-1))≤260:=by have:=aZ (Nat.div_le_self (P-1) (Nat.gcd (P-1) (Q-1)));omega
  have B:=xE N A _ (Q-1) G m a (by omega) (by omega);go_wp2_with fail;refine B.mono ?_;rintro e V ⟨S,rfl,X,_,l⟩;have z:=F.trans l;have a:=a.grew l;have m:=m.grew l;clear B;have y:=mB S _ V X;go_wp2_with fail;refine y.mono ?_;rintro e aw ⟨Y,rfl,ag,U,ab⟩;have Z:=z.trans ab;clear y;go_wp2_with fail;go_ret2;exact ⟨_,by rw [q.out];rfl,by rw [HR.out];exact ag,(fun b hb=>by have o:Y.ownBlock=some b:=hb;rw [U] at o;cases o;exact z.size),Z⟩

def fA (xs:List Nat) (e:Nat):Nat:=
 if xs.length=0∨1000<xs.length∨xs.getD (xs.length-1) 0=0∨val xs%2=0∨aw (val xs)<32∨8192<aw (val xs)∨e<3∨e%2=0∨4294967296≤e then 190 else 0

theorem qM (ao:Option Addr) (L cap:Nat) (xs:List Nat) (e:Nat) (he:e<18446744073709551616) (E:Nat) (hE:E=fA xs e) (w:World) (hu:Row .u64 w (.slice ao L cap) xs) (i:Digs xs) (x:L≤1000000) :
  Calls Tryz.prog 62 #[.slice ao L cap,.int .u64 (e:Nat)] w fun r w'=>r=.returned (.int .i64 (E:Nat))∧Kept af w w':=by
 obtain ⟨_,_,_,e1,hL,-,-,-,h4⟩:=hu.open;cases e1
 have hO:=rOf _ xs w hu i (by rw [hL.out];omega);have a:Hid ((L=0∨1000<L∨xs.getD (L-1) 0=0∨val xs%2=0∨aw (val xs)<32∨8192<aw (val xs)∨e<3∨e%2=0∨4294967296≤e)→E=190):=fun h=>by
  rw [hE,fA,hL.out,if_pos h]
 have c:Hid (¬ (L=0∨1000<L∨xs.getD (L-1) 0=0∨val xs%2=0∨aw (val xs)<32∨8192<aw (val xs)∨e<3∨e%2=0∨4294967296≤e)→E=0):=fun h=>by
  rw [hE,fA,hL.out,if_neg h]
 have d:Hid (xs.getD (L-1) 0≠0→0<L→0<val xs):=fun h h2=>by
  have hT:ef xs:=.inr (by rw [hL.out];exact h);have:=fK (B:=18446744073709551616) hT (by rw [hL.out];exact h2);exact Nat.lt_of_lt_of_le (Nat.pow_pos (by omega)) this
 clear hu i hE hL;generalize hXX:val xs=X at *;clear hXX;by_cases a1:L=0
 ·have HT:=aa (a.out (.inl a1));subst a1;clear h4 hO;go_enter Tryz.func62,Tryz.ntmps62;go_wp2_with fail;go_ret;exact ⟨by rw [HT.out];rfl,ah _ _⟩
 have q1:((L:Int) == 0)=false:=by simp;omega
 by_cases a2:1000<L
 ·have HT:=aa (a.out (.inr (.inl a2)));have g2:(1000:Int)<(L:Int):=by omega
  clear h4 hO;go_enter Tryz.func62,Tryz.ntmps62;go_wp2_with fail;go_ret;exact ⟨by rw [HT.out];rfl,ah _ _⟩
 have g2:¬ (1000:Int)<(L:Int):=by omega
 have q2:decide ((1000:Int)<(L:Int))=false:=aD g2;obtain ⟨m,hm⟩:∃ m,L=m+1:=⟨L-1,by omega⟩
 have j:L-1=m:=by omega
 rw [j] at a c d;obtain ⟨b,off,rfl,hc⟩:=h4 m (by omega);obtain ⟨z,hz⟩:∃ z,z=xs.getD m 0:=⟨_,rfl⟩
 rw [← hz] at hc a c d;have gw:IntKind.i64.wrap ((L:Int)-1)=(m:Int):=by rw [IntKind.wrap_i64];omega
 have gj:(L:Int)-1=(m:Int):=by omega
 have o:(0:Int)≤(m:Int):=by omega
 have q:(m:Int)<(L:Int):=by omega
 clear h4 hz hm j;by_cases a3:z=0
 ·have HT:=aa (a.out (.inr (.inr (.inl a3))));subst a3;clear hO;go_enter Tryz.func62,Tryz.ntmps62;go_wp2_with fail;go_ret;exact ⟨by rw [HT.out];rfl,ah _ _⟩
 have g3:¬ (z:Int)=0:=by omega
 have q3:((z:Int) == 0)=false:=by simp;omega
 have l:0<X:=d.out a3 (by omega);clear d;go_enter Tryz.func62,Tryz.ntmps62;go_wp2_with fail;refine hO.mono ?_;rintro r w1 ⟨v1,rfl,b1,_,k1⟩;have h2:=iV v1 X w1 b1;have n:=pF b1;obtain ⟨b5,p,n5,k,d5,rfl,C,A,y,D⟩:=jO b1 l;obtain ⟨t,ht⟩:∃ t,t=aw X:=⟨_,rfl⟩
 rw [← ht] at h2 a c n;have v:(0:Int)<(n5:Int):=by omega
 have g:(d5:Int).tmod 2=((d5%2:Nat):Int):=by rw [Int.tmod_eq_emod_of_nonneg (by omega)];omega
 have f:(e:Int).tmod 2=((e%2:Nat):Int):=by rw [Int.tmod_eq_emod_of_nonneg (by omega)];omega
 clear hO ht b1 hc gw gj o q q1 q2 q3 g2 g3;go_wp2_with fail;refine h2.mono ?_;rintro r w2 ⟨rfl,rfl⟩;clear h2;by_cases a4:X%2=0
 ·have HT:=aa (a.out (.inr (.inr (.inr (.inl a4)))));have s:(d5:Int)%2=0:=by omega
  rw [show d5%2=0 by omega] at g;clear a c;go_wp2_with fail;go_ret;exact ⟨by rw [HT.out];rfl,k1⟩
 have s:(d5:Int)%2=1:=by omega
 rw [show d5%2=1 by omega] at g;by_cases a5:t<32
 ·have HT:=aa (a.out (.inr (.inr (.inr (.inr (.inl a5))))));have g5:(t:Int)<32:=by omega
  have q5:decide ((t:Int)<32)=true:=aQ g5;clear a c;go_wp2_with fail;go_ret;exact ⟨by rw [HT.out];rfl,k1⟩
 have g5:¬ (t:Int)<32:=by omega
 have q5:decide ((t:Int)<32)=false:=aD g5;by_cases a6:8192<t
 ·have HT:=aa (a.out (.inr (.inr (.inr (.inr (.inr (.inl a6)))))));have g6:(8192:Int)<(t:Int):=by omega
  have q6:decide ((8192:Int)<(t:Int))=true:=aQ g6;clear a c;go_wp2_with fail;go_ret;exact ⟨by rw [HT.out];rfl,k1⟩
 have g6:¬ (8192:Int)<(t:Int):=by omega
 have q6:decide ((8192:Int)<(t:Int))=false:=aD g6;by_cases a7:e<3
 ·have HT:=aa (a.out (.inr (.inr (.inr (.inr (.inr (.inr (.inl a7))))))));have g7:(e:Int)<3:=by omega
  have q7:decide ((e:Int)<3)=true:=aQ g7;clear a c;go_wp2_with fail;go_ret;exact ⟨by rw [HT.out];rfl,k1⟩
 have g7:¬ (e:Int)<3:=by omega
 have q7:decide ((e:Int)<3)=false:=aD g7;by_cases a8:e%2=0
 ·have HT:=aa (a.out (.inr (.inr (.inr (.inr (.inr (.inr (.inr (.inl a8)))))))));have g8:(e:Int)%2=0:=by omega
  rw [show e%2=0 by omega] at f;clear a c;go_wp2_with fail;go_ret;exact ⟨by rw [HT.out];rfl,k1⟩
 have g8:(e:Int)%2=1:=by omega
 rw [show e%2=1 by omega] at f;by_cases a9:4294967296≤e
 ·have HT:=aa (a.out (.inr (.inr (.inr (.inr (.inr (.inr (.inr (.inr (a9))))))))));have g9:(4294967296:Int)≤(e:Int):=by omega
  have q9:decide ((4294967296:Int)≤(e:Int))=true:=aQ g9;clear a c;go_wp2_with fail;go_ret;exact ⟨by rw [HT.out];rfl,k1⟩
 have g9:¬ (4294967296:Int)≤(e:Int):=by omega
 have q9:decide ((4294967296:Int)≤(e:Int))=false:=aD g9;have HT:Hid (E=0):=c.out (by omega);clear a c;go_wp2_with fail;go_ret;exact ⟨by rw [HT.out];rfl,k1⟩

theorem qJ (m:List Nat):∀ a,m.foldl (fun a b=>a*256+b) a=a*256^m.length+bev m:=by
 unfold bev
 induction m with
 | nil=>intro a;simp
 | cons x m ih=>
  intro a;rw [List.foldl_cons,ih,List.foldl_cons,ih (0*256+x),List.length_cons,Nat.pow_succ];simp only [Nat.zero_mul,Nat.zero_add,Nat.add_mul,Nat.mul_assoc,Nat.add_assoc,Nat.mul_comm 256]

theorem jx (l m:List Nat):bev (l ++ m)=bev l*256^m.length+bev m:=by
 show (l ++ m).foldl _ 0=_
 rw [List.foldl_append,qJ];rfl

theorem jK {l:List Nat} (h:Digs l 256):bev l<256^l.length:=by
 induction l with
 | nil=>simp [bev]
 | cons x m ih=>
  have e:=jx [x] m;rw [List.singleton_append] at e;have hx:=h.head;have hm:=ih h.tail;rw [e,List.length_cons,Nat.pow_succ];have:(x+1)*256^m.length≤256*256^m.length:=Nat.mul_le_mul_right _ hx;rw [Nat.add_mul,Nat.one_mul] at this;have e2:bev [x]=x:=by simp [bev]
  rw [e2,Nat.mul_comm (256^m.length)];omega

theorem vy {l:List Nat} (h:Digs l 256):aF (bev l)≤l.length:=by
 rw [aI];exact Nat.lt_of_lt_of_le (jK h) (Nat.pow_le_pow_left (by omega) _)

theorem nJ {xs:List Nat} (h:Digs xs):aw (val xs)≤64*xs.length:=by
 rw [aB,Nat.pow_mul];exact ar (by omega) h

theorem yg {xs:List Nat} (h:Digs xs):aF (val xs)≤2*xs.length:=by
 rw [aI,Nat.pow_mul];exact ar (by omega) h

end Go.Proofs.YtcemlfokmjjiaaaGreatDoor
