/- Put together of: BigM Prm2 Key1 Key2 Bev1 Key4. -/
import Derived.Test.YtkaojflnghfmcaaGreatDoorQA3

namespace Go.Proofs.YtkaojflnghfmcaaGreatDoor
set_option maxRecDepth 100000
set_option maxHeartbeats 4000000
open Go.RowKit

attribute [local go_sem ↓] Go.wp_at_zero Go.wp_at_succ

theorem nG (u v:Value) (A M:Nat) (w:World) (hu:IsBig w u A) (hv:IsBig w v M) (hM:0<M) (a:aH A≤10000000) :
  Calls Tryz.prog 77 #[u,v] w fun r w'=>∃ v',r=.returned v'∧IsBig w' v' (A%M)∧(∀ b,v'.ownBlock=some b→u.ownBlock=some b∨w.heap.size≤b)∧Kept af w w':=by
 have hD:=lV u v A M w hu hv hM a;clear hu hv hM a;go_enter Tryz.func77,Tryz.ntmps77;go_wp2_with fail;refine hD.mono ?_;rintro e w1 ⟨v1,v2,rfl,b1,b2,o1,o2,k⟩;go_wp2;go_ret;exact ⟨v2,rfl,b2,o2,k⟩

theorem lY (u v m:Value) (A B M:Nat) (w:World) (hu:IsBig w u A) (hv:IsBig w v B) (hm:IsBig w m M) (hM:0<M) (a:aH A≤100000000) (c:aH B≤100000000) (d:aH (A*B)≤10000000) :
  Calls Tryz.prog 78 #[u,v,m] w fun r w'=>∃ v',r=.returned v'∧IsBig w' v' (A*B%M)∧(∀ b,v'.ownBlock=some b→w.heap.size≤b)∧Kept af w w':=by
 have hD:=vW u v A B w hu hv a c;clear hu hv a c;go_enter Tryz.func78,Tryz.ntmps78;go_wp2_with fail;refine hD.mono ?_;rintro e w1 ⟨v1,rfl,b1,o1,k1⟩;go_wp2_with fail;refine (nG v1 m (A*B) M w1 b1 (hm.grew k1) hM d).mono ?_;rintro e w2 ⟨v2,rfl,b2,o2,k2⟩;go_wp2;go_ret;exact ⟨v2,rfl,b2,fun b hb=>(o2 b hb).elim (fun h=>o1 b h) (fun h=>Nat.le_trans k1.size h),k1.trans k2⟩

theorem vZ (u v m:Value) (A B M:Nat) (w:World) (hu:IsBig w u A) (hv:IsBig w v B) (hm:IsBig w m M) (hB:B≤A+M) (g:aH A≤100000000) (h:aH M≤100000000) :
  Calls Tryz.prog 88 #[u,v,m] w fun r w'=>∃ v',r=.returned v'∧IsBig w' v' (if B≤A then A-B else A+M-B)∧(∀ b,v'.ownBlock=some b→w.heap.size≤b)∧Kept af w w':=by
 have hC:=iP u v A B w hu hv;by_cases hlt:A<B
 ·rw [bk hlt] at hC;rw [if_neg (by omega)];clear hlt;go_enter Tryz.func88,Tryz.ntmps88;go_wp2_with fail;refine hC.mono ?_;rintro e w1 ⟨rfl,n1,rfl⟩;have k1:Kept af w (w.drewN n1):=(ah _ _).drewN n1;go_wp2_with fail;refine (BM u m A M _ (hu.grew k1) (hm.grew k1) g h).mono ?_;rintro e w2 ⟨v2,rfl,b2,o2,k2⟩;have c:=k1.trans k2;go_wp2_with fail;refine (oP v2 v (A+M) B _ b2 (hv.grew c) hB).mono ?_;rintro e w3 ⟨v3,rfl,b3,o3,k3⟩;go_wp2;go_ret;exact ⟨v3,rfl,b3,fun b hb=>Nat.le_trans c.size (o3 b hb),c.trans k3⟩
 ·have f:¬ aK A B<0:=by unfold aK;rw [if_neg hlt];split <;> decide
  have d:B≤A:=by omega
  rw [if_pos d];obtain ⟨cc,a⟩:∃ cc,cc=aK A B:=⟨_,rfl⟩
  rw [← a] at hC f;clear a hlt;go_enter Tryz.func88,Tryz.ntmps88;go_wp2_with fail;refine hC.mono ?_;rintro e w1 ⟨rfl,n1,rfl⟩;have k1:Kept af w (w.drewN n1):=(ah _ _).drewN n1;go_wp2_with fail;refine (oP u v A B _ (hu.grew k1) (hv.grew k1) d).mono ?_;rintro e w3 ⟨v3,rfl,b3,o3,k3⟩;go_wp2;go_ret;exact ⟨v3,rfl,b3,fun b hb=>Nat.le_trans k1.size (o3 b hb),k1.trans k3⟩

attribute [local go_sem ↓] Go.wp_at_zero Go.wp_at_succ

def cellN (w:World) (a:Addr):Nat:=
 match w.cell? a with
 | some (.int _ z)=>z.toNat
 | _=>0

def rH (w:World):Value→Nat
 | .slice (some a) n _=>val ((List.range n).map fun i=>cellN w ⟨a.block,a.off+i,none⟩) 4294967296
 | _=>0

theorem IsBig.of {w:World} {v:Value} {V:Nat} (h:IsBig w v V):rH w v=V:=by
 obtain ⟨ds,h1,_,_,rfl,_⟩:=h;obtain ⟨ao,f,rfl,_,_,_,hc⟩:=h1;cases ao with
 | none=>
  have:ds=[]:=by
   rcases ds with _ | ⟨d,r⟩
   ·rfl
   ·obtain ⟨b,off,e,_⟩:=hc 0 (by simp);cases e
  subst this;rfl
 | some a=>
  show val ((List.range ds.length).map fun i=>cellN w ⟨a.block,a.off+i,none⟩) 4294967296=_
  congr 1
  refine List.ext_getElem (by simp) (fun i h1 h2=>?_);obtain ⟨b,off,e,c⟩:=hc i h2;cases e
  rw [List.getElem_map,List.getElem_range];unfold cellN;rw [c,List.getD_eq_getElem?_getD,List.getElem?_eq_getElem h2];simp

theorem IsBig.length {w:World} {v:Value} {V:Nat} (h:IsBig w v V):∃ ao n a,v=.slice ao n a∧Hid (n=aH V)∧n≤1000000000:=by
 obtain ⟨ds,h1,h2,h3,h4,h5⟩:=h;obtain ⟨ao,n,a,e,hN,_⟩:=h1.open;refine ⟨ao,n,a,e,?_,by rw [← hN.out];exact h5⟩;have:=cY h2 h3;rw [h4] at this;unfold Hid;rw [← this,hN.out]

theorem jv {A:Nat} (h:0<A):0<aH A:=by
 rcases Nat.eq_zero_or_pos (aH A) with h0 | h0
 ·have:=(aS A 0).1 (by omega);rw [Nat.pow_zero] at this;omega
 ·exact h0

theorem A9 (u v:Value) (A B:Nat) (w:World) (hu:IsBig w u A) (hv:IsBig w v B) (c:aH A≤10000000) (d:aH B≤10000000) :
  Calls Tryz.prog 95 #[u,v] w fun r w'=>∃ v',r=.returned v'∧IsBig w' v' (Nat.gcd A B)∧(∀ b,v'.ownBlock=some b→u.ownBlock=some b∨v.ownBlock=some b∨w.heap.size≤b)∧Kept af w w':=by
 go_enter Tryz.func95,Tryz.ntmps95;go_wp2_with fail;go_loopw [0,1] (fun a b wr=>∃ (C D:Nat),IsBig wr a C∧IsBig wr b D∧Hid (Nat.gcd C D=Nat.gcd A B)∧Hid (aH C≤10000000)∧Hid (aH D≤10000000)∧Hid (∀ x,a.ownBlock=some x→u.ownBlock=some x∨v.ownBlock=some x∨w.heap.size≤x)∧Hid (∀ x,b.ownBlock=some x→u.ownBlock=some x∨v.ownBlock=some x∨w.heap.size≤x)∧Kept af w wr) (fun _ b wr=>rH wr b)
 case atStart=>exact ⟨A,B,hu,hv,rfl,c,d,fun x h=>.inl h,fun x h=>.inr (.inl h),ah _ _⟩
 case round=>
  clear hu hv c d;obtain ⟨C,D,hc,hd,hg,lc,ld,oc,od,hk⟩:=hrel;obtain ⟨ao,n,j,rfl,hn,l⟩:=hd.length;rcases Nat.eq_zero_or_pos D with h0 | h0
  ·have g:n=0:=by rw [hn.out,h0];rfl
   subst g;have f:Hid (C=Nat.gcd A B):=by have:=hg.out;rw [h0,Nat.gcd_zero_right] at this;exact this
   clear hg h0 hn;go_wp2;go_ret;exact ⟨_,rfl,by rw [← f.out];exact hc,oc.out,hk⟩
  ·have k:0<n:=by rw [hn.out];exact jv h0
   have hM:=nG _ _ C D wr hc hd h0 lc.out;have hlt:=Nat.mod_lt C h0;have i:=hd.of;go_wp2_with fail;refine hM.mono ?_;rintro e w1 ⟨v1,rfl,b1,o1,k1⟩;go_wp2;go_roundw
   case rel=>exact ⟨D,C%D,hd.grew k1,b1,by unfold Hid;rw [← hg.out,Nat.gcd_comm D,← Nat.gcd_rec,Nat.gcd_comm],ld,Nat.le_trans (bZ (Nat.mod_le _ _)) lc.out,od,fun x hx=>(o1 x hx).elim (oc.out x) (fun h=>.inr (.inr (Nat.le_trans hk.size h))),hk.trans k1⟩
   case measure=>rw [b1.of,i];exact hlt

attribute [local go_sem ↓] Go.wp_at_zero Go.wp_at_succ

theorem fZ (A B:Nat):aH (A*B)≤aH A+aH B:=by
 have h1:=(aS A _).1 (leR _);have h2:=(aS B _).1 (leR _);refine (aS _ _).2 ?_;rw [Nat.pow_add];exact Nat.mul_lt_mul'' h1 h2

theorem iF (A M:Nat) (hM:0<M):aH (A%M)≤aH M:=bZ (Nat.le_of_lt (Nat.mod_lt _ hM))

theorem rY (A E M j:Nat) (hb:E/2^j%2=0):(A^(E/2^(j+1))%M)*(A^(E/2^(j+1))%M)%M=A^(E/2^j)%M:=by
 rw [← Nat.mul_mod,← Nat.pow_add];have:E/2^(j+1)=E/2^j/2:=by rw [Nat.pow_succ,← Nat.div_div_eq_div_mul]
 rw [this];generalize E/2^j=q at *;rw [show q/2+q/2=q by omega]

theorem uH (A E M j:Nat) (hb:E/2^j%2=1):((A^(E/2^(j+1))%M)*(A^(E/2^(j+1))%M)%M)*(A%M)%M=A^(E/2^j)%M:=by
 rw [← Nat.mul_mod (A^(E/2^(j+1))) (A^(E/2^(j+1))) M,← Nat.mul_mod,← Nat.pow_add,← Nat.pow_succ];have:E/2^(j+1)=E/2^j/2:=by rw [Nat.pow_succ,← Nat.div_div_eq_div_mul]
 rw [this];generalize E/2^j=q at *;rw [show (q/2+q/2).succ=q by omega]

theorem vV (u x m:Value) (A E M:Nat) (w:World) (hu:IsBig w u A) (hx:IsBig w x E) (hm:IsBig w m M) (hM:0<M) (t:aH A≤10000000) (l:aH M≤1000000) :
  Calls Tryz.prog 38 #[u,x,m] w fun r w'=>∃ v',r=.returned v'∧IsBig w' v' (A^E%M)∧(∀ b,v'.ownBlock=some b→w.heap.size≤b)∧Kept af w w':=by
 have hS:=eF 1 (by omega) w;have C:=uu hx;have hB:=fun W (hk:Kept af w W)=>fN x E W (hx.grew hk)
 have q:aH 1≤10000000:=Nat.le_trans ((aS 1 1).2 (by omega)) (by omega);go_enter Tryz.func38,Tryz.ntmps38;go_wp2_with fail;refine hS.mono ?_;rintro e w1 ⟨v1,rfl,b1,o1,k1⟩;clear hS;go_wp2_with fail;refine (nG v1 m 1 M w1 b1 (hm.grew k1) hM q).mono ?_;rintro e w2 ⟨v2,rfl,b2,o2,k2⟩;have f:=k1.trans k2;have y:∀ b,v2.ownBlock=some b→w.heap.size≤b:=fun b hb=>(o2 b hb).elim (o1 b) (fun h=>Nat.le_trans k1.size h)
 clear b1 o1 k1 o2 k2 q;go_wp2_with fail;refine (nG u m A M w2 (hu.grew f) (hm.grew f) hM t).mono ?_;rintro e w3 ⟨v3,rfl,b3,o3,k3⟩;have v:=f.trans k3;have g:=b2.grew k3;clear b2 f k3 o3 hu t;go_wp2_with fail;refine (hB _ v).mono ?_;rintro e w4 ⟨rfl,rfl⟩;clear hB;have p:Hid (1%M=A^(E/2^au E)%M):=by
  unfold Hid;rw [Nat.div_eq_of_lt ((aA E _).1 (leR _)),Nat.pow_zero]
 obtain ⟨bl,a⟩:∃ bl,bl=au E:=⟨_,rfl⟩
 rw [← a] at C p;rw [← a];clear a;rw [p.out] at g;clear p;go_wp2_with fail;go_loopw [7,8] (fun o i wr=>∃ k:Nat,k≤bl∧i=.int .i64 ((k:Int)-1)∧IsBig wr o (A^(E/2^k)%M)∧Hid (∀ b,o.ownBlock=some b→w.heap.size≤b)∧Kept af w4 wr) (fun _ i _=>(intOf i+1).toNat)
 case atStart=>exact ⟨bl,leR _,by go_num,g,y,ah _ _⟩
 case round=>
  clear g y;obtain ⟨k,hk,rfl,ho,D,d⟩:=hrel;have KW:=v.trans d;cases k with
  | zero=>
   rw [Nat.pow_zero,Nat.div_one] at ho;go_wp2;go_ret;exact ⟨_,rfl,ho,D.out,KW⟩
  | succ j=>
   obtain ⟨P,hP⟩:∃ P,P=A^(E/2^(j+1))%M:=⟨_,rfl⟩
   rw [← hP] at ho;have B:aH P≤1000000:=by rw [hP];exact Nat.le_trans (iF _ _ hM) l
   have z:=fZ P P;have c:=fun W (hk:Kept af w W)=>A8 x E (j:Int) W (hx.grew hk) (by omega)
   rw [fy] at c;have s:=lY _ _ m P P M wr ho ho (hm.grew KW) hM (by omega) (by omega) (by omega);have H:aH (P*P%M)≤1000000:=Nat.le_trans (iF _ _ hM) l;have G:aH (A%M)≤1000000:=Nat.le_trans (iF _ _ hM) l;have F:=fZ (P*P%M) (A%M);have n:aH (P*P%M*(A%M))≤10000000:=by omega
   clear z F B;by_cases hb:E/2^j%2=0
   ·have hz:Hid (P*P%M=A^(E/2^j)%M):=by unfold Hid;rw [hP];exact rY A E M j hb
    rw [hb] at c;clear hb hP ho;go_wp2_with fail;refine s.mono ?_;rintro e w5 ⟨v5,rfl,b5,o5,k5⟩;go_wp2_with fail;refine (c _ (KW.trans k5)).mono ?_;rintro e w6 ⟨rfl,rfl⟩;go_wp2;go_roundw
    case rel=>exact ⟨j,by omega,by go_num,by rw [← hz.out];exact b5,fun b hb=>Nat.le_trans KW.size (o5 b hb),d.trans k5⟩
    case measure=>simp [intOf]
   ·have h1:E/2^j%2=1:=by omega
    have hz:Hid (P*P%M*(A%M)%M=A^(E/2^j)%M):=by unfold Hid;rw [hP];exact uH A E M j h1
    rw [h1] at c;clear hb hP ho h1;go_wp2_with fail;refine s.mono ?_;rintro e w5 ⟨v5,rfl,b5,o5,k5⟩;go_wp2_with fail;refine (c _ (KW.trans k5)).mono ?_;rintro e w6 ⟨rfl,rfl⟩;go_wp2_with fail;refine (lY v5 v3 m (P*P%M) (A%M) M w6 b5 (b3.grew (d.trans k5)) (hm.grew (KW.trans k5)) hM (by omega) (by omega) n).mono ?_;rintro e w7 ⟨v7,rfl,b7,o7,k7⟩;go_wp2;go_roundw
    case rel=>exact ⟨j,by omega,by go_num,by rw [← hz.out];exact b7,fun b hb=>Nat.le_trans (KW.trans k5).size (o7 b hb),(d.trans k5).trans k7⟩
    case measure=>simp [intOf]

attribute [local go_sem ↓] Go.wp_at_zero Go.wp_at_succ

def iD (A M T R:Nat):Prop:=(M:Int) ∣ (A:Int)*T-R

theorem mC (A M:Nat):iD A M 0 M:=by
 unfold iD;exact ⟨-1,by simp⟩

theorem mD (A M:Nat):iD A M 1 (A%M):=by
 unfold iD;refine ⟨((A/M:Nat):Int),?_⟩;have h:((M*(A/M)+A%M:Nat):Int)=A:=by rw [Nat.div_add_mod]
 rw [Int.natCast_add,Int.natCast_mul] at h;omega

theorem pX {A M T0 T1 R0 R1:Nat} (h0:iD A M T0 R0) (h1:iD A M T1 R1) (S:Nat) (hM:0<M)
  (hS:S=if R0/R1*T1%M≤T0 then T0-R0/R1*T1%M else T0+M-R0/R1*T1%M):iD A M S (R0%R1):=by
 unfold iD at *;obtain ⟨a,ha⟩:=h0;obtain ⟨b,hb⟩:=h1;have hq:((R1*(R0/R1)+R0%R1:Nat):Int)=R0:=by rw [Nat.div_add_mod]
 have hz:((M*(R0/R1*T1/M)+R0/R1*T1%M:Nat):Int)=((R0/R1*T1:Nat):Int):=by rw [Nat.div_add_mod]
 have d:=Nat.mod_lt (R0/R1*T1) hM;generalize R0/R1*T1/M=k at *;generalize hZ:R0/R1*T1%M=Z at *;clear hZ;generalize R0/R1=q at *;generalize R0%R1=r at *
 push_cast at hq hz
 by_cases hc:Z≤T0
 ·rw [if_pos hc] at hS;have c:(S:Int)=T0-Z:=by omega
  refine ⟨a-q*b+A*k,?_⟩;rw [c]
  grind
 ·rw [if_neg hc] at hS;have c:(S:Int)=T0+M-Z:=by omega
  refine ⟨a-q*b+A*k+A,?_⟩;rw [c]
  grind

theorem rS {A M T:Nat} (h:iD A M T 1) (hM:1<M):A*T%M=1:=by
 unfold iD at h;obtain ⟨k,hk⟩:=h;have h1:((A*T:Nat):Int)=M*k+1:=by push_cast;omega
 have h2:((A*T%M:Nat):Int)=1:=by
  rw [Int.natCast_emod,h1,Int.add_comm,Int.add_mul_emod_self_left];exact Int.emod_eq_of_lt (by omega) (by omega)
 omega

theorem oS {T0 Z M:Nat} (h0:T0<M) (hz:Z<M):(if Z≤T0 then T0-Z else T0+M-Z)<M:=by
 split <;> omega

theorem jQ (u m:Value) (A M:Nat) (w:World) (hu:IsBig w u A) (hm:IsBig w m M) (hM:1<M) (p:aH A≤10000000) (j:aH M≤1000000) :
  Calls Tryz.prog 48 #[u,m] w fun r w'=>∃ v',r=.returned (.tuple #[v',.bool (decide (Nat.gcd A M=1))])∧(Nat.gcd A M=1→∃ T,T<M∧A*T%M=1∧IsBig w' v' T)∧(Nat.gcd A M≠1→v'=.slice none 0 0)∧(∀ b,v'.ownBlock=some b→w.heap.size≤b)∧Kept af w w':=by
 have hD:=nG u m A M w hu hm (by omega) p;have hS:=fun W=>eF 1 (by omega) W
 clear hu p;have l:Hid (Nat.gcd M (A%M)=Nat.gcd A M):=by unfold Hid;rw [Nat.gcd_comm M,← Nat.gcd_rec,Nat.gcd_comm]
 go_enter Tryz.func48,Tryz.ntmps48;go_wp2_with fail;refine hD.mono ?_;rintro e w1 ⟨v1,rfl,b1,o1,k1⟩;clear hD;go_wp2_with fail;refine (hS _).mono ?_;rintro e w2 ⟨v2,rfl,b2,o2,k2⟩;have q:=k1.trans k2;go_wp2_with fail;go_loopw [6,7,8,9] (fun r0 r1 t0 t1 wr=>∃ (R0 R1 T0 T1:Nat),IsBig wr r0 R0∧IsBig wr r1 R1∧IsBig wr t0 T0∧IsBig wr t1 T1∧Hid (Nat.gcd R0 R1=Nat.gcd A M)∧Hid (R1<R0)∧Hid (R0≤M)∧Hid (T0<M)∧Hid (T1<M)∧Hid (iD A M T0 R0)∧Hid (iD A M T1 R1)∧Hid (∀ x,t0.ownBlock=some x→w.heap.size≤x)∧Hid (∀ x,t1.ownBlock=some x→w.heap.size≤x)∧Kept af w2 wr) (fun _ b _ _ wr=>rH wr b)
 case atStart=>exact ⟨M,A%M,0,1,hm.grew q,b1.grew k2,IsBig.nil _,b2,l,Nat.mod_lt _ (by omega),leR _,by unfold Hid;omega,hM,mC A M,mD A M,fun x h=>(by cases h),fun x h=>Nat.le_trans k1.size (o2 x h),ah _ _⟩
 case round=>
  clear b1 o1 b2 o2 k1 k2 l;obtain ⟨R0,R1,T0,T1,c0,c1,d0,d1,hg,hlt,g,l0,l1,g0,g1,x0,x1,hk⟩:=hrel;have KW:=q.trans hk;obtain ⟨ao,n,C,rfl,hn,E⟩:=c1.length;rcases Nat.eq_zero_or_pos R1 with h0 | h0
  ·have y:n=0:=by rw [hn.out,h0];rfl
   subst y;have f:Hid (R0=Nat.gcd A M):=by have:=hg.out;rw [h0,Nat.gcd_zero_right] at this;exact this
   clear hg h0 hn g1 c1 d1 hlt g l1 x1;have hC:=fun W v (hk:Kept af wr W) (hv:IsBig W v 1)=>iP _ v R0 1 W (c0.grew hk) hv
   by_cases h1:R0=1
   ·have d:aK R0 1=0:=by rw [h1];rfl
    rw [d] at hC;have o:Nat.gcd A M=1:=by rw [← f.out];exact h1
    rw [h1] at g0;have hT:Hid (A*T0%M=1):=rS g0.out hM;have HG:Hid (Nat.gcd A M=1):=o;clear o f g0 d h1 c0;go_wp2_with fail;refine (hS _).mono ?_;rintro e w3 ⟨v3,rfl,b3,o3,k3⟩;go_wp2_with fail;refine (hC _ _ k3 b3).mono ?_;rintro e w4 ⟨rfl,n4,rfl⟩;have k4:Kept af w3 (w3.drewN n4):=(ah _ _).drewN n4;go_wp2;go_ret2;exact ⟨_,by rw [aU HG.out];rfl,fun _=>⟨T0,l0.out,hT.out,d0.grew (k3.trans k4)⟩,fun h=>absurd HG.out h,x0.out,KW.trans (k3.trans k4)⟩
   ·have d:aK R0 1≠0:=by
     unfold aK;by_cases ha:R0<1
     ·rw [if_pos ha];decide
     ·rw [if_neg ha]
      first
       | (rw [if_pos (show 1<R0 by omega)];decide)
       | (rw [if_neg (show ¬ R0=1 from h1)];decide)
    obtain ⟨cc,k⟩:∃ cc,cc=aK R0 1:=⟨_,rfl⟩
    rw [← k] at hC d;have HG:Hid (Nat.gcd A M≠1):=by unfold Hid;rw [← f.out];exact h1
    clear f g0 k h1 c0 d0 l0 x0;go_wp2_with fail;refine (hS _).mono ?_;rintro e w3 ⟨v3,rfl,b3,o3,k3⟩;go_wp2_with fail;refine (hC _ _ k3 b3).mono ?_;rintro e w4 ⟨rfl,n4,rfl⟩;have k4:Kept af w3 (w3.drewN n4):=(ah _ _).drewN n4;go_wp2;go_ret2;exact ⟨.slice none 0 0,by rw [aI HG.out];rfl,fun h=>absurd h HG.out,fun _=>rfl,fun b hb=>(by cases hb),KW.trans (k3.trans k4)⟩
  ·have D:0<n:=by rw [hn.out];exact jv h0
   have hD:=lV _ _ R0 R1 wr c0 c1 h0 (Nat.le_trans (bZ g.out) (by omega));have a:=Nat.mod_lt R0 h0;have z:=c1.of;have hQ:R0/R1≤M:=Nat.le_trans (Nat.div_le_self _ _) g.out;have q1:aH (R0/R1)≤1000000:=Nat.le_trans (bZ hQ) j;have q2:aH T1≤1000000:=Nat.le_trans (bZ (Nat.le_of_lt l1.out)) j;have q3:aH T0≤1000000:=Nat.le_trans (bZ (Nat.le_of_lt l0.out)) j;have q4:=fZ (R0/R1) T1;obtain ⟨S,c⟩:∃ S,S=if R0/R1*T1%M≤T0 then T0-R0/R1*T1%M else T0+M-R0/R1*T1%M:=⟨_,rfl⟩
   have gS:Hid (iD A M S (R0%R1)):=pX g0.out g1.out S (by omega) c;have B:=Nat.mod_lt (R0/R1*T1) (show M > 0 by omega);have lS:Hid (S<M):=by unfold Hid;rw [c];exact oS l0.out B
   have t:Hid (Nat.gcd R1 (R0%R1)=Nat.gcd A M):=by unfold Hid;rw [← hg.out,Nat.gcd_comm R1,← Nat.gcd_rec,Nat.gcd_comm]
   have s:Hid (S=_):=c;have i:Hid (R1≤M):=Nat.le_trans (Nat.le_of_lt hlt.out) g.out;clear c hg g0 c0;go_wp2_with fail;refine hD.mono ?_;rintro e w3 ⟨vq,vr,rfl,bq,br,oq,F,k3⟩;have K3:=KW.trans k3;go_wp2_with fail;refine (lY vq _ m (R0/R1) T1 M w3 bq (d1.grew k3) (hm.grew K3) (by omega) (by omega) (by omega) (by omega)).mono ?_;rintro e w4 ⟨v4,rfl,b4,o4,k4⟩;have K4:=K3.trans k4;go_wp2_with fail;refine (vZ _ v4 m T0 (R0/R1*T1%M) M w4 (d0.grew (k3.trans k4)) b4 (hm.grew K4) (by omega) (by omega) (by omega)).mono ?_;rintro e w5 ⟨v5,rfl,b5,o5,k5⟩;rw [← s.out] at b5;have K5:=K4.trans k5;go_wp2;go_roundw
   case rel=>exact ⟨R1,R0%R1,T1,S,c1.grew ((k3.trans k4).trans k5),(br.grew k4).grew k5,d1.grew ((k3.trans k4).trans k5),b5,t,a,i,l1,lS,g1,gS,x1,fun x hx=>Nat.le_trans K4.size (o5 x hx),((hk.trans k3).trans k4).trans k5⟩
   case measure=>rw [((br.grew k4).grew k5).of,z];exact a

theorem lh {w:World} {v:Value} {X:Nat} (h:IsBig w v X) (hX:0<X):∃ b off n a d,v=.slice (some ⟨b,off,none⟩) n a∧0<n∧w.cell? ⟨b,off,none⟩=some (.int .u32 ((d:Nat):Int))∧d%2=X%2∧d<4294967296:=by
 obtain ⟨ds,hr,hd,_,rfl,_⟩:=h;cases ds with
 | nil=>simp [val] at hX
 | cons d ds=>
  obtain ⟨ao,n,a,rfl,hL,_,_,_,h4⟩:=hr.open;have hn:0<n:=by rw [← hL.out];simp
  obtain ⟨b,off,rfl,hc⟩:=h4 0 hn;refine ⟨b,off,n,a,d,rfl,hn,by simpa using hc,?_,hd d (by simp)⟩;simp only [val];omega

theorem jO (w:World):Calls Tryz.prog 96 #[] w fun r w'=>∃ v',r=.returned v'∧IsBig w' v' 1∧(∀ b,v'.ownBlock=some b→w.heap.size≤b)∧Kept af w w':=by
 have h:=eF 1 (by omega) w;go_enter Tryz.func96,Tryz.ntmps96;go_wp2_with fail;refine h.mono ?_;rintro e w1 ⟨v1,rfl,h1,h2,h3⟩;go_wp2_with fail;go_ret;exact ⟨_,rfl,h1,h2,h3⟩

theorem jp {w:World} {v:Value} {V:Nat} (h:IsBig w v V):au V≤100000000000:=by
 obtain ⟨ds,_,hd,_,rfl,hl⟩:=h;have h1:=ap (B:=4294967296) (by omega) hd;have h2:au (val ds 4294967296)≤32*ds.length:=(aA _ _).2 (by rw [Nat.pow_mul];exact h1);omega

def ef (X:Nat):Nat:=(au X+7)/8

theorem vU (v:Value) (xs:List Nat) (w:World) (hu:Row .u64 w v xs) (a:Digs xs) (hL:xs.length≤100000000) :
  Calls Tryz.prog 75 #[v] w fun e w'=>e=.returned (.int .i64 (ef (val xs):Nat))∧Kept af w w':=by
 have h1:=rOf v xs w hu a hL;obtain ⟨ao,L,d,rfl,-,-,-,-,-⟩:=hu.open;clear hu;go_enter Tryz.func75,Tryz.ntmps75;go_wp2_with fail;refine h1.mono ?_;rintro e w1 ⟨v1,rfl,b1,_,k1⟩;have h2:=fN v1 _ w1 b1;have hb:=jp b1;obtain ⟨t,ht⟩:∃ t,t=au (val xs):=⟨_,rfl⟩
 obtain ⟨z,hz⟩:∃ z,z=ef (val xs):=⟨_,rfl⟩
 have c:z=(t+7)/8:=by rw [hz,ht];rfl
 have HZ:=aa hz;rw [← ht] at h2 hb;have f:((t:Int)+7).tdiv 8=(z:Int):=by rw [Int.tdiv_eq_ediv_of_nonneg (by omega)];omega
 have b:((t:Int)+7)/8=(z:Int):=by omega
 clear h1 ht hz c;go_wp2_with fail;refine h2.mono ?_;rintro e w2 ⟨rfl,rfl⟩;go_wp2_with fail;go_ret;exact ⟨by rw [← HZ.out];first | rfl | (simp;omega),k1⟩

def rR (P Q L M:Nat):Nat:=if 130<L∨130<M then 2 else if P<2∨Q<2 then 1 else 0

def cX (P Q:Nat):Nat:=(P-1)/Nat.gcd (P-1) (Q-1)*(Q-1)

theorem qI (ao bo:Option Addr) (L M j l:Nat) (xs ys:List Nat) (E:Nat) (RL:List Nat) (hE:E=rR (val xs) (val ys) L M) (g:RL=if E=0 then digs (cX (val xs) (val ys)) (max (aj (cX (val xs) (val ys))) 1) else []) (w:World) (hu:Row .u64 w (.slice ao L j) xs) (hv:Row .u64 w (.slice bo M l) ys) (m:Digs xs) (n:Digs ys) (am:L≤1000000) (an:M≤1000000) :
  Calls Tryz.prog 99 #[.slice ao L j,.slice bo M l] w fun e w'=>∃ v',e=.returned (.tuple #[v',.int .i64 (E:Nat)])∧Row .u64 w' v' RL∧(∀ b,v'.ownBlock=some b→w.heap.size≤b)∧Kept af w w':=by
 obtain ⟨_,_,_,e1,hL,-,-,-,-⟩:=hu.open;cases e1
 obtain ⟨_,_,_,e1,hM,-,-,-,-⟩:=hv.open;cases e1
 have JX:Hid (∀ W,Kept af w W→Calls Tryz.prog 39 #[.slice ao L j] W fun r w'=>∃ v',r=.returned v'∧IsBig w' v' (val xs)∧(∀ b,v'.ownBlock=some b→W.heap.size≤b)∧Kept af W w'):=fun W k=>rOf _ xs W (hu.grew k) m (by rw [hL.out];omega)
 have JY:Hid (∀ W,Kept af w W→Calls Tryz.prog 39 #[.slice bo M l] W fun r w'=>∃ v',r=.returned v'∧IsBig w' v' (val ys)∧(∀ b,v'.ownBlock=some b→W.heap.size≤b)∧Kept af W w'):=fun W k=>rOf _ ys W (hv.grew k) n (by rw [hM.out];omega)
 by_cases hlen:130<L∨130<M
 ·have HE:Hid (E=2):=by unfold Hid;rw [hE,rR,if_pos hlen]
  have HR:Hid (RL=[]):=by unfold Hid;rw [g,if_neg (by rw [HE.out];omega)]
  clear hu hv hE g hL hM JX JY;by_cases h1:130<L
  ·have g1:(130:Int)<(L:Int):=by omega
   clear hlen;go_enter Tryz.func99,Tryz.ntmps99;go_wp2_with fail;go_ret2;exact ⟨_,by rw [HE.out];rfl,by rw [HR.out];exact Row.nil _ _,(fun b hb=>by cases hb),ah _ _⟩
  ·have g1:¬ (130:Int)<(L:Int):=by omega
   have g2:(130:Int)<(M:Int):=by omega
   clear hlen;go_enter Tryz.func99,Tryz.ntmps99;go_wp2_with fail;go_ret2;exact ⟨_,by rw [HE.out];rfl,by rw [HR.out];exact Row.nil _ _,(fun b hb=>by cases hb),ah _ _⟩
 ·have g1:¬ (130:Int)<(L:Int):=by omega
  have g2:¬ (130:Int)<(M:Int):=by omega
  have aq:aH (val xs)≤260:=by
   have:aH (val xs)≤2*L:=(aS _ _).2 (by rw [Nat.pow_mul,← hL.out];exact ap (by omega) m);omega
  have ar:aH (val ys)≤260:=by
   have:aH (val ys)≤2*M:=(aS _ _).2 (by rw [Nat.pow_mul,← hM.out];exact ap (by omega) n);omega
  rw [rR,if_neg hlen] at hE;have HE:=aa hE;have h:=aa g;clear hu hv hL hM hE g m n hlen;generalize val xs=P at *;generalize val ys=Q at *;go_enter Tryz.func99,Tryz.ntmps99;go_wp2_with fail;have h1:=JX.out _ (ah _ _);refine h1.mono ?_;rintro e w1 ⟨v1,rfl,b1,_,K1⟩;clear h1;have h2:=JY.out _ K1;go_wp2_with fail;refine h2.mono ?_;rintro e w2 ⟨v2,rfl,b2,_,k2⟩;have K2:=K1.trans k2;have b1:=b1.grew k2;clear h2;have h3:=eF 2 (by omega) w2;go_wp2_with fail;refine h3.mono ?_;rintro e w3 ⟨v3,rfl,b3,_,k3⟩;have K3:=K2.trans k3;have b1:=b1.grew k3;have b2:=b2.grew k3;clear h3;have h4:=iP v1 v3 P 2 w3 b1 b3;by_cases hP:P<2
  ·have f:Hid (E=1):=by unfold Hid;rw [HE.out,if_pos (.inl hP)]
   have HR:Hid (RL=[]):=by unfold Hid;rw [h.out,if_neg (by rw [f.out];omega)]
   rw [bk hP] at h4;go_wp2_with fail;refine h4.mono ?_;rintro e w4 ⟨rfl,m4,rfl⟩;go_wp2_with fail;go_ret2;exact ⟨_,by rw [f.out];rfl,by rw [HR.out];exact Row.nil _ _,(fun b hb=>by cases hb),K3.drewN m4⟩
  have O:=gD (show 2≤P by omega);have q4:decide (aK P 2<0)=false:=aI O;generalize aK P 2=c4 at *;go_wp2_with fail;refine h4.mono ?_;rintro e aw ⟨rfl,m4,rfl⟩;have k4:=(ah af w3).drewN m4;obtain ⟨w4,A⟩:∃ w4,w4=w3.drewN m4:=⟨_,rfl⟩
  rw [← A] at k4 ⊢;have K4:=K3.trans k4;have b1:=b1.grew k4;have b2:=b2.grew k4;have b3:=b3.grew k4;clear h4 A;have h5:=eF 2 (by omega) w4;go_wp2_with fail;refine h5.mono ?_;rintro e w5 ⟨v5,rfl,b5,_,k5⟩;have K5:=K4.trans k5;have b1:=b1.grew k5;have b2:=b2.grew k5;have b3:=b3.grew k5;clear h5;have h6:=iP v2 v5 Q 2 w5 b2 b5;by_cases hQ:Q<2
  ·have f:Hid (E=1):=by unfold Hid;rw [HE.out,if_pos (.inr hQ)]
   have HR:Hid (RL=[]):=by unfold Hid;rw [h.out,if_neg (by rw [f.out];omega)]
   rw [bk hQ] at h6;go_wp2_with fail;refine h6.mono ?_;rintro e w6 ⟨rfl,m6,rfl⟩;go_wp2_with fail;go_ret2;exact ⟨_,by rw [f.out];rfl,by rw [HR.out];exact Row.nil _ _,(fun b hb=>by cases hb),K5.drewN m6⟩
  have R:=gD (show 2≤Q by omega);have q6:decide (aK Q 2<0)=false:=aI R;have p:Hid (E=0):=by unfold Hid;rw [HE.out,if_neg (by omega)]
  have HR:Hid (RL=digs (cX P Q) (max (aj (cX P Q)) 1)):=by unfold Hid;rw [h.out,if_pos p.out]
  generalize aK Q 2=c6 at *;go_wp2_with fail;refine h6.mono ?_;rintro e ax ⟨rfl,m6,rfl⟩;have k6:=(ah af w5).drewN m6;obtain ⟨w6,B⟩:∃ w6,w6=w5.drewN m6:=⟨_,rfl⟩
  rw [← B] at k6 ⊢;have K6:=K5.trans k6;have b1:=b1.grew k6;have b2:=b2.grew k6;clear h6 B b3 b5;have h7:=jO w6;go_wp2_with fail;refine h7.mono ?_;rintro e w7 ⟨v7,rfl,b7,_,k7⟩;have K7:=K6.trans k7;have b1:=b1.grew k7;have b2:=b2.grew k7;clear h7;have h8:=oP v1 v7 P 1 w7 b1 b7 (by omega);go_wp2_with fail;refine h8.mono ?_;rintro e w8 ⟨v8,rfl,b8,_,k8⟩;have K8:=K7.trans k8;have b1:=b1.grew k8;have b2:=b2.grew k8;have b7:=b7.grew k8;clear h8;have h9:=jO w8;go_wp2_with fail;refine h9.mono ?_;rintro e w9 ⟨v9,rfl,b9,_,k9⟩;have K9:=K8.trans k9;have b1:=b1.grew k9;have b2:=b2.grew k9;have b7:=b7.grew k9;have b8:=b8.grew k9;clear h9;have s:=oP v2 v9 Q 1 w9 b2 b9 (by omega)
  go_wp2_with fail;refine s.mono ?_;rintro e ag ⟨D,rfl,a,_,d⟩;have F:=K9.trans d;have b1:=b1.grew d;have b2:=b2.grew d;have b7:=b7.grew d;have b8:=b8.grew d;have b9:=b9.grew d;clear s;have S:aH (P-1)≤260:=by have:=bZ (show P-1≤P by omega);omega
  have T:aH (Q-1)≤260:=by have:=bZ (show Q-1≤Q by omega);omega
  have t:=A9 v8 D (P-1) (Q-1) ag b8 a (by omega) (by omega);go_wp2_with fail;refine t.mono ?_;rintro e ai ⟨Z,rfl,J,_,c⟩;have G:=F.trans c;have b1:=b1.grew c;have b2:=b2.grew c;have b7:=b7.grew c;have b8:=b8.grew c;have b9:=b9.grew c;have a:=a.grew c;clear t;have U:0<Nat.gcd (P-1) (Q-1):=Nat.gcd_pos_of_pos_left _ (by omega);have v:=lV v8 Z (P-1) (Nat.gcd (P-1) (Q-1)) ai b8 J U (by omega);go_wp2_with fail;refine v.mono ?_;rintro e ak ⟨ab,ac,rfl,i,_,_,_,C⟩;have H:=G.trans C;have a:=a.grew C;clear v;have au:aH ((P-1)/Nat.gcd (P-1) (Q-1))≤260:=by have:=bZ (Nat.div_le_self (P-1) (Nat.gcd (P-1) (Q-1)));omega
  have x:=vW ab D _ (Q-1) ak i a (by omega) (by omega);go_wp2_with fail;refine x.mono ?_;rintro e al ⟨ad,rfl,N,_,o⟩;have q:=H.trans o;have a:=a.grew o;have i:=i.grew o;clear x;have y:=lW ad _ al N;go_wp2_with fail;refine y.mono ?_;rintro e av ⟨ae,rfl,Y,X,V⟩;have I:=q.trans V;clear y;go_wp2_with fail;go_ret2;exact ⟨_,by rw [p.out];rfl,by rw [HR.out];exact Y,(fun b hb=>by have z:ae.ownBlock=some b:=hb;rw [X] at z;cases z;exact q.size),I⟩

def eK (xs:List Nat) (e:Nat):Nat:=
 if xs.length=0∨1000<xs.length∨xs.getD (xs.length-1) 0=0∨val xs%2=0∨au (val xs)<32∨8192<au (val xs)∨e<3∨e%2=0∨4294967296≤e then 190 else 0

theorem qJ (ao:Option Addr) (L f:Nat) (xs:List Nat) (e:Nat) (he:e<18446744073709551616) (E:Nat) (hE:E=eK xs e) (w:World) (hu:Row .u64 w (.slice ao L f) xs) (g:Digs xs) (y:L≤1000000) :
  Calls Tryz.prog 51 #[.slice ao L f,.int .u64 (e:Nat)] w fun r w'=>r=.returned (.int .i64 (E:Nat))∧Kept af w w':=by
 obtain ⟨_,_,_,e1,hL,-,-,-,h4⟩:=hu.open;cases e1
 have hO:=rOf _ xs w hu g (by rw [hL.out];omega);have a:Hid ((L=0∨1000<L∨xs.getD (L-1) 0=0∨val xs%2=0∨au (val xs)<32∨8192<au (val xs)∨e<3∨e%2=0∨4294967296≤e)→E=190):=fun h=>by
  rw [hE,eK,hL.out,if_pos h]
 have c:Hid (¬ (L=0∨1000<L∨xs.getD (L-1) 0=0∨val xs%2=0∨au (val xs)<32∨8192<au (val xs)∨e<3∨e%2=0∨4294967296≤e)→E=0):=fun h=>by
  rw [hE,eK,hL.out,if_neg h]
 have d:Hid (xs.getD (L-1) 0≠0→0<L→0<val xs):=fun h h2=>by
  have hT:dR xs:=.inr (by rw [hL.out];exact h);have:=fw (B:=18446744073709551616) hT (by rw [hL.out];exact h2);exact Nat.lt_of_lt_of_le (Nat.pow_pos (by omega)) this
 clear hu g hE hL;generalize hXX:val xs=X at *;clear hXX;by_cases a1:L=0
 ·have HT:=aa (a.out (.inl a1));subst a1;clear h4 hO;go_enter Tryz.func51,Tryz.ntmps51;go_wp2_with fail;go_ret;exact ⟨by rw [HT.out];rfl,ah _ _⟩
 have q1:((L:Int) == 0)=false:=by simp;omega
 by_cases a2:1000<L
 ·have HT:=aa (a.out (.inr (.inl a2)));have g2:(1000:Int)<(L:Int):=by omega
  clear h4 hO;go_enter Tryz.func51,Tryz.ntmps51;go_wp2_with fail;go_ret;exact ⟨by rw [HT.out];rfl,ah _ _⟩
 have g2:¬ (1000:Int)<(L:Int):=by omega
 have q2:decide ((1000:Int)<(L:Int))=false:=aI g2;obtain ⟨m,hm⟩:∃ m,L=m+1:=⟨L-1,by omega⟩
 have j:L-1=m:=by omega
 rw [j] at a c d;obtain ⟨b,off,rfl,hc⟩:=h4 m (by omega);obtain ⟨z,hz⟩:∃ z,z=xs.getD m 0:=⟨_,rfl⟩
 rw [← hz] at hc a c d;have gw:IntKind.i64.wrap ((L:Int)-1)=(m:Int):=by rw [IntKind.wrap_i64];omega
 have gj:(L:Int)-1=(m:Int):=by omega
 have n:(0:Int)≤(m:Int):=by omega
 have o:(m:Int)<(L:Int):=by omega
 clear h4 hz hm j;by_cases a3:z=0
 ·have HT:=aa (a.out (.inr (.inr (.inl a3))));subst a3;clear hO;go_enter Tryz.func51,Tryz.ntmps51;go_wp2_with fail;go_ret;exact ⟨by rw [HT.out];rfl,ah _ _⟩
 have g3:¬ (z:Int)=0:=by omega
 have q3:((z:Int) == 0)=false:=by simp;omega
 have p:0<X:=d.out a3 (by omega);clear d;go_enter Tryz.func51,Tryz.ntmps51;go_wp2_with fail;refine hO.mono ?_;rintro r w1 ⟨v1,rfl,b1,_,k1⟩;have h2:=fN v1 X w1 b1;have q:=jp b1;obtain ⟨b5,v,n5,l,d5,rfl,F,A,C,D⟩:=lh b1 p;obtain ⟨t,ht⟩:∃ t,t=au X:=⟨_,rfl⟩
 rw [← ht] at h2 a c q;have x:(0:Int)<(n5:Int):=by omega
 have k:(d5:Int).tmod 2=((d5%2:Nat):Int):=by rw [Int.tmod_eq_emod_of_nonneg (by omega)];omega
 have i:(e:Int).tmod 2=((e%2:Nat):Int):=by rw [Int.tmod_eq_emod_of_nonneg (by omega)];omega
 clear hO ht b1 hc gw gj n o q1 q2 q3 g2 g3;go_wp2_with fail;refine h2.mono ?_;rintro r w2 ⟨rfl,rfl⟩;clear h2;by_cases a4:X%2=0
 ·have HT:=aa (a.out (.inr (.inr (.inr (.inl a4)))));have s:(d5:Int)%2=0:=by omega
  rw [show d5%2=0 by omega] at k;clear a c;go_wp2_with fail;go_ret;exact ⟨by rw [HT.out];rfl,k1⟩
 have s:(d5:Int)%2=1:=by omega
 rw [show d5%2=1 by omega] at k;by_cases a5:t<32
 ·have HT:=aa (a.out (.inr (.inr (.inr (.inr (.inl a5))))));have g5:(t:Int)<32:=by omega
  have q5:decide ((t:Int)<32)=true:=aU g5;clear a c;go_wp2_with fail;go_ret;exact ⟨by rw [HT.out];rfl,k1⟩
 have g5:¬ (t:Int)<32:=by omega
 have q5:decide ((t:Int)<32)=false:=aI g5;by_cases a6:8192<t
 ·have HT:=aa (a.out (.inr (.inr (.inr (.inr (.inr (.inl a6)))))));have g6:(8192:Int)<(t:Int):=by omega
  have q6:decide ((8192:Int)<(t:Int))=true:=aU g6;clear a c;go_wp2_with fail;go_ret;exact ⟨by rw [HT.out];rfl,k1⟩
 have g6:¬ (8192:Int)<(t:Int):=by omega
 have q6:decide ((8192:Int)<(t:Int))=false:=aI g6;by_cases a7:e<3
 ·have HT:=aa (a.out (.inr (.inr (.inr (.inr (.inr (.inr (.inl a7))))))));have g7:(e:Int)<3:=by omega
  have q7:decide ((e:Int)<3)=true:=aU g7;clear a c;go_wp2_with fail;go_ret;exact ⟨by rw [HT.out];rfl,k1⟩
 have g7:¬ (e:Int)<3:=by omega
 have q7:decide ((e:Int)<3)=false:=aI g7;by_cases a8:e%2=0
 ·have HT:=aa (a.out (.inr (.inr (.inr (.inr (.inr (.inr (.inr (.inl a8)))))))));have g8:(e:Int)%2=0:=by omega
  rw [show e%2=0 by omega] at i;clear a c;go_wp2_with fail;go_ret;exact ⟨by rw [HT.out];rfl,k1⟩
 have g8:(e:Int)%2=1:=by omega
 rw [show e%2=1 by omega] at i;by_cases a9:4294967296≤e
 ·have HT:=aa (a.out (.inr (.inr (.inr (.inr (.inr (.inr (.inr (.inr (a9))))))))));have g9:(4294967296:Int)≤(e:Int):=by omega
  have q9:decide ((4294967296:Int)≤(e:Int))=true:=aU g9;clear a c;go_wp2_with fail;go_ret;exact ⟨by rw [HT.out];rfl,k1⟩
 have g9:¬ (4294967296:Int)≤(e:Int):=by omega
 have q9:decide ((4294967296:Int)≤(e:Int))=false:=aI g9;have HT:Hid (E=0):=c.out (by omega);clear a c;go_wp2_with fail;go_ret;exact ⟨by rw [HT.out];rfl,k1⟩

theorem pT (m:List Nat):∀ a,m.foldl (fun a b=>a*256+b) a=a*256^m.length+bev m:=by
 unfold bev
 induction m with
 | nil=>intro a;simp
 | cons x m ih=>
  intro a;rw [List.foldl_cons,ih,List.foldl_cons,ih (0*256+x),List.length_cons,Nat.pow_succ];simp only [Nat.zero_mul,Nat.zero_add,Nat.add_mul,Nat.mul_assoc,Nat.add_assoc,Nat.mul_comm 256]

theorem iW (l m:List Nat):bev (l ++ m)=bev l*256^m.length+bev m:=by
 show (l ++ m).foldl _ 0=_
 rw [List.foldl_append,pT];rfl

theorem ik {l:List Nat} (h:Digs l 256):bev l<256^l.length:=by
 induction l with
 | nil=>simp [bev]
 | cons x m ih=>
  have e:=iW [x] m;rw [List.singleton_append] at e;have hx:=h.head;have hm:=ih h.tail;rw [e,List.length_cons,Nat.pow_succ];have:(x+1)*256^m.length≤256*256^m.length:=Nat.mul_le_mul_right _ hx;rw [Nat.add_mul,Nat.one_mul] at this;have e2:bev [x]=x:=by simp [bev]
  rw [e2,Nat.mul_comm (256^m.length)];omega

theorem rC {l:List Nat} (h:Digs l 256):aH (bev l)≤l.length:=by
 rw [aS];exact Nat.lt_of_lt_of_le (ik h) (Nat.pow_le_pow_left (by omega) _)

theorem jq {xs:List Nat} (h:Digs xs):au (val xs)≤64*xs.length:=by
 rw [aA,Nat.pow_mul];exact ap (by omega) h

theorem uB {xs:List Nat} (h:Digs xs):aH (val xs)≤2*xs.length:=by
 rw [aS,Nat.pow_mul];exact ap (by omega) h

theorem aE {W:World} {p:Nat} {a b c d e f g h:Value} {t:TypeId} (hh:W.heap[p]? = some (.cells #[a,b,c,d,e,f,g,h] t (0,0))) :
  W.cell? ⟨p,0,none⟩=some a∧W.cell? ⟨p,1,none⟩=some b∧W.cell? ⟨p,2,none⟩=some c∧W.cell? ⟨p,3,none⟩=some d∧W.cell? ⟨p,4,none⟩=some e∧W.cell? ⟨p,5,none⟩=some f∧W.cell? ⟨p,6,none⟩=some g∧W.cell? ⟨p,7,none⟩=some h:=by
 simp [World.cell?,hh]

theorem vT (aj ad am ap o r v ax au aA aD z C F:Option Addr) (ai ag ac ab al ak ao an n m q p t s aw av ar aq az ay aC aB y x B A E D ae be:Nat) (J I L M d f g O N P Q i j l:List Nat) (R:Bool) (hR:R=true↔ae=be∧J=O∧I=N∧L=P∧M=Q∧d=i∧f=j∧g=l) (w:World) (aF:Row .u64 w (.slice aj ai ag) J) (aE:Row .u64 w (.slice ad ac ab) I) (aG:Row .u64 w (.slice am al ak) L) (aH:Row .u64 w (.slice ap ao an) M) (S:Row .u64 w (.slice o n m) d) (T:Row .u64 w (.slice r q p) f) (U:Row .u64 w (.slice v t s) g) (aK:Row .u64 w (.slice ax aw av) O) (aJ:Row .u64 w (.slice au ar aq) N) (aL:Row .u64 w (.slice aA az ay) P) (aM:Row .u64 w (.slice aD aC aB) Q) (V:Row .u64 w (.slice z y x) i) (X:Row .u64 w (.slice C B A) j) (Y:Row .u64 w (.slice F E D) l) :
  Calls Tryz.prog 57 #[.agg #[.slice aj ai ag,.int .u64 (ae:Nat),.slice ad ac ab,.slice am al ak,.slice ap ao an,.slice o n m,.slice r q p,.slice v t s],.agg #[.slice ax aw av,.int .u64 (be:Nat),.slice au ar aq,.slice aA az ay,.slice aD aC aB,.slice z y x,.slice C B A,.slice F E D]] w fun e w'=>e=.returned (.bool R)∧Kept af w w':=by
 have HR:=aa hR;have HF:Hid (¬ (ae=be∧J=O∧I=N∧L=P∧M=Q∧d=i∧f=j∧g=l)→R=false):=fun h=>by
  cases h2:R with
  | false=>rfl
  | true=>exact absurd (HR.out.1 h2) h
 have k0:Kept af w ((w.alloc (.cells #[.slice aj ai ag,.int .u64 (ae:Nat),.slice ad ac ab,.slice am al ak,.slice ap ao an,.slice o n m,.slice r q p,.slice v t s] 26)).alloc (.cells #[.slice ax aw av,.int .u64 (be:Nat),.slice au ar aq,.slice aA az ay,.slice aD aC aB,.slice z y x,.slice C B A,.slice F E D] 26)):=((ah af w).alloc _).alloc _;have Jn:=aa (fun W (k:Kept af w W)=>gY _ _ J O W (aF.grew k) (aK.grew k));have Jd:=aa (fun W (k:Kept af w W)=>gY _ _ I N W (aE.grew k) (aJ.grew k));have Jp:=aa (fun W (k:Kept af w W)=>gY _ _ L P W (aG.grew k) (aL.grew k))
 have Jq:=aa (fun W (k:Kept af w W)=>gY _ _ M Q W (aH.grew k) (aM.grew k));have a:=aa (fun W (k:Kept af w W)=>gY _ _ d i W (S.grew k) (V.grew k));have b:=aa (fun W (k:Kept af w W)=>gY _ _ f j W (T.grew k) (X.grew k));have c:=aa (fun W (k:Kept af w W)=>gY _ _ g l W (U.grew k) (Y.grew k));clear hR aF aK aE aJ aG aL aH aM S V T X U Y;by_cases he:ae=be
 ·subst he;by_cases e0:J=O
  ·have hn:=Jn.out;rw [aU e0] at hn;by_cases e1:I=N
   ·have hd:=Jd.out;rw [aU e1] at hd;by_cases e2:L=P
    ·have hp:=Jp.out;rw [aU e2] at hp;by_cases e3:M=Q
     ·have hq:=Jq.out;rw [aU e3] at hq;by_cases e4:d=i
      ·have G:=a.out;rw [aU e4] at G;by_cases e5:f=j
       ·have H:=b.out;rw [aU e5] at H;by_cases e6:g=l
        ·have Z:=c.out;rw [aU e6] at Z;have HT:Hid (R=true):=HR.out.2 ⟨rfl,e0,e1,e2,e3,e4,e5,e6⟩;clear HR HF Jn Jd Jp Jq a b c e0 e1 e2 e3 e4 e5 e6;go_enter Tryz.func57,Tryz.ntmps57;go_wp2_with fail;refine (hn _ k0).mono ?_;rintro e w0 ⟨rfl,m0,rfl⟩;go_wp2_with fail;refine (hd _ (k0.drewN _)).mono ?_;rintro e w1 ⟨rfl,m1,rfl⟩;go_wp2_with fail;refine (hp _ (k0.drewN _)).mono ?_;rintro e w2 ⟨rfl,m2,rfl⟩;go_wp2_with fail;refine (hq _ (k0.drewN _)).mono ?_;rintro e w3 ⟨rfl,m3,rfl⟩;go_wp2_with fail;refine (G _ (k0.drewN _)).mono ?_;rintro e w4 ⟨rfl,m4,rfl⟩;go_wp2_with fail;refine (H _ (k0.drewN _)).mono ?_;rintro e w5 ⟨rfl,m5,rfl⟩;go_wp2_with fail
         refine (Z _ (k0.drewN _)).mono ?_;rintro e w6 ⟨rfl,m6,rfl⟩;go_wp2_with fail;go_ret;exact ⟨by rw [HT.out];rfl,k0.drewN _⟩
        ·have HT:=aa (HF.out (fun h=>e6 h.2.2.2.2.2.2.2));have Z:=c.out;rw [aI e6] at Z;clear HR HF Jn Jd Jp Jq a b c e0 e1 e2 e3 e4 e5 e6;go_enter Tryz.func57,Tryz.ntmps57;go_wp2_with fail;refine (hn _ k0).mono ?_;rintro e w0 ⟨rfl,m0,rfl⟩;go_wp2_with fail;refine (hd _ (k0.drewN _)).mono ?_;rintro e w1 ⟨rfl,m1,rfl⟩;go_wp2_with fail;refine (hp _ (k0.drewN _)).mono ?_;rintro e w2 ⟨rfl,m2,rfl⟩;go_wp2_with fail;refine (hq _ (k0.drewN _)).mono ?_;rintro e w3 ⟨rfl,m3,rfl⟩;go_wp2_with fail;refine (G _ (k0.drewN _)).mono ?_;rintro e w4 ⟨rfl,m4,rfl⟩;go_wp2_with fail;refine (H _ (k0.drewN _)).mono ?_;rintro e w5 ⟨rfl,m5,rfl⟩;go_wp2_with fail;refine (Z _ (k0.drewN _)).mono ?_
         rintro e w6 ⟨rfl,m6,rfl⟩;go_wp2_with fail;go_ret;exact ⟨by rw [HT.out];rfl,k0.drewN _⟩
       ·have HT:=aa (HF.out (fun h=>e5 h.2.2.2.2.2.2.1));have H:=b.out;rw [aI e5] at H;clear HR HF Jn Jd Jp Jq a b c e0 e1 e2 e3 e4 e5;go_enter Tryz.func57,Tryz.ntmps57;go_wp2_with fail;refine (hn _ k0).mono ?_;rintro e w0 ⟨rfl,m0,rfl⟩;go_wp2_with fail;refine (hd _ (k0.drewN _)).mono ?_;rintro e w1 ⟨rfl,m1,rfl⟩;go_wp2_with fail;refine (hp _ (k0.drewN _)).mono ?_;rintro e w2 ⟨rfl,m2,rfl⟩;go_wp2_with fail;refine (hq _ (k0.drewN _)).mono ?_;rintro e w3 ⟨rfl,m3,rfl⟩;go_wp2_with fail;refine (G _ (k0.drewN _)).mono ?_;rintro e w4 ⟨rfl,m4,rfl⟩;go_wp2_with fail;refine (H _ (k0.drewN _)).mono ?_;rintro e w5 ⟨rfl,m5,rfl⟩;go_wp2_with fail;go_ret
        exact ⟨by rw [HT.out];rfl,k0.drewN _⟩
      ·have HT:=aa (HF.out (fun h=>e4 h.2.2.2.2.2.1));have G:=a.out;rw [aI e4] at G;clear HR HF Jn Jd Jp Jq a b c e0 e1 e2 e3 e4;go_enter Tryz.func57,Tryz.ntmps57;go_wp2_with fail;refine (hn _ k0).mono ?_;rintro e w0 ⟨rfl,m0,rfl⟩;go_wp2_with fail;refine (hd _ (k0.drewN _)).mono ?_;rintro e w1 ⟨rfl,m1,rfl⟩;go_wp2_with fail;refine (hp _ (k0.drewN _)).mono ?_;rintro e w2 ⟨rfl,m2,rfl⟩;go_wp2_with fail;refine (hq _ (k0.drewN _)).mono ?_;rintro e w3 ⟨rfl,m3,rfl⟩;go_wp2_with fail;refine (G _ (k0.drewN _)).mono ?_;rintro e w4 ⟨rfl,m4,rfl⟩;go_wp2_with fail;go_ret;exact ⟨by rw [HT.out];rfl,k0.drewN _⟩
     ·have HT:=aa (HF.out (fun h=>e3 h.2.2.2.2.1));have hq:=Jq.out;rw [aI e3] at hq;clear HR HF Jn Jd Jp Jq a b c e0 e1 e2 e3;go_enter Tryz.func57,Tryz.ntmps57;go_wp2_with fail;refine (hn _ k0).mono ?_;rintro e w0 ⟨rfl,m0,rfl⟩;go_wp2_with fail;refine (hd _ (k0.drewN _)).mono ?_;rintro e w1 ⟨rfl,m1,rfl⟩;go_wp2_with fail;refine (hp _ (k0.drewN _)).mono ?_;rintro e w2 ⟨rfl,m2,rfl⟩;go_wp2_with fail;refine (hq _ (k0.drewN _)).mono ?_;rintro e w3 ⟨rfl,m3,rfl⟩;go_wp2_with fail;go_ret;exact ⟨by rw [HT.out];rfl,k0.drewN _⟩
    ·have HT:=aa (HF.out (fun h=>e2 h.2.2.2.1));have hp:=Jp.out;rw [aI e2] at hp;clear HR HF Jn Jd Jp Jq a b c e0 e1 e2;go_enter Tryz.func57,Tryz.ntmps57;go_wp2_with fail;refine (hn _ k0).mono ?_;rintro e w0 ⟨rfl,m0,rfl⟩;go_wp2_with fail;refine (hd _ (k0.drewN _)).mono ?_;rintro e w1 ⟨rfl,m1,rfl⟩;go_wp2_with fail;refine (hp _ (k0.drewN _)).mono ?_;rintro e w2 ⟨rfl,m2,rfl⟩;go_wp2_with fail;go_ret;exact ⟨by rw [HT.out];rfl,k0.drewN _⟩
   ·have HT:=aa (HF.out (fun h=>e1 h.2.2.1));have hd:=Jd.out;rw [aI e1] at hd;clear HR HF Jn Jd Jp Jq a b c e0 e1;go_enter Tryz.func57,Tryz.ntmps57;go_wp2_with fail;refine (hn _ k0).mono ?_;rintro e w0 ⟨rfl,m0,rfl⟩;go_wp2_with fail;refine (hd _ (k0.drewN _)).mono ?_;rintro e w1 ⟨rfl,m1,rfl⟩;go_wp2_with fail;go_ret;exact ⟨by rw [HT.out];rfl,k0.drewN _⟩
  ·have HT:=aa (HF.out (fun h=>e0 h.2.1));have hn:=Jn.out;rw [aI e0] at hn;clear HR HF Jn Jd Jp Jq a b c e0;go_enter Tryz.func57,Tryz.ntmps57;go_wp2_with fail;refine (hn _ k0).mono ?_;rintro e w0 ⟨rfl,m0,rfl⟩;go_wp2_with fail;go_ret;exact ⟨by rw [HT.out];rfl,k0.drewN _⟩
 ·have HT:=aa (HF.out (fun h=>he h.1));have ge:¬ (ae:Int)=(be:Int):=by omega
  have qe:((ae:Int) == (be:Int))=false:=by simp;omega
  clear HR HF Jn Jd Jp Jq a b c;go_enter Tryz.func57,Tryz.ntmps57;go_wp2_with fail;go_ret;exact ⟨by rw [HT.out];rfl,k0⟩

end Go.Proofs.YtkaojflnghfmcaaGreatDoor
