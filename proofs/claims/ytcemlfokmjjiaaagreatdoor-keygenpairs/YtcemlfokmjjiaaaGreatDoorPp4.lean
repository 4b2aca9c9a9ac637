/- Put together of: BigM Prm2 Key1 Key2 Bev1 Key3 Key4 Key5 Num1 Key6 Prm3 Str1. -/
import Derived.Test.YtcemlfokmjjiaaaGreatDoorPp3

namespace Go.Proofs.YtcemlfokmjjiaaaGreatDoor
set_option maxRecDepth 100000
set_option maxHeartbeats 4000000
open Go.RowKit

attribute [local go_sem ↓] Go.wp_at_zero Go.wp_at_succ

theorem qz (u v:Value) (A M:Nat) (w:World) (hu:IsBig w u A) (hv:IsBig w v M) (hM:0<M) (a:aI A≤10000000) :
  Calls Tryz.prog 67 #[u,v] w fun r w'=>∃ v',r=.returned v'∧IsBig w' v' (A%M)∧(∀ b,v'.ownBlock=some b→u.ownBlock=some b∨w.heap.size≤b)∧Kept ae w w':=by
 have hD:=vY u v A M w hu hv hM a;clear hu hv hM a;go_enter Tryz.func67,Tryz.ntmps67;go_wp2_with fail;refine hD.mono ?_;rintro e w1 ⟨v1,v2,rfl,b1,b2,o1,o2,k⟩;go_wp2;go_ret;exact ⟨v2,rfl,b2,o2,k⟩

theorem ll (u v m:Value) (A B M:Nat) (w:World) (hu:IsBig w u A) (hv:IsBig w v B) (hm:IsBig w m M) (hM:0<M) (a:aI A≤100000000) (c:aI B≤100000000) (d:aI (A*B)≤10000000) :
  Calls Tryz.prog 111 #[u,v,m] w fun r w'=>∃ v',r=.returned v'∧IsBig w' v' (A*B%M)∧(∀ b,v'.ownBlock=some b→w.heap.size≤b)∧Kept ae w w':=by
 have hD:=AM u v A B w hu hv a c;clear hu hv a c;go_enter Tryz.func111,Tryz.ntmps111;go_wp2_with fail;refine hD.mono ?_;rintro e w1 ⟨v1,rfl,b1,o1,k1⟩;go_wp2_with fail;refine (qz v1 m (A*B) M w1 b1 (hm.grew k1) hM d).mono ?_;rintro e w2 ⟨v2,rfl,b2,o2,k2⟩;go_wp2;go_ret;exact ⟨v2,rfl,b2,fun b hb=>(o2 b hb).elim (fun h=>o1 b h) (fun h=>Nat.le_trans k1.size h),k1.trans k2⟩

attribute [local go_sem ↓] Go.wp_at_zero Go.wp_at_succ

def cellN (w:World) (a:Addr):Nat:=
 match w.cell? a with
 | some (.int _ z)=>z.toNat
 | _=>0

def yN (w:World):Value→Nat
 | .slice (some a) n _=>val ((List.range n).map fun i=>cellN w ⟨a.block,a.off+i,none⟩) 4294967296
 | _=>0

theorem IsBig.of {w:World} {v:Value} {V:Nat} (h:IsBig w v V):yN w v=V:=by
 obtain ⟨ds,h1,_,_,rfl,_⟩:=h;obtain ⟨ao,cap,rfl,_,_,_,hc⟩:=h1;cases ao with
 | none=>
  have:ds=[]:=by
   rcases ds with _ | ⟨d,r⟩
   ·rfl
   ·obtain ⟨b,off,e,_⟩:=hc 0 (by simp);cases e
  subst this;rfl
 | some a=>
  show val ((List.range ds.length).map fun i=>cellN w ⟨a.block,a.off+i,none⟩) 4294967296=_
  congr 1
  refine List.ext_getElem (by simp) (fun i h1 h2=>?_);obtain ⟨b,off,e,c⟩:=hc i h2;cases e
  rw [List.getElem_map,List.getElem_range];unfold cellN;rw [c,List.getD_eq_getElem?_getD,List.getElem?_eq_getElem h2];simp

theorem IsBig.length {w:World} {v:Value} {V:Nat} (h:IsBig w v V):∃ ao n cap,v=.slice ao n cap∧Hid (n=aI V)∧n≤1000000000:=by
 obtain ⟨ds,h1,h2,h3,h4,h5⟩:=h;obtain ⟨ao,n,cap,e,hN,_⟩:=h1.open;refine ⟨ao,n,cap,e,?_,by rw [← hN.out];exact h5⟩;have:=cV h2 h3;rw [h4] at this;unfold Hid;rw [← this,hN.out]

theorem jL {A:Nat} (h:0<A):0<aI A:=by
 rcases Nat.eq_zero_or_pos (aI A) with h0 | h0
 ·have:=(aK A 0).1 (by omega);rw [Nat.pow_zero] at this;omega
 ·exact h0

theorem Cg (u v:Value) (A B:Nat) (w:World) (hu:IsBig w u A) (hv:IsBig w v B) (c:aI A≤10000000) (d:aI B≤10000000) :
  Calls Tryz.prog 32 #[u,v] w fun r w'=>∃ v',r=.returned v'∧IsBig w' v' (Nat.gcd A B)∧(∀ b,v'.ownBlock=some b→u.ownBlock=some b∨v.ownBlock=some b∨w.heap.size≤b)∧Kept ae w w':=by
 go_enter Tryz.func32,Tryz.ntmps32;go_wp2_with fail;go_loopw [0,1] (fun a b wr=>∃ (C D:Nat),IsBig wr a C∧IsBig wr b D∧Hid (Nat.gcd C D=Nat.gcd A B)∧Hid (aI C≤10000000)∧Hid (aI D≤10000000)∧Hid (∀ x,a.ownBlock=some x→u.ownBlock=some x∨v.ownBlock=some x∨w.heap.size≤x)∧Hid (∀ x,b.ownBlock=some x→u.ownBlock=some x∨v.ownBlock=some x∨w.heap.size≤x)∧Kept ae w wr) (fun _ b wr=>yN wr b)
 case atStart=>exact ⟨A,B,hu,hv,rfl,c,d,fun x h=>.inl h,fun x h=>.inr (.inl h),ah _ _⟩
 case round=>
  clear hu hv c d;obtain ⟨C,D,hc,hd,hg,lc,ld,oc,od,hk⟩:=hrel;obtain ⟨ao,n,cap,rfl,hn,k⟩:=hd.length;rcases Nat.eq_zero_or_pos D with h0 | h0
  ·have g:n=0:=by rw [hn.out,h0];rfl
   subst g;have f:Hid (C=Nat.gcd A B):=by have:=hg.out;rw [h0,Nat.gcd_zero_right] at this;exact this
   clear hg h0 hn;go_wp2;go_ret;exact ⟨_,rfl,by rw [← f.out];exact hc,oc.out,hk⟩
  ·have j:0<n:=by rw [hn.out];exact jL h0
   have hM:=qz _ _ C D wr hc hd h0 lc.out;have hlt:=Nat.mod_lt C h0;have i:=hd.of;go_wp2_with fail;refine hM.mono ?_;rintro e w1 ⟨v1,rfl,b1,o1,k1⟩;go_wp2;go_roundw
   case rel=>exact ⟨D,C%D,hd.grew k1,b1,by unfold Hid;rw [← hg.out,Nat.gcd_comm D,← Nat.gcd_rec,Nat.gcd_comm],ld,Nat.le_trans (dK (Nat.mod_le _ _)) lc.out,od,fun x hx=>(o1 x hx).elim (oc.out x) (fun h=>.inr (.inr (Nat.le_trans hk.size h))),hk.trans k1⟩
   case measure=>rw [b1.of,i];exact hlt

attribute [local go_sem ↓] Go.wp_at_zero Go.wp_at_succ

theorem mV (A B:Nat):aI (A*B)≤aI A+aI B:=by
 have h1:=(aK A _).1 (leR _);have h2:=(aK B _).1 (leR _);refine (aK _ _).2 ?_;rw [Nat.pow_add];exact Nat.mul_lt_mul'' h1 h2

theorem iQ (A M:Nat) (hM:0<M):aI (A%M)≤aI M:=dK (Nat.le_of_lt (Nat.mod_lt _ hM))

theorem tZ (A E M j:Nat) (hb:E/2^j%2=0):(A^(E/2^(j+1))%M)*(A^(E/2^(j+1))%M)%M=A^(E/2^j)%M:=by
 rw [← Nat.mul_mod,← Nat.pow_add];have:E/2^(j+1)=E/2^j/2:=by rw [Nat.pow_succ,← Nat.div_div_eq_div_mul]
 rw [this];generalize E/2^j=q at *;rw [show q/2+q/2=q by omega]

theorem vV (A E M j:Nat) (hb:E/2^j%2=1):((A^(E/2^(j+1))%M)*(A^(E/2^(j+1))%M)%M)*(A%M)%M=A^(E/2^j)%M:=by
 rw [← Nat.mul_mod (A^(E/2^(j+1))) (A^(E/2^(j+1))) M,← Nat.mul_mod,← Nat.pow_add,← Nat.pow_succ];have:E/2^(j+1)=E/2^j/2:=by rw [Nat.pow_succ,← Nat.div_div_eq_div_mul]
 rw [this];generalize E/2^j=q at *;rw [show (q/2+q/2).succ=q by omega]

theorem xV (u x m:Value) (A E M:Nat) (w:World) (hu:IsBig w u A) (hx:IsBig w x E) (hm:IsBig w m M) (hM:0<M) (s:aI A≤10000000) (p:aI M≤1000000) :
  Calls Tryz.prog 129 #[u,x,m] w fun r w'=>∃ v',r=.returned v'∧IsBig w' v' (A^E%M)∧(∀ b,v'.ownBlock=some b→w.heap.size≤b)∧Kept ae w w':=by
 have hS:=cN 1 (by omega) w;have C:=vF hx;have hB:=fun W (hk:Kept ae w W)=>pq x E W (hx.grew hk)
 have t:aI 1≤10000000:=Nat.le_trans ((aK 1 1).2 (by omega)) (by omega);go_enter Tryz.func129,Tryz.ntmps129;go_wp2_with fail;refine hS.mono ?_;rintro e w1 ⟨v1,rfl,b1,o1,k1⟩;clear hS;go_wp2_with fail;refine (qz v1 m 1 M w1 b1 (hm.grew k1) hM t).mono ?_;rintro e w2 ⟨v2,rfl,b2,o2,k2⟩;have f:=k1.trans k2;have y:∀ b,v2.ownBlock=some b→w.heap.size≤b:=fun b hb=>(o2 b hb).elim (o1 b) (fun h=>Nat.le_trans k1.size h)
 clear b1 o1 k1 o2 k2 t;go_wp2_with fail;refine (qz u m A M w2 (hu.grew f) (hm.grew f) hM s).mono ?_;rintro e w3 ⟨v3,rfl,b3,o3,k3⟩;have v:=f.trans k3;have l:=b2.grew k3;clear b2 f k3 o3 hu s;go_wp2_with fail;refine (hB _ v).mono ?_;rintro e w4 ⟨rfl,rfl⟩;clear hB;have n:Hid (1%M=A^(E/2^au E)%M):=by
  unfold Hid;rw [Nat.div_eq_of_lt ((aA E _).1 (leR _)),Nat.pow_zero]
 obtain ⟨bl,a⟩:∃ bl,bl=au E:=⟨_,rfl⟩
 rw [← a] at C n;rw [← a];clear a;rw [n.out] at l;clear n;go_wp2_with fail;go_loopw [7,8] (fun o i wr=>∃ k:Nat,k≤bl∧i=.int .i64 ((k:Int)-1)∧IsBig wr o (A^(E/2^k)%M)∧Hid (∀ b,o.ownBlock=some b→w.heap.size≤b)∧Kept ae w4 wr) (fun _ i _=>(intOf i+1).toNat)
 case atStart=>exact ⟨bl,leR _,by go_num,l,y,ah _ _⟩
 case round=>
  clear l y;obtain ⟨k,hk,rfl,ho,z,d⟩:=hrel;have KW:=v.trans d;cases k with
  | zero=>
   rw [Nat.pow_zero,Nat.div_one] at ho;go_wp2;go_ret;exact ⟨_,rfl,ho,z.out,KW⟩
  | succ j=>
   obtain ⟨P,hP⟩:∃ P,P=A^(E/2^(j+1))%M:=⟨_,rfl⟩
   rw [← hP] at ho;have D:aI P≤1000000:=by rw [hP];exact Nat.le_trans (iQ _ _ hM) p
   have F:=mV P P;have c:=fun W (hk:Kept ae w W)=>vR x E (j:Int) W (hx.grew hk) (by omega)
   rw [ew] at c;have q:=ll _ _ m P P M wr ho ho (hm.grew KW) hM (by omega) (by omega) (by omega);have G:aI (P*P%M)≤1000000:=Nat.le_trans (iQ _ _ hM) p;have H:aI (A%M)≤1000000:=Nat.le_trans (iQ _ _ hM) p;have B:=mV (P*P%M) (A%M);have g:aI (P*P%M*(A%M))≤10000000:=by omega
   clear F B D;by_cases hb:E/2^j%2=0
   ·have hz:Hid (P*P%M=A^(E/2^j)%M):=by unfold Hid;rw [hP];exact tZ A E M j hb
    rw [hb] at c;clear hb hP ho;go_wp2_with fail;refine q.mono ?_;rintro e w5 ⟨v5,rfl,b5,o5,k5⟩;go_wp2_with fail;refine (c _ (KW.trans k5)).mono ?_;rintro e w6 ⟨rfl,rfl⟩;go_wp2;go_roundw
    case rel=>exact ⟨j,by omega,by go_num,by rw [← hz.out];exact b5,fun b hb=>Nat.le_trans KW.size (o5 b hb),d.trans k5⟩
    case measure=>simp [intOf]
   ·have h1:E/2^j%2=1:=by omega
    have hz:Hid (P*P%M*(A%M)%M=A^(E/2^j)%M):=by unfold Hid;rw [hP];exact vV A E M j h1
    rw [h1] at c;clear hb hP ho h1;go_wp2_with fail;refine q.mono ?_;rintro e w5 ⟨v5,rfl,b5,o5,k5⟩;go_wp2_with fail;refine (c _ (KW.trans k5)).mono ?_;rintro e w6 ⟨rfl,rfl⟩;go_wp2_with fail;refine (ll v5 v3 m (P*P%M) (A%M) M w6 b5 (b3.grew (d.trans k5)) (hm.grew (KW.trans k5)) hM (by omega) (by omega) g).mono ?_;rintro e w7 ⟨v7,rfl,b7,o7,k7⟩;go_wp2;go_roundw
    case rel=>exact ⟨j,by omega,by go_num,by rw [← hz.out];exact b7,fun b hb=>Nat.le_trans (KW.trans k5).size (o7 b hb),(d.trans k5).trans k7⟩
    case measure=>simp [intOf]

attribute [local go_sem ↓] Go.wp_at_zero Go.wp_at_succ

def fX (X:Nat):Nat:=if 130<aj X then 2 else if X≤3∨X%2=0 then 1 else 0

theorem qg {xs:List Nat} {k:Nat} (hd:Digs xs) (hk:k≤xs.length) (hz:∀ i,k≤i→xs.getD i 0=0) (ht:k=0∨xs.getD (k-1) 0≠0):aj (val xs)=k:=by
 have hl:(xs.take k).length=k:=by rw [List.length_take];omega
 have hT:=dm hk ht;have hv:=dj (B:=18446744073709551616) hk hz;have h1:=fun n=>em (B:=18446744073709551616) (by omega) (hd.take k) hT n
 rw [hl,hv] at h1;have h2:=fun n=>ap (val xs) n
 have h3:=(h2 k).2 ((h1 k).1 (leR _));have h4:=(h1 _).2 ((h2 _).1 (leR _));omega

theorem sx {w:World} {v:Value} {X:Nat} (h:IsBig w v X) (hX:0<X):∃ b off n cap d,v=.slice (some ⟨b,off,none⟩) n cap∧0<n∧w.cell? ⟨b,off,none⟩=some (.int .u32 ((d:Nat):Int))∧d%2=X%2∧d<4294967296:=by
 obtain ⟨ds,hr,hd,_,rfl,_⟩:=h;cases ds with
 | nil=>simp [val] at hX
 | cons d ds=>
  obtain ⟨ao,n,cap,rfl,hL,_,_,_,h4⟩:=hr.open;have hn:0<n:=by rw [← hL.out];simp
  obtain ⟨b,off,rfl,hc⟩:=h4 0 hn;refine ⟨b,off,n,cap,d,rfl,hn,by simpa using hc,?_,hd d (by simp)⟩;simp only [val];omega

theorem ma {a b:Nat} (h:a≤b):aJ a b≤0:=by
 unfold aJ
 split
 ·omega
 ·rw [if_pos (by omega)];omega

theorem sk (ao:Option Addr) (L cap:Nat) (xs:List Nat) (E:Nat) (hE:E=fX (val xs)) (w:World) (hu:Row .u64 w (.slice ao L cap) xs) (y:Digs xs) (I:L≤1000000) :
  Calls Tryz.prog 87 #[.slice ao L cap] w fun e w'=>e=.returned (.int .i64 (E:Int))∧Kept ae w w':=by
 have v:=hu;obtain ⟨_,_,_,e1,hL,c1,c2,c3,h4⟩:=hu.open;cases e1
 have HC:Hid (∀ k,k≤L→Row .u64 w (.slice ao k cap) (xs.take k)):=fun k hk=>v.cut (by rw [hL.out];exact hk)
 have HZ:Hid (∀ i,L≤i→xs.getD i 0=0):=fun i hi=>by have:=hL.out;rw [List.getD_eq_getElem?_getD,List.getElem?_eq_none (by omega)];rfl
 have HD:=aa y;have HE:=aa hE;have t:=aa hL;clear hu v y hE hL c3;go_enter Tryz.func87,Tryz.ntmps87;go_wp2_with fail;go_loopw [3] (fun kv wr=>wr=w∧∃ k:Nat,k≤L∧kv=.int .i64 (k:Int)∧Hid (∀ i,k≤i→xs.getD i 0=0)) (fun kv _=>(intOf kv).toNat)
 case atStart=>exact ⟨rfl,L,leR _,rfl,HZ⟩
 case round=>
  obtain ⟨rfl,k,hk,rfl,hz⟩:=hrel;have p:∀ (ht:Hid (k=0∨xs.getD (k-1) 0≠0)),aj (val xs)=k∧val (xs.take k)=val xs:=fun ht=>⟨qg HD.out (by rw [t.out.out];exact hk) hz.out ht.out,dj (by rw [t.out.out];exact hk) hz.out⟩
  by_cases hst:k=0∨xs.getD (k-1) 0≠0
  ·obtain ⟨hw,hv⟩:=p hst;have f:=HC.out k hk;have x:Digs (xs.take k):=HD.out.take k;have hO:=rOf _ _ wr f x (by rw [List.length_take,t.out.out];omega);rw [hv] at hO;have a:Hid (E=if 130<k then 2 else if val xs≤3∨val xs%2=0 then 1 else 0):=by
    unfold Hid;rw [HE.out,fX,hw]
   generalize val xs=X at *;clear p f x hw hv;by_cases o:k=0
   ·subst o;rw [if_neg (by omega)] at a;go_wp2_with fail;refine hO.mono ?_;rintro e w1 ⟨v1,rfl,g,_,k1⟩;have hS:=cN 3 (by omega) w1;clear hO;go_wp2_with fail;refine hS.mono ?_;rintro e w2 ⟨v2,rfl,d,_,k2⟩;have m:=g.grew k2;have hC:=gV v1 v2 X 3 w2 m d;have K2:=k1.trans k2;clear hS g d;by_cases h3:X≤3
    ·have HT:Hid (E=1):=by unfold Hid;rw [a.out,if_pos (.inl h3)]
     have hc:=ma h3;generalize aJ X 3=cc at *;go_wp2_with fail;refine hC.mono ?_;rintro e w3 ⟨rfl,m3,rfl⟩;go_wp2_with fail;go_ret;exact ⟨by rw [HT.out];rfl,K2.drewN m3⟩
    ·rw [c9 (show 3<X by omega)] at hC;obtain ⟨b5,c,n5,s,d5,rfl,B,j,A,H⟩:=sx m (by omega);have C:(0:Int)<(n5:Int):=by omega
     go_wp2_with fail;refine hC.mono ?_;rintro e w3 ⟨rfl,m3,rfl⟩;have F:(w2.drewN m3).cell? ⟨b5,c,none⟩=some (.int .u32 (d5:Int)):=((ah ae w2).drewN m3).cellN j;have l:(d5:Int).tmod 2=((d5%2:Nat):Int):=by rw [Int.tmod_eq_emod_of_nonneg (by omega)];omega
     clear hC j;by_cases h2:X%2=0
     ·have HT:Hid (E=1):=by unfold Hid;rw [a.out,if_pos (.inr h2)]
      have r:(d5:Int)%2=0:=by omega
      rw [show d5%2=0 by omega] at l;go_wp2_with fail;go_ret;exact ⟨by rw [HT.out];rfl,K2.drewN m3⟩
     ·have HT:Hid (E=0):=by unfold Hid;rw [a.out,if_neg (by omega)]
      have r:(d5:Int)%2=1:=by omega
      rw [show d5%2=1 by omega] at l;go_wp2_with fail;go_ret;exact ⟨by rw [HT.out];rfl,K2.drewN m3⟩
   ·have G:xs.getD (k-1) 0≠0:=by
     rcases hst with h | h
     ·exact absurd h o
     ·exact h
    obtain ⟨q,rfl⟩:∃ q,k=q+1:=⟨k-1,by omega⟩
    rw [Nat.add_sub_cancel] at G;obtain ⟨b,off,rfl,hc⟩:=h4 q (by omega);generalize xs.getD q 0=z at *;have gz:¬ (z:Int)=0:=by omega
    have gq:((q+1:Nat):Int)-1=(q:Int):=by omega
    have D:(q:Int)<(L:Int):=by omega
    clear h4;generalize hkk:q+1=k at *;by_cases h130:130<k
    ·have g3:(k:Int) > 130:=by omega
     have HT:Hid (E=2):=by unfold Hid;rw [a.out,if_pos h130]
     clear hO a;go_wp2_with fail;go_ret;exact ⟨by rw [HT.out];rfl,ah _ _⟩
    ·have g3:¬ (k:Int) > 130:=by omega
     rw [if_neg h130] at a;go_wp2_with fail;refine hO.mono ?_;rintro e w1 ⟨v1,rfl,g,_,k1⟩;have hS:=cN 3 (by omega) w1;clear hO;go_wp2_with fail;refine hS.mono ?_;rintro e w2 ⟨v2,rfl,d,_,k2⟩;have m:=g.grew k2;have hC:=gV v1 v2 X 3 w2 m d;have K2:=k1.trans k2;clear hS g d;by_cases h3:X≤3
     ·have HT:Hid (E=1):=by unfold Hid;rw [a.out,if_pos (.inl h3)]
      have hc:=ma h3;generalize aJ X 3=cc at *;go_wp2_with fail;refine hC.mono ?_;rintro e w3 ⟨rfl,m3,rfl⟩;go_wp2_with fail;go_ret;exact ⟨by rw [HT.out];rfl,K2.drewN m3⟩
     ·rw [c9 (show 3<X by omega)] at hC;obtain ⟨b5,c,n5,s,d5,rfl,B,j,A,H⟩:=sx m (by omega);have C:(0:Int)<(n5:Int):=by omega
      go_wp2_with fail;refine hC.mono ?_;rintro e w3 ⟨rfl,m3,rfl⟩;have F:(w2.drewN m3).cell? ⟨b5,c,none⟩=some (.int .u32 (d5:Int)):=((ah ae w2).drewN m3).cellN j;have l:(d5:Int).tmod 2=((d5%2:Nat):Int):=by rw [Int.tmod_eq_emod_of_nonneg (by omega)];omega
      clear hC j;by_cases h2:X%2=0
      ·have HT:Hid (E=1):=by unfold Hid;rw [a.out,if_pos (.inr h2)]
       have r:(d5:Int)%2=0:=by omega
       rw [show d5%2=0 by omega] at l;go_wp2_with fail;go_ret;exact ⟨by rw [HT.out];rfl,K2.drewN m3⟩
      ·have HT:Hid (E=0):=by unfold Hid;rw [a.out,if_neg (by omega)]
       have r:(d5:Int)%2=1:=by omega
       rw [show d5%2=1 by omega] at l;go_wp2_with fail;go_ret;exact ⟨by rw [HT.out];rfl,K2.drewN m3⟩
  ·have o:¬ k=0:=fun h=>hst (.inl h)
   have n:xs.getD (k-1) 0=0:=Classical.byContradiction fun h=>hst (.inr h)
   obtain ⟨q,rfl⟩:∃ q,k=q+1:=⟨k-1,by omega⟩
   rw [Nat.add_sub_cancel] at n;obtain ⟨b,off,rfl,hc⟩:=h4 q (by omega);have HA:Hid (∀ i,q≤i→xs.getD i 0=0):=fun i hi=>by
    by_cases e:i=q
    ·subst e;exact n
    ·exact hz.out i (by omega)
   rw [n] at hc;have gq:((q+1:Nat):Int)-1=(q:Int):=by omega
   have D:(q:Int)<(L:Int):=by omega
   clear h4 n hst p o;go_wp2_with fail;go_roundw
   case rel=>exact ⟨trivial,q,by omega,by go_num,HA⟩
   case measure=>simp [intOf]

theorem lr (w:World):Calls Tryz.prog 34 #[] w fun r w'=>∃ v',r=.returned v'∧IsBig w' v' 1∧(∀ b,v'.ownBlock=some b→w.heap.size≤b)∧Kept ae w w':=by
 have h:=cN 1 (by omega) w;go_enter Tryz.func34,Tryz.ntmps34;go_wp2_with fail;refine h.mono ?_;rintro e w1 ⟨v1,rfl,h1,h2,h3⟩;go_wp2_with fail;go_ret;exact ⟨_,rfl,h1,h2,h3⟩

def fq (P Q:Nat):Nat:=(P-1)/Nat.gcd (P-1) (Q-1)*(Q-1)

def fN (xs:List Nat) (e:Nat):Nat:=
 if xs.length=0∨1000<xs.length∨xs.getD (xs.length-1) 0=0∨val xs%2=0∨au (val xs)<32∨8192<au (val xs)∨e<3∨e%2=0∨4294967296≤e then 190 else 0

theorem qG (m:List Nat):∀ a,m.foldl (fun a b=>a*256+b) a=a*256^m.length+bev m:=by
 unfold bev
 induction m with
 | nil=>intro a;simp
 | cons x m ih=>
  intro a;rw [List.foldl_cons,ih,List.foldl_cons,ih (0*256+x),List.length_cons,Nat.pow_succ];simp only [Nat.zero_mul,Nat.zero_add,Nat.add_mul,Nat.mul_assoc,Nat.add_assoc,Nat.mul_comm 256]

theorem ja (l m:List Nat):bev (l ++ m)=bev l*256^m.length+bev m:=by
 show (l ++ m).foldl _ 0=_
 rw [List.foldl_append,qG];rfl

theorem jq {l:List Nat} (h:Digs l 256):bev l<256^l.length:=by
 induction l with
 | nil=>simp [bev]
 | cons x m ih=>
  have e:=ja [x] m;rw [List.singleton_append] at e;have hx:=h.head;have hm:=ih h.tail;rw [e,List.length_cons,Nat.pow_succ];have:(x+1)*256^m.length≤256*256^m.length:=Nat.mul_le_mul_right _ hx;rw [Nat.add_mul,Nat.one_mul] at this;have e2:bev [x]=x:=by simp [bev]
  rw [e2,Nat.mul_comm (256^m.length)];omega

theorem sj {l:List Nat} (h:Digs l 256):aI (bev l)≤l.length:=by
 rw [aK];exact Nat.lt_of_lt_of_le (jq h) (Nat.pow_le_pow_left (by omega) _)

theorem mK {xs:List Nat} (h:Digs xs):au (val xs)≤64*xs.length:=by
 rw [aA,Nat.pow_mul];exact aq (by omega) h

theorem vZ {xs:List Nat} (h:Digs xs):aI (val xs)≤2*xs.length:=by
 rw [aK,Nat.pow_mul];exact aq (by omega) h

def fT (X e:Nat):Prop:=X≠0∧e≠0∧jW X∧Nat.gcd (X-1) e=1

theorem pA (ao:Option Addr) (L cap:Nat) (xs:List Nat) (e:Nat) (he:e<18446744073709551616) (R:Bool) (hR:R=true↔fT (val xs) e) (w:World) (hu:Row .u64 w (.slice ao L cap) xs) (a:Digs xs) (f:L≤1000000) :
  Calls Tryz.prog 19 #[.slice ao L cap,.int .u64 (e:Nat)] w fun r w'=>r=.returned (.bool R)∧Kept ae w w':=by
 obtain ⟨_,_,_,e1,hL,-,-,-,-⟩:=hu.open;cases e1
 have hO:=rOf _ xs w hu a (by rw [hL.out];omega);have JP:Hid (∀ W (Q:Bool),(Q=true↔jW (val xs))→Kept ae w W→Calls Tryz.prog 30 #[.slice ao L cap] W fun e w'=>e=.returned (.bool Q)∧Kept ae W w'):=fun W Q hQ k=>qU ao L cap xs Q hQ W (hu.grew k) a f
 have i:aI (val xs)≤2*L:=(aK _ _).2 (by rw [Nat.pow_mul,← hL.out];exact aq (by omega) a);have HR:=aa hR;have HF:Hid (¬ fT (val xs) e→R=false):=fun h=>by
  cases h2:R with
  | false=>rfl
  | true=>exact absurd (HR.out.1 h2) h
 clear hu a hL hR;generalize val xs=X at *;go_enter Tryz.func19,Tryz.ntmps19;go_wp2_with fail;refine hO.mono ?_;rintro r w1 ⟨v1,rfl,b1,_,K1⟩;obtain ⟨bo,bn,bc,rfl,d,-⟩:=b1.length;clear hO;by_cases a1:X=0
 ·have HT:=aa (HF.out (fun h=>h.1 a1));have c:bn=0:=by rw [d.out,a1];rfl
  subst c;go_wp2_with fail;go_ret;exact ⟨by rw [HT.out];rfl,K1⟩
 have g:0<bn:=by rw [d.out];exact jL (by omega)
 have q1:((bn:Int) == 0)=false:=by simp;omega
 clear d;by_cases a2:e=0
 ·have HT:=aa (HF.out (fun h=>h.2.1 a2));subst a2;go_wp2_with fail;go_ret;exact ⟨by rw [HT.out];rfl,K1⟩
 have q2:((e:Int) == 0)=false:=by simp;omega
 by_cases a3:jW X
 ·have h2:=JP.out w1 true (by simp [a3]) K1;go_wp2_with fail;refine h2.mono ?_;rintro r w2 ⟨rfl,k2⟩;have K2:=K1.trans k2;have b1:=b1.grew k2;clear h2;have h3:=lr w2;go_wp2_with fail;refine h3.mono ?_;rintro e w3 ⟨v3,rfl,b3,_,k3⟩;have K3:=K2.trans k3;have b1:=b1.grew k3;clear h3;have h4:=vw _ v3 X 1 w3 b1 b3 (by omega);go_wp2_with fail;refine h4.mono ?_;rintro e w4 ⟨v4,rfl,b4,_,k4⟩;have K4:=K3.trans k4;have b1:=b1.grew k4;have b3:=b3.grew k4;clear h4;have h5:=cN e he w4;go_wp2_with fail;refine h5.mono ?_;rintro e w5 ⟨v5,rfl,b5,_,k5⟩;have K5:=K4.trans k5;have b1:=b1.grew k5;have b3:=b3.grew k5;have b4:=b4.grew k5;clear h5
  have b:aI (X-1)≤10000000:=by have:=dK (show X-1≤X by omega);omega
  have j:aI e≤2:=(aK _ _).2 (by omega);have h6:=Cg v4 v5 (X-1) e w5 b4 b5 b (by omega);go_wp2_with fail;refine h6.mono ?_;rintro e w6 ⟨v6,rfl,b6,_,k6⟩;have K6:=K5.trans k6;have b1:=b1.grew k6;have b3:=b3.grew k6;have b4:=b4.grew k6;have b5:=b5.grew k6;clear h6;have h7:=lr w6;go_wp2_with fail;refine h7.mono ?_;rintro e w7 ⟨v7,rfl,b7,_,k7⟩;have K7:=K6.trans k7;have b1:=b1.grew k7;have b3:=b3.grew k7;have b4:=b4.grew k7;have b5:=b5.grew k7;have b6:=b6.grew k7;clear h7;have h8:=gV v6 v7 _ 1 w7 b6 b7;by_cases a4:Nat.gcd (X-1) e=1
  ·have HT:Hid (R=true):=HR.out.2 ⟨a1,a2,a3,a4⟩;rw [dn a4] at h8;go_wp2_with fail;refine h8.mono ?_;rintro r w8 ⟨rfl,m8,rfl⟩;go_wp2_with fail;go_ret;exact ⟨by rw [HT.out];rfl,K7.drewN m8⟩
  ·have HT:=aa (HF.out (fun h=>a4 h.2.2.2));have hc:=ik a4;have qc:(aJ (Nat.gcd (X-1) e) 1 == 0)=false:=by simpa using hc
   generalize aJ (Nat.gcd (X-1) e) 1=c8 at *;go_wp2_with fail;refine h8.mono ?_;rintro r w8 ⟨rfl,m8,rfl⟩;go_wp2_with fail;go_ret;exact ⟨by rw [HT.out];first | rfl | (show Ending.returned (Value.bool (c8 == 0))=_;rw [qc]),K7.drewN m8⟩
 ·have HT:=aa (HF.out (fun h=>a3 h.2.2.1));have h2:=JP.out w1 false (by simp [a3]) K1;go_wp2_with fail;refine h2.mono ?_;rintro r w2 ⟨rfl,k2⟩;go_wp2_with fail;go_ret;exact ⟨by rw [HT.out];rfl,K1.trans k2⟩

def dr (bs:List Nat) (n:Nat):Nat:=(bev bs%2^(n-2)+(if bev bs%2^(n-2)%2=0 then 1 else 0))+3*2^(n-2)

def iJ (bs:List Nat) (k:Int):Nat:=if k<16∨4096<k∨(bs.length:Int)≠(k+7)/8 then 1 else 0

theorem xS (v:Value) (bs:List Nat) (k:Int) (h0:-9223372036854775808≤k) (h1:k≤9223372036854775807) (E:Nat) (RL:List Nat) (hE:E=iJ bs k) (d:RL=if E=0 then ag (dr bs k.toNat) ((k.toNat+63)/64) else []) (w:World) (hu:Row .u8 w v bs) (hd:Digs bs 256) (hL:bs.length≤100000000) :
  Calls Tryz.prog 44 #[v,.int .i64 k] w fun e w'=>∃ v',e=.returned (.tuple #[v',.int .i64 (E:Nat)])∧Row .u64 w' v' RL∧(∀ b,v'.ownBlock=some b→w.heap.size≤b)∧Kept ae w w':=by
 have hF:=jM v bs w hu hd hL;obtain ⟨ao,n,cap,rfl,hn,-,-,-,-⟩:=hu.open;have c:Hid (k<16∨4096<k∨(n:Int)≠(k+7)/8→E=1∧RL=[]):=fun h=>by
  have e1:E=1:=by rw [hE,iJ,hn.out,if_pos h]
  exact ⟨e1,by rw [d,if_neg (by omega)]⟩
 by_cases a1:k<16
 ·have HB:=aa (c.out (.inl a1));clear c hE d hF hu;go_enter Tryz.func44,Tryz.ntmps44;go_wp2_with fail;go_ret2;exact ⟨_,by rw [HB.out.1];rfl,by rw [HB.out.2];exact Row.nil _ _,(fun b hb=>by cases hb),ah _ _⟩
 have q1:decide (k<16)=false:=aF a1;by_cases a2:4096<k
 ·have HB:=aa (c.out (.inr (.inl a2)));clear c hE d hF hu;go_enter Tryz.func44,Tryz.ntmps44;go_wp2_with fail;go_ret2;exact ⟨_,by rw [HB.out.1];rfl,by rw [HB.out.2];exact Row.nil _ _,(fun b hb=>by cases hb),ah _ _⟩
 have q2:decide ((4096:Int)<k)=false:=aF a2;obtain ⟨j,rfl⟩:∃ j:Nat,k=(j:Int):=⟨k.toNat,by omega⟩
 rw [Int.toNat_natCast] at d;obtain ⟨z,hz⟩:∃ z,z=(j+7)/8:=⟨_,rfl⟩
 have X:((j:Int)+7).tdiv 8=(z:Int):=by rw [Int.tdiv_eq_ediv_of_nonneg (by omega)];omega
 have l:((j:Int)+7)/8=(z:Int):=by omega
 rw [l] at c;by_cases a3:n=z
 ·have HE:Hid (E=0):=by
   unfold Hid;rw [hE,iJ,hn.out,l,if_neg (by omega)]
  have HR:Hid (RL=ag (dr bs j) ((j+63)/64)):=by unfold Hid;rw [d,if_pos HE.out]
  subst a3;obtain ⟨y,hy⟩:∃ y,y=(j+63)/64:=⟨_,rfl⟩
  have U:((j:Int)+63).tdiv 64=(y:Int):=by rw [Int.tdiv_eq_ediv_of_nonneg (by omega)];omega
  have O:((j:Int)+63)/64=(y:Int):=by omega
  rw [← hy] at HR;obtain ⟨i,hi⟩:∃ i,i=j-2:=⟨_,rfl⟩
  have gi:(j:Int)-2=(i:Int):=by omega
  have Z:aI (bev bs)≤1000000:=by
   have h1:=jq hd;rw [hn.out] at h1;have h2:aI (bev bs)≤n:=(aK _ _).2 (Nat.lt_of_lt_of_le h1 (Nat.pow_le_pow_left (by omega) n));omega
  have HC:Hid (dr bs j=(bev bs%2^i+(if bev bs%2^i%2=0 then 1 else 0))+3*2^i):=by unfold Hid dr;rw [hi]
  have T:i≤4096:=by omega
  have W:y≤1000:=by omega
  clear c hE d hu hz hy hi hd;have D:∀ V,V≤2^i*4→aI V≤5000:=fun V hV=>by
   have h1:2^i≤4294967296^i:=Nat.pow_le_pow_left (by omega) i;have h2:0<4294967296^i:=Nat.pow_pos (by omega);have:V<4294967296^(i+1):=by
    rw [Nat.pow_succ];omega
   have:=(aK _ _).2 this;omega
  have F:0<2^i:=Nat.pow_pos (by omega);have g:=aa D;clear D;go_enter Tryz.func44,Tryz.ntmps44;go_wp2_with fail;refine hF.mono ?_;rintro r w1 ⟨v1,rfl,b1,_,K1⟩;clear hF;have h2:=lr w1;go_wp2_with fail;refine h2.mono ?_;rintro e w2 ⟨v2,rfl,b2,_,k2⟩;have K2:=K1.trans k2;have b1:=b1.grew k2;clear h2;have h3:=uQ v2 1 i w2 b2 (by have:=(aK 1 1).2 (by omega);omega) (by omega);go_wp2_with fail;refine h3.mono ?_;rintro e w3 ⟨v3,rfl,b3,_,k3⟩;have K3:=K2.trans k3;have b1:=b1.grew k3;have b2:=b2.grew k3;clear h3;have h4:=qz v1 v3 (bev bs) (2^i*1) w3 b1 b3 (by omega) (by omega);go_wp2_with fail;refine h4.mono ?_;rintro e w4 ⟨v4,rfl,b4,_,k4⟩;have K4:=K3.trans k4;have b1:=b1.grew k4
  have b2:=b2.grew k4;have b3:=b3.grew k4;clear h4;have x:bev bs%(2^i*1)=bev bs%2^i:=by rw [Nat.mul_one]
  rw [x] at b4;obtain ⟨Y,hY⟩:∃ Y,Y=bev bs%2^i:=⟨_,rfl⟩
  have m:Y<2^i:=by rw [hY];exact Nat.mod_lt _ F
  rw [← hY] at b4 HC;have h5:=vR v4 Y 0 w4 b4 (by omega);rw [show j8 Y 0=Y%2 by unfold j8;simp] at h5;clear x hY b1 b2 b3;have a:Hid (2^i*3=3*2^i):=Nat.mul_comm _ _;have p:=aa m;obtain ⟨PP,s⟩:∃ PP,PP=2^i:=⟨_,rfl⟩
  rw [← s] at p a g HC F;have C:Hid (2^i*3=PP*3):=by unfold Hid;rw [s]
  clear m s;by_cases a5:Y%2=0
  ·rw [a5] at h5;have q:Hid (dr bs j=Y+1+PP*3):=by unfold Hid;rw [HC.out,if_pos a5,a.out]
   clear HC a a5;go_wp2_with fail;refine h5.mono ?_;rintro r w5 ⟨rfl,rfl⟩;clear h5;have K5:=K4;have h6:=lr w5;go_wp2_with fail;refine h6.mono ?_;rintro e w6 ⟨v6,rfl,b6,_,k6⟩;have K6:=K5.trans k6;have b4:=b4.grew k6;clear h6;have h7:=AA v4 v6 Y 1 w6 b4 b6 (by have:=g.out Y (by have:=p.out;omega);omega) (by have:=(aK 1 1).2 (by omega);omega);go_wp2_with fail;refine h7.mono ?_;rintro e w7 ⟨v7,rfl,b7,_,k7⟩;have K7:=K6.trans k7;have b4:=b4.grew k7;have b6:=b6.grew k7;clear h7;have H:aI (Y+1)≤5000:=g.out _ (by have:=p.out;omega);have h8:=cN 3 (by omega) w7;go_wp2_with fail;refine h8.mono ?_;rintro e w8 ⟨v8,rfl,b8,_,k8⟩;have K8:=K7.trans k8;have b4:=b4.grew k8
   have b6:=b6.grew k8;have b7:=b7.grew k8;clear h8;have h9:=uQ v8 3 i w8 b8 (by have:=(aK 3 1).2 (by omega);omega) (by omega);go_wp2_with fail;refine h9.mono ?_;rintro e w9 ⟨v9,rfl,b9,_,k9⟩;have K9:=K8.trans k9;have b4:=b4.grew k9;have b6:=b6.grew k9;have b7:=b7.grew k9;have b8:=b8.grew k9;clear h9;rw [C.out] at b9;have A:=AA v7 v9 (Y+1) (PP*3) w9 b7 b9 (by omega) (by have:=g.out (PP*3) (by omega);omega);go_wp2_with fail;refine A.mono ?_;rintro e N ⟨I,rfl,L,_,f⟩;have t:=K9.trans f;have b4:=b4.grew f;have b6:=b6.grew f;have b7:=b7.grew f;have b8:=b8.grew f;have b9:=b9.grew f;clear A;have B:=zT I _ y N L (by omega);go_wp2_with fail
   refine B.mono ?_;rintro r S ⟨R,rfl,G,Q,P⟩;have M:=t.trans P;clear B;go_wp2_with fail;go_ret2;exact ⟨_,by rw [HE.out];rfl,by rw [HR.out,q.out];exact G,(fun b hb=>by have o:R.ownBlock=some b:=hb;rw [Q] at o;cases o;exact t.size),M⟩
  ·rw [show Y%2=1 by omega] at h5;have q:Hid (dr bs j=Y+PP*3):=by unfold Hid;rw [HC.out,if_neg a5,Nat.add_zero,a.out]
   clear HC a a5;go_wp2_with fail;refine h5.mono ?_;rintro r w5 ⟨rfl,rfl⟩;clear h5;have K5:=K4;have h6:=cN 3 (by omega) w5;go_wp2_with fail;refine h6.mono ?_;rintro e w6 ⟨v6,rfl,b6,_,k6⟩;have K6:=K5.trans k6;have b4:=b4.grew k6;clear h6;have h7:=uQ v6 3 i w6 b6 (by have:=(aK 3 1).2 (by omega);omega) (by omega);go_wp2_with fail;refine h7.mono ?_;rintro e w7 ⟨v7,rfl,b7,_,k7⟩;have K7:=K6.trans k7;have b4:=b4.grew k7;have b6:=b6.grew k7;clear h7;rw [C.out] at b7;have h8:=AA v4 v7 Y (PP*3) w7 b4 b7 (by have:=g.out Y (by have:=p.out;omega);omega) (by have:=g.out (PP*3) (by omega);omega);go_wp2_with fail;refine h8.mono ?_;rintro e w8 ⟨v8,rfl,b8,_,k8⟩;have K8:=K7.trans k8
   have b4:=b4.grew k8;have b6:=b6.grew k8;have b7:=b7.grew k8;clear h8;have h9:=zT v8 _ y w8 b8 (by omega);go_wp2_with fail;refine h9.mono ?_;rintro r w9 ⟨v9,rfl,r9,o9,k9⟩;have K9:=K8.trans k9;clear h9;go_wp2_with fail;go_ret2;exact ⟨_,by rw [HE.out];rfl,by rw [HR.out,q.out];exact r9,(fun b hb=>by have o:v9.ownBlock=some b:=hb;rw [o9] at o;cases o;exact K8.size),K9⟩
 ·have J:¬ (n:Int)=(z:Int):=by omega
  have HB:=aa (c.out (.inr (.inr J)));clear c hE d hF hu hz;go_enter Tryz.func44,Tryz.ntmps44;go_wp2_with fail;go_ret2;exact ⟨_,by rw [HB.out.1];rfl,by rw [HB.out.2];exact Row.nil _ _,(fun b hb=>by cases hb),ah _ _⟩

theorem dV {W:World} {p:Nat} {a b c d e f g h:Value} {t:TypeId} (hh:W.heap[p]? = some (.cells #[a,b,c,d,e,f,g,h] t (0,0))) :
  W.cell? ⟨p,0,none⟩=some a∧W.cell? ⟨p,1,none⟩=some b∧W.cell? ⟨p,2,none⟩=some c∧W.cell? ⟨p,3,none⟩=some d∧W.cell? ⟨p,4,none⟩=some e∧W.cell? ⟨p,5,none⟩=some f∧W.cell? ⟨p,6,none⟩=some g∧W.cell? ⟨p,7,none⟩=some h:=by
 simp [World.cell?,hh]

def ff (w:World) (p:Nat) (x0 x1 x2 x3 x4 x5 x6 x7:Value):World:=((((((((w.setCell ⟨p,0,none⟩ x0).setCell ⟨p,1,none⟩ x1).setCell ⟨p,2,none⟩ x2).setCell ⟨p,3,none⟩ x3).setCell ⟨p,4,none⟩ x4).setCell ⟨p,5,none⟩ x5).setCell ⟨p,6,none⟩ x6).setCell ⟨p,7,none⟩ x7)

theorem lY {w w3:World} {p:Nat} {a0 a1 a2 a3 a4 a5 a6 a7:Value} {t:TypeId} (hk:Kept ae w w3) (hp:w.heap.size≤p) (a:w3.heap[p]? = some (.cells #[a0,a1,a2,a3,a4,a5,a6,a7] t (0,0))) (x0 x1 x2 x3 x4 x5 x6 x7:Value) :
  (ff w3 p x0 x1 x2 x3 x4 x5 x6 x7).heap[p]? = some (.cells #[x0,x1,x2,x3,x4,x5,x6,x7] t (0,0))∧Kept ae w (ff w3 p x0 x1 x2 x3 x4 x5 x6 x7)∧Kept (fun q=>q=p) w3 (ff w3 p x0 x1 x2 x3 x4 x5 x6 x7):=by
 unfold ff;refine ⟨?_,?_,?_⟩
 ·have h0:=heap_setCell_same w3 p 0 _ _ x0 a;have h1:=heap_setCell_same _ p 1 _ _ x1 h0;have h2:=heap_setCell_same _ p 2 _ _ x2 h1;have h3:=heap_setCell_same _ p 3 _ _ x3 h2;have h4:=heap_setCell_same _ p 4 _ _ x4 h3;have h5:=heap_setCell_same _ p 5 _ _ x5 h4;have h6:=heap_setCell_same _ p 6 _ _ x6 h5;have h7:=heap_setCell_same _ p 7 _ _ x7 h6;simpa using h7
 ·exact ((((((((hk.setCell ⟨p,0,none⟩ (fun h=>by simp at h;omega) _).setCell ⟨p,1,none⟩ (fun h=>by simp at h;omega) _).setCell ⟨p,2,none⟩ (fun h=>by simp at h;omega) _).setCell ⟨p,3,none⟩ (fun h=>by simp at h;omega) _).setCell ⟨p,4,none⟩ (fun h=>by simp at h;omega) _).setCell ⟨p,5,none⟩ (fun h=>by simp at h;omega) _).setCell ⟨p,6,none⟩ (fun h=>by simp at h;omega) _).setCell ⟨p,7,none⟩ (fun h=>by simp at h;omega) _)
 ·exact ((((((((ah (fun q=>q=p) w3).setCell ⟨p,0,none⟩ (fun _=>rfl) _).setCell ⟨p,1,none⟩ (fun _=>rfl) _).setCell ⟨p,2,none⟩ (fun _=>rfl) _).setCell ⟨p,3,none⟩ (fun _=>rfl) _).setCell ⟨p,4,none⟩ (fun _=>rfl) _).setCell ⟨p,5,none⟩ (fun _=>rfl) _).setCell ⟨p,6,none⟩ (fun _=>rfl) _).setCell ⟨p,7,none⟩ (fun _=>rfl) _

theorem aY {W:World} {p:Nat} {cs:Array Value} {t:TypeId} (h:W.heap[p]? = some (.cells cs t (0,0))) (j:Nat):W.frozen? ⟨p,j,none⟩=false:=frozen_of_row W _ j _ _ h

abbrev zeroKey:Array Value:=#[.slice none 0 0,.int .u64 0,.slice none 0 0,.slice none 0 0,.slice none 0 0,.slice none 0 0,.slice none 0 0,.slice none 0 0]

theorem bg {X n:Nat} (h:au X≤64*n):aj X≤n:=(ap X n).2 (by
 have:=(aA X (64*n)).1 h;rw [Nat.pow_mul] at this;exact this)

def cK (P:Nat):Prop:=3≤P∧P%2=1∧au P≤8192

def bw (P Q:Nat):List Nat:=ag (P*Q) (max (aj (P*Q)) 1)

def dX (L M P Q e:Nat):Prop:=(L≤300∧M≤300)∧cK P∧cK Q∧Nat.gcd P Q=1∧fN (bw P Q) e=0∧Nat.gcd e (fq P Q)=1

def KeyAt (w:World) (P Q e:Nat) (kv:Array Value):Prop:=
 ∃ (vn vd vp vq vdp vdq vqi:Value) (d u:Nat),kv=#[vn,.int .u64 (e:Nat),vd,vp,vq,vdp,vdq,vqi]∧Row .u64 w vn (bw P Q)∧d<fq P Q∧e*d%fq P Q=1∧Row .u64 w vd (ag d (bw P Q).length) ∧
  Row .u64 w vp (ag P (max (aj P) (aj Q)))∧Row .u64 w vq (ag Q (max (aj P) (aj Q)))∧Row .u64 w vdp (ag (d%(P-1)) (max (aj P) (aj Q)))∧Row .u64 w vdq (ag (d%(Q-1)) (max (aj P) (aj Q)))∧u<P∧Q*u%P=1∧Row .u64 w vqi (ag u (max (aj P) (aj Q)))

def fL (B:Nat) (kv:Array Value):Prop:=∀ v ∈ kv.toList,∀ x,v.ownBlock=some x→B<x

theorem jh (B:Nat):fL B zeroKey:=by
 intro v hv x hx;have a:v ∈ [Value.slice none 0 0,.int .u64 0,.slice none 0 0,.slice none 0 0,.slice none 0 0,.slice none 0 0,.slice none 0 0,.slice none 0 0]:=hv;simp only [List.mem_cons,List.not_mem_nil,or_false] at a;rcases a with rfl | rfl | rfl | rfl | rfl | rfl | rfl | rfl <;> cases hx

theorem xK {B:Nat} {v0 v2 v3 v4 v5 v6 v7:Value} {e:Int} (h0:∀ x,v0.ownBlock=some x→B<x) (h2:∀ x,v2.ownBlock=some x→B<x) (h3:∀ x,v3.ownBlock=some x→B<x) (h4:∀ x,v4.ownBlock=some x→B<x) (h5:∀ x,v5.ownBlock=some x→B<x) (h6:∀ x,v6.ownBlock=some x→B<x) (h7:∀ x,v7.ownBlock=some x→B<x):fL B #[v0,.int .u64 e,v2,v3,v4,v5,v6,v7]:=by
 intro v hv x hx;have a:v ∈ [v0,.int .u64 e,v2,v3,v4,v5,v6,v7]:=hv;simp only [List.mem_cons,List.not_mem_nil,or_false] at a;rcases a with rfl | rfl | rfl | rfl | rfl | rfl | rfl | rfl
 ·exact h0 x hx
 ·cases hx
 ·exact h2 x hx
 ·exact h3 x hx
 ·exact h4 x hx
 ·exact h5 x hx
 ·exact h6 x hx
 ·exact h7 x hx

theorem tV {P Q:Nat} (hP:3≤P) (hQ:3≤Q):2≤fq P Q:=by
 unfold fq;have hg:Nat.gcd (P-1) (Q-1) ∣ P-1:=Nat.gcd_dvd_left _ _;have h1:1≤(P-1)/Nat.gcd (P-1) (Q-1):=Nat.div_pos (Nat.le_of_dvd (by omega) hg) (Nat.gcd_pos_of_pos_left _ (by omega));have:=Nat.mul_le_mul_right (Q-1) h1;omega

theorem mF {p a b c:Nat} (hc:Nat.Coprime p c) (h:c*a%p=c*b%p):a%p=b%p:=by
 rcases Nat.le_total a b with hab | hab
 ·have h1:(c*b-c*a)%p=0:=Nat.sub_mod_eq_zero_of_mod_eq h.symm;rw [← Nat.mul_sub] at h1;have h2:=hc.dvd_of_dvd_mul_left (Nat.dvd_of_mod_eq_zero h1);obtain ⟨k,hk⟩:=h2;rw [show b=a+p*k by omega];simp
 ·have h1:(c*a-c*b)%p=0:=Nat.sub_mod_eq_zero_of_mod_eq h;rw [← Nat.mul_sub] at h1;have h2:=hc.dvd_of_dvd_mul_left (Nat.dvd_of_mod_eq_zero h1);obtain ⟨k,hk⟩:=h2;rw [show a=b+p*k by omega];simp

def xL (P Q e d u:Nat) (ns ds ps qs dps dqs qis:List Nat):Prop:=
 d<fq P Q∧e*d%fq P Q=1∧u<P∧Q*u%P=1∧ns=bw P Q∧ds=ag d (bw P Q).length∧ps=ag P (max (aj P) (aj Q))∧qs=ag Q (max (aj P) (aj Q))∧dps=ag (d%(P-1)) (max (aj P) (aj Q))∧dqs=ag (d%(Q-1)) (max (aj P) (aj Q))∧qis=ag u (max (aj P) (aj Q))

theorem pM {m a x y:Nat} (hc:Nat.Coprime m a) (hx:x<m) (hy:y<m) (h1:a*x%m=1) (h2:a*y%m=1):x=y:=by
 have:=mF hc (h1.trans h2.symm)
 rwa [al hx,al hy] at this

def IsTz (M s:Nat):Prop:=M/2^s%2=1∧∀ j,j<s→M/2^j%2=0

theorem IsTz.uniq {M s t:Nat} (h:IsTz M s) (g:IsTz M t):s=t:=by
 rcases Nat.lt_trichotomy s t with h1 | h1 | h1
 ·have:=g.2 s h1;have:=h.1;omega
 ·exact h1
 ·have:=h.2 t h1;have:=g.1;omega

theorem sd:∀ (n M:Nat),0<M→M<2^n→∃ s,IsTz M s∧s<n
 | 0,M,h,g=>by simp at g;omega
 | n+1,M,h,g=>by
  by_cases h1:M%2=1
  ·exact ⟨0,⟨by simpa using h1,fun j hj=>by omega⟩,by omega⟩
  ·have hd:0<M/2:=by omega
   obtain ⟨s,⟨hs,a⟩,hn⟩:=sd n (M/2) hd (by rw [Nat.pow_succ] at g;omega);refine ⟨s+1,⟨?_,fun j hj=>?_⟩,by omega⟩
   ·rw [Nat.pow_succ,Nat.mul_comm,← Nat.div_div_eq_div_mul];exact hs
   ·cases j with
    | zero=>simp;omega
    | succ j=>
     rw [Nat.pow_succ,Nat.mul_comm,← Nat.div_div_eq_div_mul];exact a j (by omega)

def it (N A:Nat):Prop:=∃ s,IsTz (N-1) s∧(A^((N-1)/2^s)%N=1∨∃ i,i<s∧(A^((N-1)/2^s))^2^i%N=N-1)

def vJ (N A:Nat):Nat:=if fX N≠0 then fX N else if A<2∨N-1≤A then 1 else 0

theorem lG {X:Nat} (h:fX X=0):3<X∧X%2=1∧∃ n,n≤130∧X<18446744073709551616^n:=by
 unfold fX at h
 split at h
 ·omega
 ·rename_i h1
  split at h
  ·omega
  ·exact ⟨by omega,by omega,aj X,by omega,(ap X _).1 (leR _)⟩

theorem sL (X B i:Nat):(B^2^i%X)*(B^2^i%X)%X=B^2^(i+1)%X:=by
 rw [← Nat.mul_mod,← Nat.pow_add]
 congr 2
 rw [Nat.pow_succ];omega

theorem rj (ao bo:Option Addr) (L M cap au:Nat) (xs ys:List Nat) (E:Nat) (R:Bool) (hE:E=vJ (val xs) (val ys)) (hR:R=true↔E=0∧it (val xs) (val ys)) (w:World)
  (hu:Row .u64 w (.slice ao L cap) xs) (hv:Row .u64 w (.slice bo M au) ys) (ap:Digs xs) (ad:Digs ys) (aP:L≤1000000) (bd:M≤1000000) :
  Calls Tryz.prog 89 #[.slice ao L cap,.slice bo M au] w fun e w'=>e=.returned (.tuple #[.bool R,.int .i64 (E:Int)])∧Kept ae w w':=by
 obtain ⟨_,_,_,e1,hL,_,_,_,_⟩:=hu.open;cases e1
 obtain ⟨_,_,_,e1,hM,_,_,_,_⟩:=hv.open;cases e1
 have hO:=sk ao L cap xs _ rfl w hu ap aP;have JX:Hid (∀ W,Kept ae w W→Calls Tryz.prog 17 #[.slice ao L cap] W fun r w'=>∃ v',r=.returned v'∧IsBig w' v' (val xs)∧(∀ b,v'.ownBlock=some b→W.heap.size≤b)∧Kept ae W w'):=fun W k=>rOf _ xs W (hu.grew k) ap (by rw [hL.out];omega)
 have JY:Hid (∀ W,Kept ae w W→Calls Tryz.prog 17 #[.slice bo M au] W fun r w'=>∃ v',r=.returned v'∧IsBig w' v' (val ys)∧(∀ b,v'.ownBlock=some b→W.heap.size≤b)∧Kept ae W w'):=fun W k=>rOf _ ys W (hv.grew k) ad (by rw [hM.out];omega)
 have HE:=aa hE;have HR:=aa hR;clear hu hv ap ad aP bd hL hM hE hR;generalize val xs=X at *;generalize val ys=A at *;have HF:Hid (E≠0→R=false):=fun h=>by
  cases h2:R with
  | false=>rfl
  | true=>exact absurd (HR.out.1 h2).1 h
 obtain ⟨O,av⟩:∃ O,O=fX X:=⟨_,rfl⟩
 rw [← av] at hO;have HO:=aa av;clear av;go_enter Tryz.func89,Tryz.ntmps89;go_wp2_with fail;refine hO.mono ?_;rintro e w1 ⟨rfl,k1⟩;clear hO;by_cases hO0:O=0
 ·subst hO0;obtain ⟨bi,bg,nw,a2,aq⟩:=lG HO.out.symm;have bh:aI X≤260:=by
   have:aI X≤2*nw:=(aK _ _).2 (by rw [Nat.pow_mul];exact aq);omega
  have ar:Hid (E=if A<2∨X-1≤A then 1 else 0):=by
   unfold Hid;rw [HE.out,vJ,← HO.out];simp
  obtain ⟨s,hs,a7⟩:=sd (64*nw) (X-1) (by omega) (by rw [Nat.pow_mul];exact Nat.lt_of_le_of_lt (Nat.sub_le _ _) aq);have I:=aa hs;have bk:s≤10000:=by omega
  clear aq a7 a2 hs;have h1:=JX.out _ k1;go_wp2_with fail;refine h1.mono ?_;rintro e w2 ⟨v2,rfl,aA,_,k2⟩;have K2:=k1.trans k2;have h2:=JY.out _ K2;clear h1 k1 k2;go_wp2_with fail;refine h2.mono ?_;rintro e w3 ⟨v3,rfl,aE,_,k3⟩;have K3:=K2.trans k3;have bX:=aA.grew k3;have h3:=cN 1 (by omega) w3;clear h2 aA k3 K2;go_wp2_with fail;refine h3.mono ?_;rintro e w4 ⟨v4,rfl,az,_,k4⟩;have K4:=K3.trans k4;have ax:=bX.grew k4;have aO:=aE.grew k4;have h4:=vw v2 v4 X 1 w4 ax az (by omega);clear h3 bX aE az k4 K3;go_wp2_with fail;refine h4.mono ?_;rintro e w5 ⟨v5,rfl,aW,_,k5⟩;have K5:=K4.trans k5;have aM:=ax.grew k5;have aV:=aO.grew k5;have h5:=cN 2 (by omega) w5
  clear h4 ax aO k5 K4;go_wp2_with fail;refine h5.mono ?_;rintro e w6 ⟨v6,rfl,aS,_,k6⟩;have K6:=K5.trans k6;have aL:=aM.grew k6;have ab:=aV.grew k6;have aC:=aW.grew k6;have h6:=gV v3 v6 A 2 w6 ab aS;clear h5 aM aV aW aS k6 K5;by_cases hA2:A<2
  ·have HT:Hid (E=1):=by unfold Hid;rw [ar.out,if_pos (.inl hA2)]
   have J:Hid (R=false):=HF.out (by rw [HT.out];omega);rw [cf hA2] at h6;go_wp2_with fail;refine h6.mono ?_;rintro e w7 ⟨rfl,m7,rfl⟩;go_wp2_with fail;go_ret2;exact ⟨by rw [HT.out,J.out];rfl,K6.drewN m7⟩
  have bj:=jm (show 2≤A by omega);generalize aJ A 2=c6 at *;go_wp2_with fail;refine h6.mono ?_;rintro e bn ⟨rfl,m7,rfl⟩;have kd:=(ah ae w6).drewN m7;obtain ⟨w7,aN⟩:∃ w7,w7=w6.drewN m7:=⟨_,rfl⟩
  rw [← aN] at kd ⊢;have K7:=K6.trans kd;have aR:=aL.grew kd;have aw:=ab.grew kd;have ai:=aC.grew kd;have h7:=gV v3 v5 A (X-1) w7 aw ai;clear h6 aL ab aC kd K6 aN;by_cases hAX:X-1≤A
  ·have HT:Hid (E=1):=by unfold Hid;rw [ar.out,if_pos (.inr hAX)]
   have J:Hid (R=false):=HF.out (by rw [HT.out];omega);have bp:=jm hAX;have a9:0≤aJ A (X-1):=by omega
   generalize aJ A (X-1)=c7 at *;go_wp2_with fail;refine h7.mono ?_;rintro e w8 ⟨rfl,m8,rfl⟩;go_wp2_with fail;go_ret2;exact ⟨by rw [HT.out,J.out];rfl,K7.drewN m8⟩
  rw [cf (show A<X-1 by omega)] at h7;have x:Hid (E=0):=by unfold Hid;rw [ar.out,if_neg (by omega)]
  go_wp2_with fail;refine h7.mono ?_;rintro e bl ⟨rfl,m8,rfl⟩;have kd:=(ah ae w7).drewN m8;obtain ⟨w8,aH⟩:∃ w8,w8=w7.drewN m8:=⟨_,rfl⟩
  rw [← aH] at kd ⊢;have K8:=K7.trans kd;have a3:=aa (aR.grew kd);have be:=aa (aw.grew kd);have ag:=aa (ai.grew kd);have bf:=aa K8;clear h7 aR aw ai kd K7 aH K8;go_wp2_with fail;go_loopw [10] (fun sv wr=>wr=w8∧∃ t:Nat,t≤s∧sv=.int .i64 (t:Int)) (fun sv _=>s-(intOf sv).toNat)
  case atStart=>exact ⟨rfl,0,Nat.zero_le _,rfl⟩
  case round=>
   obtain ⟨rfl,t,ht,rfl⟩:=hrel;have hB:=vR v5 (X-1) (t:Int) wr ag.out (by omega);rw [ew] at hB;by_cases hts:t<s
   ·rw [I.out.2 t hts] at hB;go_wp2_with fail;refine hB.mono ?_;rintro e w9 ⟨rfl,rfl⟩;go_wp2_with fail;go_roundw
    case rel=>exact ⟨trivial,t+1,by omega,by go_num⟩
    case measure=>simp [intOf];omega
   ·obtain rfl:t=s:=by omega
    rw [I.out.1] at hB;go_wp2_with fail;refine hB.mono ?_;rintro e w9 ⟨rfl,rfl⟩;have h9:=Be v5 (X-1) t w9 ag.out (by omega);clear hB;go_wp2_with fail;refine h9.mono ?_;rintro e a4 ⟨aY,rfl,c,_,y⟩;have l:=be.out.grew y;have g:=a3.out.grew y;have m:=ag.out.grew y;have aG:=bf.out.trans y;obtain ⟨D,hD⟩:∃ D,D=(X-1)/2^t:=⟨_,rfl⟩
    rw [← hD] at c;have al:=aa hD;have aQ:=xV v3 aY v2 A D X a4 l c g (by omega) (by have:=dK (show A≤X by omega);omega) (by omega);clear h9 y c l hD;go_wp2_with fail;refine aQ.mono ?_;rintro e aX ⟨a8,rfl,o,_,Z⟩;have v:=aa (g.grew Z);have n:=aa (m.grew Z);have d:=aa (aG.trans Z);have aU:=cN 1 (by omega) aX;clear aQ Z g m aG;go_wp2_with fail;refine aU.mono ?_;rintro e V ⟨bb,rfl,q,_,U⟩;have a:=o.grew U;have T:=gV a8 bb _ 1 V a q;have aT:=d.out.trans U;clear aU o q;by_cases h1:A^D%X=1
    ·have HT:Hid (R=true):=HR.out.2 ⟨x.out,t,I.out,.inl (by rw [← al.out];exact h1)⟩;rw [dn h1] at T;go_wp2_with fail;refine T.mono ?_;rintro e Q ⟨rfl,G,rfl⟩;go_wp2_with fail;go_ret2;exact ⟨by rw [x.out,HT.out];rfl,aT.drewN G⟩
    ·have am:=ik h1;have bc:=aa h1;generalize aJ (A^D%X) 1=c12 at *;go_wp2_with fail;refine T.mono ?_;rintro e a5 ⟨rfl,G,rfl⟩;have kd:=U.trans ((ah ae V).drewN G);obtain ⟨Q,z⟩:∃ Q,Q=V.drewN G:=⟨_,rfl⟩
     have f:=a.grew ((ah ae V).drewN G);rw [← z] at kd f ⊢;have ay:=aa (v.out.grew kd);have af:=aa (n.out.grew kd);have B:=aa (d.out.trans kd);have aj:=aa f;clear T kd z a aT U f v n d;go_wp2_with fail;rw [show (c12 == 0)=false by simpa using am];go_loopw [11,12] (fun xv iv wr=>∃ i:Nat,i≤t∧iv=.int .i64 (i:Int)∧Hid (IsBig wr xv ((A^D)^2^i%X))∧Hid (∀ j,j<i→(A^D)^2^j%X≠X-1)∧Hid (Kept ae Q wr)) (fun _ iv _=>t-(intOf iv).toNat)
     case atStart=>exact ⟨0,Nat.zero_le _,rfl,by unfold Hid;rw [Nat.pow_zero,Nat.pow_one];exact aj.out,fun j hj=>by omega,ah _ _⟩
     case round=>
      obtain ⟨i,hi,rfl,ak,C,F⟩:=hrel;by_cases hit:i<t
      ·have g1:(i:Int)<(t:Int):=by omega
       have S:=gV u11 v5 _ (X-1) wr ak.out (af.out.grew F.out);by_cases heq:(A^D)^2^i%X=X-1
       ·have HT:Hid (R=true):=HR.out.2 ⟨x.out,t,I.out,.inr ⟨i,hit,by rw [← al.out];exact heq⟩⟩;rw [dn heq] at S;go_wp2_with fail;refine S.mono ?_;rintro e N ⟨rfl,P,rfl⟩;go_wp2_with fail;go_ret2;exact ⟨by rw [x.out,HT.out];rfl,(B.out.trans F.out).drewN P⟩
       ·have a0:=ik heq;have HA:Hid (∀ j,j<i+1→(A^D)^2^j%X≠X-1):=fun j hj=>by
         by_cases e:j=i
         ·subst e;exact heq
         ·exact C.out j (by omega)
        have a6:=aa (sL X (A^D) i);have hlt:(A^D)^2^i%X<X:=Nat.mod_lt _ (by omega);generalize (A^D)^2^i%X=Y at *;have ba:aI (Y*Y)≤10000000:=by
         have h1:aI (Y*Y)≤aI (X*X):=dK (Nat.mul_le_mul (by omega) (by omega));have h2:X*X<4294967296^(aI X+aI X):=by
          rw [Nat.pow_add];exact Nat.mul_lt_mul'' ((aK _ _).1 (leR _)) ((aK _ _).1 (leR _))
         have h3:=(aK _ _).2 h2;omega
        have ad:aI Y≤260:=by have:=dK (show Y≤X by omega);omega
        generalize aJ Y (X-1)=c14 at *;go_wp2_with fail;refine S.mono ?_;rintro e aZ ⟨rfl,P,rfl⟩;have kd:=(ah ae wr).drewN P;obtain ⟨N,H⟩:∃ N,N=wr.drewN P:=⟨_,rfl⟩
        rw [← H] at kd ⊢;have aF:=ll u11 u11 v2 Y Y X N (ak.out.grew kd) (ak.out.grew kd) (ay.out.grew (F.out.trans kd)) (by omega) (by omega) (by omega) ba;clear S H;go_wp2_with fail;refine aF.mono ?_;rintro e bq ⟨bm,rfl,p,_,aD⟩;have an:=aa p;have ac:=aa (F.out.trans (kd.trans aD));clear aF p kd aD;go_wp2_with fail;go_roundw
        case rel=>exact ⟨i+1,by omega,by go_num,by unfold Hid;rw [← a6.out];exact an.out,HA,ac⟩
        case measure=>simp [intOf];omega
      ·have g1:¬ (i:Int)<(t:Int):=by omega
       obtain rfl:i=t:=by omega
       have HT:Hid (R=false):=by
        unfold Hid;cases h2:R with
        | false=>rfl
        | true=>
         obtain ⟨_,s2,a1,aB⟩:=HR.out.1 h2;obtain rfl:=a1.uniq I.out;rw [← al.out] at aB;rcases aB with h | ⟨j,hj,h⟩
         ·exact absurd h bc.out
         ·exact absurd h (C.out j hj)
       go_wp2_with fail;go_ret2;exact ⟨by rw [x.out,HT.out];rfl,B.out.trans F.out⟩
 ·have HT:Hid (E=O):=by
   unfold Hid;rw [HE.out,vJ,← HO.out,if_pos hO0]
  have J:Hid (R=false):=HF.out (by rw [HT.out];exact hO0);have g0:¬ (O:Int)=0:=by omega
  go_wp2_with fail;go_ret2;exact ⟨by rw [HT.out,J.out];rfl,k1⟩

def tzN:Nat→Nat→Nat
 | 0,_=>0
 | f+1,M=>if M%2=1 then 0 else tzN f (M/2)+1

theorem ol:∀ (f M:Nat),0<M→M<2^f→IsTz M (tzN f M)
 | 0,M,h,g=>by simp at g;omega
 | f+1,M,h,g=>by
  unfold tzN;by_cases h1:M%2=1
  ·rw [if_pos h1];exact ⟨by simpa using h1,fun j hj=>by omega⟩
  ·rw [if_neg h1];obtain ⟨hs,a⟩:=ol f (M/2) (by omega) (by rw [Nat.pow_succ] at g;omega);refine ⟨?_,fun j hj=>?_⟩
   ·rw [Nat.pow_succ,Nat.mul_comm,← Nat.div_div_eq_div_mul];exact hs
   ·cases j with
    | zero=>simp;omega
    | succ j=>
     rw [Nat.pow_succ,Nat.mul_comm,← Nat.div_div_eq_div_mul];exact a j (by omega)

def et (N A:Nat):Bool:=decide (0<N-1) && (decide (A^((N-1)/2^tzN (N-1) (N-1))%N=1) || (List.range (tzN (N-1) (N-1))).any fun i=>decide ((A^((N-1)/2^tzN (N-1) (N-1)))^2^i%N=N-1))

theorem je (N A:Nat):et N A=true↔it N A:=by
 unfold et it;rw [Bool.and_eq_true,decide_eq_true_iff,Bool.or_eq_true,decide_eq_true_iff,List.any_eq_true];constructor
 ·rintro ⟨h0,h⟩;refine ⟨_,ol (N-1) (N-1) h0 Nat.lt_two_pow_self,?_⟩;rcases h with h | ⟨i,hi,h⟩
  ·exact .inl h
  ·exact .inr ⟨i,List.mem_range.1 hi,of_decide_eq_true h⟩
 ·rintro ⟨s,hs,h⟩;have h0:0<N-1:=by
   rcases Nat.eq_zero_or_pos (N-1) with e | e
   ·have:=hs.1;rw [e] at this;simp at this
   ·exact e
  obtain rfl:=hs.uniq (ol (N-1) (N-1) h0 Nat.lt_two_pow_self);refine ⟨h0,?_⟩;rcases h with h | ⟨i,hi,h⟩
  ·exact .inl h
  ·exact .inr ⟨i,List.mem_range.2 hi,bd h⟩

end Go.Proofs.YtcemlfokmjjiaaaGreatDoor
