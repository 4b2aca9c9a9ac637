/- Put together of: Mon2 Inv0 Ref6m. -/
import Derived.Test.YtcemlfokmjjiaaaGreatDoorPp13

namespace Go.Proofs.YtcemlfokmjjiaaaGreatDoor
set_option maxRecDepth 100000
set_option maxHeartbeats 4000000
open Go.RowKit

theorem my {xs:List Nat} (hd:Digs xs) (n:Nat):xs.take n ++ List.replicate (n-(xs.take n).length) 0=ag (val xs) n:=by
 have hl:(xs.take n).length≤n:=by rw [List.length_take];omega
 refine aT (by omega) ((hd.take n).append (fun d h=>by rw [(List.mem_replicate.1 h).2];omega)) (by simp;omega) ?_;rw [bu,cH _ (fun d h=>(List.mem_replicate.1 h).2),Nat.mul_zero,Nat.add_zero,eR (by omega) hd]

theorem qN (v:Value) (xs:List Nat) (n:Nat) (w:World) (h:Row .u64 w v xs) (hd:Digs xs) (hn:n≤1000000) :
  Calls Tryz.prog 215 #[v,.int .i64 (n:Nat)] w fun e w'=>e=.returned (.slice (some ⟨w.heap.size,0,none⟩) n n)∧OwnN .u64 23 w' w.heap.size (.slice (some ⟨w.heap.size,0,none⟩) n n) n (ag (val xs) n)∧Kept ae w w':=by
 obtain ⟨i0,k,r,g,l⟩:=info_parts Tryz.info23;obtain ⟨ao,q,cap,rfl,hL,_,_,_,_⟩:=h.open;have HD:=aa (my hd n);have HS:Hid (∀ W,Kept ae w W→0<((xs.take n).map fun z:Nat=>Value.int .u64 (z:Int)).length→∃ ad,ao=some ad∧∀ j u,((xs.take n).map fun z:Nat=>Value.int .u64 (z:Int))[j]? = some u→W.cell? (ad.add j)=some u):=fun W hk hp=>by
  obtain ⟨ad,e,hs⟩:=h.source hk (by rw [List.length_map,List.length_take] at hp;rw [List.length_map];omega);refine ⟨ad,e,fun j u hj=>hs j u ?_⟩;rw [List.map_take,List.getElem?_take] at hj
  split at hj
  ·exact hj
  ·cases hj
 have HO:=aa (gw .u64 (xs.take n));have d:Hid (((xs.take n).map fun z:Nat=>Value.int .u64 (z:Int)).length=Nat.min q n):=by
  unfold Hid;rw [List.length_map,List.length_take,hL.out];exact Nat.min_comm n q
 obtain ⟨CS,b⟩:∃ CS,CS=(xs.take n).map (fun z:Nat=>Value.int .u64 (z:Int)):=⟨_,rfl⟩
 rw [← b] at HS HO d;have m:Hid (CS=(xs.take n).map (fun z:Nat=>Value.int .u64 (z:Int))):=b;have s:Nat.min q n≤n:=Nat.min_le_right _ _;clear b h hd;go_enter Tryz.func215,Tryz.ntmps215
 go_wp2_with (at_make;refine wpList_make_full _ rfl _ _ 32 rfl w.heap.size 23 i0 _ 1 Tryz.underlying32 k r g _ _ _ _ n rfl rfl rfl rfl (by rw [l];omega) (by unfold maxLen;omega) (leR _) ?_;intro w1 c f;rw [aE] at c;have k1:=aC f;obtain ⟨w2,o,i,k2⟩:=cX (P:=Tryz.prog) 32 32 3 23 w.heap.size 0 n n (some ⟨w.heap.size,0,none⟩) ao q cap _ 23 CS Tryz.underlying32 (by rw [k];simp [g]) (ei c) d.out (fun hp=>⟨rfl,HS.out _ k1 hp⟩) (by have:=d.out;simp;omega) HO.out;have p:Hid _:=i;clear i c f);go_ret;have a:=p.out;rw [m.out,dR] at a;rw [HD.out] at a;have kk:=cG k1 k2 (leR _)
 exact ⟨rfl,bZ a (by rw [af]) (by unfold maxLen;omega) (leR _),kk⟩

def gU (X V c:Nat):Nat:=if c=1∨V≤X then 1 else 0

def iI (X V c n:Nat):Nat:=aL (gU X V c) (cJ X V n) X

theorem nr (X V c:Nat) (hc:c≤1):bits .or .u64 (c:Int) (bits .xor .u64 ((be (decide (X<V)):Nat):Int) 1)=((gU X V c:Nat):Int):=by
 unfold gU be;have a:c=0∨c=1:=by omega
 by_cases h2:X<V
 ·rcases a with h3 | h3
  ·rw [h3,bd h2,if_pos rfl,if_neg (by omega)]
   decide
  ·rw [h3,bd h2,if_pos rfl,if_pos (.inl rfl)]
   decide
 ·rcases a with h3 | h3
  ·rw [h3,aF h2,if_neg (by decide),if_pos (.inr (by omega))]
   decide
  ·rw [h3,aF h2,if_neg (by decide),if_pos (.inl rfl)]
   decide

theorem vx (X V c:Nat):gU X V c≤1:=by unfold gU;split <;> omega

theorem tq {X V c n:Nat} (hX:X<18446744073709551616^n) (hV:V<18446744073709551616^n) (hc:c≤1) (h:X+18446744073709551616^n*c<2*V):iI X V c n=(X+18446744073709551616^n*c)%V:=by
 rw [← vz h];unfold iI;have a:c=0∨c=1:=by omega
 have s1:∀ A B,aL 1 A B=A:=fun A B=>rfl
 have s0:∀ A B,aL 0 A B=B:=fun A B=>rfl
 rcases a with rfl | rfl
 ·rw [Nat.mul_zero,Nat.add_zero];by_cases h1:V≤X
  ·rw [show gU X V 0=1 from if_pos (Or.inr h1),s1,if_pos h1,cJ,if_neg (by omega)]
  ·rw [show gU X V 0=0 from if_neg (by omega),s0,if_neg h1]
 ·rw [Nat.mul_one] at h ⊢;rw [show gU X V 1=1 from if_pos (Or.inl rfl),s1,cJ,if_pos (show X<V by omega),if_pos (by omega),B64]

theorem yH (o:Tr) (ao bo:Option Addr) (n a rl f c:Nat) (K:Int) (v:Value) (xs ms:List Nat) (w:World) (ht:TrRoom w o 2) (hx:RowT w o v xs) (g:xs.length=n) (hm:RowT w o (.slice ao n a) ms) (r:Digs xs) (p:Digs ms) (hc:c≤1) (hn:n≤100000) :
  Calls Tryz.prog 244 #[aD o,.agg #[.slice ao n a,.int .u64 K,.slice bo rl f],v,.int .u64 (c:Nat)] w fun e w'=>∃ v',e=.returned v' ∧
   OwnN .u64 23 w' w.heap.size v' n (ag (iI (val xs) (val ms) c n) n)∧∃ o',Did w o [(1,(n:Nat),0),(1,(n:Nat),0)] w' o':=by
 obtain ⟨_,_,_,e1,A,_,_,_,_⟩:=hm.1.open;cases e1
 have eM:=A.out;obtain ⟨xo,xn,xc,rfl,t,_,_,_,_⟩:=hx.1.open;obtain rfl:xn=n:=t.out.symm.trans g;have B:=nr (val xs) (val ms) c hc;obtain ⟨T,hT⟩:∃ T,T=gU (val xs) (val ms) c:=⟨_,rfl⟩
 have C:T≤1:=by rw [hT];exact vx _ _ _
 have k0:Kept ae w (w.alloc (.cells #[.slice ao xn a,.int .u64 K,.slice bo rl f] 130)):=(ah ae w).alloc _;have i:(w.alloc (.cells #[.slice ao xn a,.int .u64 K,.slice bo rl f] 130)).heap[w.heap.size]? = some (.cells #[.slice ao xn a,.int .u64 K,.slice bo rl f] 130 (0,0)):=heap_alloc_new _ _;have j:=nV o _ _ xs ms _ ((ht.less (by omega)).grew k0) (hx.grew k0) (hm.grew k0) r p (by rw [g];omega) (by rw [eM];omega);rw [g,eM,Nat.max_self] at j
 have hSb:=fun (W:World) (o1:Tr) (m1:List Ev) (d:Did w o m1 W o1) (m:m1.length=1)=>oT o1 T (by omega) _ _ xs ms W (d.room (k:=1) (by rw [m];exact ht)) (hx.did d) (hm.did d) r p (by rw [g];omega) (by rw [eM];omega)
 have h:∀ (W:World) (o1:Tr) (m1:List Ev) (d:Did w o m1 W o1) (m:m1.length=1),Calls Tryz.prog 118 #[aD o,.int .u64 (T:Nat),.slice xo xn xc,.slice ao xn a] W fun e w'=>∃ v' c',e=.returned (.tuple #[v',.int .u64 (c':Int)]) ∧
   OwnN .u64 23 w' W.heap.size v' xn (ag (iI (val xs) (val ms) c xn) xn)∧∃ o',Did W o1 [(1,(xn:Nat),0)] w' o':=fun W o1 m1 d m=>by
  have:=hSb W o1 m1 d m;rw [d.ptr,g,eM,Nat.max_self,hT] at this;rw [hT];refine this.mono ?_;rintro e w' ⟨v',rfl,h1,h2⟩;exact ⟨v',_,rfl,h1,h2⟩
 rw [← hT] at B;have E:=aa h;have HT:=aa ht.1;obtain ⟨tp,l⟩:∃ tp,tp=aD o:=⟨_,rfl⟩
 rw [← l] at j ⊢;have D:=aa l;obtain ⟨po,y⟩:=aH o;obtain rfl:tp=.pointer po:=l.trans y;generalize iI (val xs) (val ms) c xn=Y at *;generalize be (decide (val xs<val ms))=b1 at *;have H0:=aa ht;have K0:=aa k0;clear hm hx ht hT hSb h A t eM g l y r p k0;obtain ⟨p0,p1,p2⟩:=ay i;go_enter Tryz.func244,Tryz.ntmps244;go_wp2_with fail;refine j.mono ?_;rintro e w1 ⟨rfl,o1,d1⟩;have q:=Did.after K0.out d1;have x:=(d1.kept.block _ (lt_of_block i) (ax i (HT.out.grew K0.out) (by decide) (by decide))).trans i;obtain ⟨q0,q1,q2⟩:=ay x;have s:=E.out w1 o1 _ q rfl;rw [← D.out] at s;clear j p0 p1 p2 i x
 go_wp2_with fail;refine s.mono ?_;rintro e w2 ⟨v2,c2,rfl,z,o2,d2⟩;go_wp2_with fail;go_ret;refine ⟨_,rfl,aU z (fun b hb=>?_),o2,q.trans d2⟩;have:=(z.lt b hb).1;have:=q.size;omega

theorem ux {w:World} {base g N cap n L c:Nat} {zs:List Nat} (h:OwnN .u64 23 w base (.slice (some ⟨g,0,none⟩) N cap) N zs) (b:zs.length=N) (hn:n+L=N) (hc:L≤c) (hm:c≤maxLen):Row .u64 w (.slice (some ⟨g,n,none⟩) L c) (zs.drop n):=by
 have a:(zs.drop n).length=L:=by rw [List.length_drop];omega
 refine ⟨some ⟨g,n,none⟩,c,by rw [a],by omega,hm,(fun e=>by cases e),fun i hi=>⟨g,n,rfl,?_⟩⟩;rw [a] at hi;rw [World.ownsRow.cellAt h (n+i) (by omega),List.getElem?_map,List.getD_eq_getElem?_getD,List.getElem?_drop,List.getElem?_eq_getElem (by omega)];rfl

def Reduced (a:World) (o0:Tr) (m0:List Ev) (n K X V:Nat) (w':World) (v':Value):Prop:=
 ∃ (Y:Nat) (o':Tr),OwnN .u64 23 w' a.heap.size v' n (ag Y n)∧((V*K+1)%18446744073709551616=0→0<n→X<V*18446744073709551616^n→Y<V∧18446744073709551616^n*Y%V=X%V)∧Did a o0 (m0 ++ List.replicate (n+2) (1,(n:Int),0)) w' o'

theorem mo {n K X V Q c:Nat} {zs:List Nat} (b:Digs zs) (f:zs.length=n+n) (hc:c≤1) (hV:V<18446744073709551616^n) (he:val zs+18446744073709551616^(n+n)*c=X+V*Q) (hQ:Q<18446744073709551616^n) (a:(V*K+1)%18446744073709551616=0→0<n→val zs%18446744073709551616^n=0) (hg:(V*K+1)%18446744073709551616=0) (hn:0<n) (hX:X<V*18446744073709551616^n) :
  iI (val (zs.drop n)) V c n<V∧18446744073709551616^n*iI (val (zs.drop n)) V c n%V=X%V:=by
 have d:0<V:=by
  rcases Nat.eq_zero_or_pos V with h | h
  ·rw [h] at hX;omega
  ·exact h
 have hd:=fA (by omega) b n;have hA:val zs=18446744073709551616^n*val (zs.drop n):=by
  have e:=Nat.mod_add_div (val zs) (18446744073709551616^n);rw [a hg hn,Nat.zero_add,← hd] at e;exact e.symm
 have hT:val (zs.drop n)<18446744073709551616^n:=by
  have:=aq (by omega) (b.drop n)
  rwa [List.length_drop,f,Nat.add_sub_cancel] at this
 rw [Nat.pow_add] at he;obtain ⟨h1,h2⟩:=vk hA he hQ hX;rw [tq hT hV hc h1];refine ⟨Nat.mod_lt _ d,?_⟩;rw [← h2];generalize val (zs.drop n)+18446744073709551616^n*c=Z;rw [Nat.mul_mod,Nat.mod_mod,← Nat.mul_mod]

theorem j5 (a:World) (o0 o:Tr) (m0:List Ev) (g base N cap n K d rl h:Nat) (ao bo:Option Addr) (zs ms:List Nat) (w:World) (hD:Did a o0 m0 w o) (ht:TrRoom a o0 (m0.length+(n+2))) (hg:a.heap.size≤g)
  (ho:OwnN .u64 23 w base (.slice (some ⟨g,0,none⟩) N cap) N zs) (t:zs.length=N) (F:Digs zs) (hN:N=n+n) (M:N≤100000) (hm:RowT a o0 (.slice ao n d) ms) (p:Digs ms) :
  Calls Tryz.prog 216 #[aD o,.agg #[.slice ao n d,.int .u64 (K:Nat),.slice bo rl h],.slice (some ⟨g,0,none⟩) N cap] w fun e w'=>
   ∃ v',e=.returned v'∧Reduced a o0 m0 n K (val zs) (val ms) w' v':=by
 obtain ⟨_,_,_,e1,L,_,_,_,_⟩:=hm.1.open;cases e1
 have eM:=L.out;have hV:val ms<18446744073709551616^n:=by rw [← eM];exact aq (by omega) p
 obtain ⟨_,_,_,e1,_,S,T,_,_⟩:=(Row.of_own (base:=base) (e:=23) (by rw [t];exact ho):Row .u64 w (.slice (some ⟨g,0,none⟩) N cap) zs).open;cases e1
 have k0:Kept ae w (w.alloc (.cells #[.slice ao n d,.int .u64 (K:Nat),.slice bo rl h] 130)):=(ah ae w).alloc _;have z:(w.alloc (.cells #[.slice ao n d,.int .u64 (K:Nat),.slice bo rl h] 130)).heap[w.heap.size]? = some (.cells #[.slice ao n d,.int .u64 (K:Nat),.slice bo rl h] 130 (0,0)):=heap_alloc_new _ _;have m:=nE a o0 o m0 g base N cap n n K d rl h ao bo zs ms _ (hD.grew k0) (ht.less (by omega)) hg (k0.own ho (fun _ _ f=>f)) t F hN M hm p w.heap.size _ _ z (by decide) (by decide) (by have:=cL ho;omega);obtain ⟨tp,x⟩:∃ tp,tp=aD o:=⟨_,rfl⟩
 rw [← x] at m ⊢;have O:=aa (x.trans hD.ptr);have HM:=aa hm;have P:=aa p;have HT:=aa ht;have HG:=aa hg;have HV:=aa hV;have HN:=aa hN;have HE:=aa eM;obtain ⟨X,hX⟩:∃ X,X=val zs:=⟨_,rfl⟩
 obtain ⟨V,q⟩:∃ V,V=val ms:=⟨_,rfl⟩
 rw [← hX,← q] at m;rw [← hX,← q];have B:=aa q;have R:a.heap.size≤w.heap.size:=hD.size;clear hm p ht hg hV hN eM L hX q F t ho k0 hD x;obtain ⟨p0,p1,p2⟩:=ay z;clear z;go_enter Tryz.func216,Tryz.ntmps216;go_wp2_with fail;refine m.mono ?_;rintro e w1 ⟨c,rfl,⟨hc,j,Q,o1,v,y,r,C,G,i,D1⟩,D⟩;obtain ⟨q0,q1,q2⟩:=ay D;clear m p0 p1 p2;have gn:(n:Int)≤(N:Int):=by have:=HN.out;omega
 have U:n≤N:=by omega
 have gc:(if cap=n then some (⟨g,0,none⟩:Addr) else some ⟨g,n,none⟩)=some ⟨g,n,none⟩:=by
  split
  ·have:=HN.out;obtain rfl:n=0:=by omega
   rfl
  ·rfl
 have gl:N-n=n:=by have:=HN.out;omega
 have l:Row .u64 w1 (.slice (some ⟨g,n,none⟩) n (cap-n)) (j.drop n):=ux v y (by have:=HN.out;omega) (by omega) (by unfold maxLen;omega);have E:(j.drop n).length=n:=by rw [List.length_drop];omega
 have s:=D1.room (k:=2) (by rw [List.length_append,List.length_replicate];exact HT.out.less (by omega));have H:RowT w1 o1 (.slice (some ⟨g,n,none⟩) n (cap-n)) (j.drop n):=⟨l,fun _ b hb=>by cases hb;exact eO v s.1 _ rfl⟩
 have hL:=fun W (k:Kept ae w1 W)=>yH o1 ao bo n d rl h c K _ _ ms W (s.grew k) (H.grew k) E ((HM.out.did D1).grew k) (r.drop n) P.out hc (by have:=HN.out;omega)
 rw [D1.ptr,← O.out,← B.out] at hL;have A:Hid ((V*K+1)%18446744073709551616=0→0<n→X<V*18446744073709551616^n→iI (val (j.drop n)) V c n<V∧18446744073709551616^n*iI (val (j.drop n)) V c n%V=X%V):=fun hg hn hX=>mo r (y.trans HN.out) hc (by rw [B.out];exact HV.out) (by rw [← HN.out];exact C) G i hg hn hX
 have J:=aa D1;have HS:=aa hL;clear C G i D1 r v y l H E s hL D;generalize iI (val (j.drop n)) V c n=Y at *;go_wp2_with fail;go_region_with (go_at_call 244;refine (HS.out _ ((ah _ _).drew)).mono ?_;rintro e w2 ⟨v2,rfl,I,o2,d2⟩)
 all_goals
  go_wp2_with fail;go_ret;have d3:=J.out.trans (Did.after ((ah _ _).drew) d2);rw [List.append_assoc,show ([(1,(n:Int),0),(1,(n:Int),0)]:List Ev)=List.replicate 2 (1,(n:Int),0) from rfl,List.replicate_append_replicate] at d3;refine ⟨_,rfl,Y,o2,aU I (fun b hb=>?_),A.out,d3⟩;have h1:=(I.lt b hb).1;have h2:=J.out.size;have h3:w1.drew.heap.size=w1.heap.size:=rfl;omega

theorem oD (o:Tr) (n K a rl c xc yc:Nat) (ao bo xo yo:Option Addr) (xs ys ms:List Nat) (w:World) (ht:TrRoom w o 1000) (hx:RowT w o (.slice xo n xc) xs) (hy:RowT w o (.slice yo n yc) ys) (hm:RowT w o (.slice ao n a) ms)
  (r:Digs xs) (q:Digs ys) (x:Digs ms) (hn:n≤130) :
  Calls Tryz.prog 214 #[aD o,.agg #[.slice ao n a,.int .u64 (K:Nat),.slice bo rl c],.slice xo n xc,.slice yo n yc] w fun e w'=>
   ∃ v',e=.returned v'∧Reduced w o (List.replicate n (1,(n:Int),0)) n K (val xs*val ys) (val ms) w' v':=by
 obtain ⟨_,_,_,e1,z,_,_,_,_⟩:=hx.1.open;cases e1
 obtain ⟨_,_,_,e1,s,_,_,_,_⟩:=hy.1.open;cases e1
 have t:val xs*val ys<18446744073709551616^(n+n):=by
  have h1:=aq (by omega) r;have h2:=aq (by omega) q;rw [z.out] at h1;rw [s.out] at h2;rw [Nat.pow_add];exact Nat.mul_lt_mul_of_lt_of_le h1 (Nat.le_of_lt h2) (Nat.pow_pos (by omega))
 obtain ⟨W0,l⟩:∃ W0,W0=w.alloc (.cells #[.slice ao n a,.int .u64 (K:Nat),.slice bo rl c] 130):=⟨_,rfl⟩
 have k0:Kept ae w W0:=by rw [l];exact (ah ae w).alloc _
 have j:W0.heap[w.heap.size]? = some (.cells #[.slice ao n a,.int .u64 (K:Nat),.slice bo rl c] 130 (0,0)):=by rw [l];exact heap_alloc_new _ _
 obtain ⟨tp,p⟩:∃ tp,tp=aD o:=⟨_,rfl⟩
 have y:∀ W m o1,Did W0 o m W o1→W.cell? ⟨w.heap.size,0,none⟩=some (.slice ao n a)∧W.cell? ⟨w.heap.size,1,none⟩=some (.int .u64 (K:Nat))∧W.cell? ⟨w.heap.size,2,none⟩=some (.slice bo rl c):=fun W m o1 d=>ay ((d.kept.block _ (lt_of_block j) (ax j (ht.grew k0).1 (by decide) (by decide))).trans j)
 have f:∀ W,Kept ae W0 W→Calls Tryz.prog 50 #[tp,.slice xo n xc,.slice yo n yc] W fun e w'=>∃ g,e=.returned (.slice (some ⟨g,0,none⟩) (n+n) (n+n))∧W0.heap.size≤g∧OwnN .u64 23 w' g (.slice (some ⟨g,0,none⟩) (n+n) (n+n)) (n+n) (ag (val xs*val ys) (n+n))∧∃ o1,Did W0 o (List.replicate n (1,(n:Int),0)) w' o1:=fun W k=>by
  rw [p];refine (yP o xo yo n n xc yc xs ys W ((ht.less (by omega)).grew (k0.trans k)) (hx.grew (k0.trans k)) (hy.grew (k0.trans k)) r q).mono ?_;rintro e w' ⟨v',rfl,_,_,h3,o1,d1⟩;obtain ⟨g,hg,rfl,ho⟩:=h3 ⟨by omega,by omega⟩;unfold jH at d1;rw [if_pos ⟨by omega,by omega⟩] at d1;exact ⟨g,rfl,Nat.le_trans k.size hg,ho,o1,Did.after k d1⟩
 have i:∀ W g o1,W0.heap.size≤g→OwnN .u64 23 W g (.slice (some ⟨g,0,none⟩) (n+n) (n+n)) (n+n) (ag (val xs*val ys) (n+n))→Did W0 o (List.replicate n (1,(n:Int),0)) W o1 →
   Calls Tryz.prog 216 #[tp,.agg #[.slice ao n a,.int .u64 (K:Nat),.slice bo rl c],.slice (some ⟨g,0,none⟩) (n+n) (n+n)] W fun e w'=>∃ v',e=.returned v'∧Reduced W0 o (List.replicate n (1,(n:Int),0)) n K (val xs*val ys) (val ms) w' v':=fun W g o1 hg ho d=>by
  have:=j5 W0 o o1 _ g g (n+n) (n+n) n K a rl c ao bo _ ms W d ((ht.less (by rw [List.length_replicate];omega)).grew k0) hg ho (af _ _ _) (ai (by omega) _ _) rfl (by omega) (hm.grew k0) x;rw [d.ptr,← p,ak,al t] at this;exact this
 rw [← p];have HB:Hid (∀ W' v',Reduced W0 o (List.replicate n (1,(n:Int),0)) n K (val xs*val ys) (val ms) W' v'→Reduced w o (List.replicate n (1,(n:Int),0)) n K (val xs*val ys) (val ms) W' v'):=fun W' v' h=>by
  obtain ⟨Y,o',h1,h2,h3⟩:=h;exact ⟨Y,o',aU h1 (fun b hb=>Nat.le_trans k0.size (h1.lt b hb).1),h2,Did.after k0 h3⟩
 obtain ⟨p0,p1,p2⟩:=ay j;have JM:=aa f;have JR:=aa i;have JC:=aa y;generalize val xs*val ys=XY at *;generalize val ms=V at *;have JK:Hid (∀ W' v',Reduced W0 o (List.replicate n (1,(n:Int),0)) n K XY V W' v'→∃ m o1,Did W0 o m W' o1):=fun W' v' h=>by
  obtain ⟨Y,o',_,_,h3⟩:=h;exact ⟨_,_,h3⟩
 have A:=aa l;clear l f i y hx hy hm ht r q x z s t p k0 j;go_enter Tryz.func214,Tryz.ntmps214;go_wp2_with fail;rw [← A.out];go_region_held3 (fun w'=>w'.cell? ⟨w.heap.size,0,none⟩=some (.slice ao n a)∧w'.cell? ⟨w.heap.size,1,none⟩=some (.int .u64 (K:Int))∧w'.cell? ⟨w.heap.size,2,none⟩=some (.slice bo rl c))
  (((try dsimp only);(repeat' apply And.intro) <;> first | (go_keep;done) | assumption))
  (first
  | (go_at_call 50;refine (JM.out _ ?_).mono ?_;(exact (ah _ _).drew);rintro e w2 ⟨g,rfl,hg,B,o2,d2⟩;obtain ⟨q0,q1,q2⟩:=JC.out _ _ _ d2)
  | (go_at_call 216;refine (JR.out _ _ o2 hg B d2).mono ?_;rintro e w3 ⟨v3,rfl,v⟩;obtain ⟨m3,o3,d3⟩:=JK.out _ _ v;obtain ⟨r0,r1,r2⟩:=JC.out _ _ _ d3))
 all_goals
  go_wp2_with fail;go_ret;exact ⟨_,rfl,HB.out _ _ v⟩

def lw (l n X V:Nat):Nat:=if l=n∧X<V then 1 else 0

theorem yg (o:Tr) (ao bo xo:Option Addr) (n l a rl b xc:Nat) (K:Int) (ms xs:List Nat) (w:World) (ht:TrRoom w o 1) (hm:RowT w o (.slice ao n a) ms) (hx:RowT w o (.slice xo l xc) xs) (q:Digs ms) (i:Digs xs) (hn:n≤100000) (P:Nat) (hP:P=lw l n (val xs) (val ms)) :
  Calls Tryz.prog 243 #[aD o,.agg #[.slice ao n a,.int .u64 K,.slice bo rl b],.slice xo l xc] w fun e w'=>e=.returned (.int .u64 (P:Int))∧∃ o',Did w o [(1,(n:Int),0)] w' o':=by
 obtain ⟨_,_,_,e1,p,_,_,_,_⟩:=hm.1.open;cases e1
 obtain ⟨_,_,_,e1,s,_,_,_,_⟩:=hx.1.open;cases e1
 obtain ⟨W,hW⟩:∃ W,W=w.alloc (.cells #[.slice ao n a,.int .u64 K,.slice bo rl b] 130):=⟨_,rfl⟩
 have k0:Kept ae w W:=by rw [hW];exact (ah ae w).alloc _
 have c:W.heap[w.heap.size]? = some (.cells #[.slice ao n a,.int .u64 K,.slice bo rl b] 130 (0,0)):=by rw [hW];exact heap_alloc_new _ _
 obtain ⟨tp,j⟩:∃ tp,tp=aD o:=⟨_,rfl⟩
 have JF:Hid (∀ W',Kept ae W W'→Calls Tryz.prog 215 #[.slice xo l xc,.int .i64 (n:Int)] W' fun e w'=>e=.returned (.slice (some ⟨W'.heap.size,0,none⟩) n n)∧Row .u64 w' (.slice (some ⟨W'.heap.size,0,none⟩) n n) (ag (val xs) n)∧RowT w' o (.slice (some ⟨W'.heap.size,0,none⟩) n n) (ag (val xs) n)∧Kept ae W w'):=fun W' k=>by
  refine (qN (.slice xo l xc) xs n W' (hx.1.grew (k0.trans k)) i (by omega)).mono ?_;rintro e w' ⟨rfl,ho,k'⟩;exact ⟨rfl,aS ho (af _ _ _),fw ho (af _ _ _) (ht.grew ((k0.trans k).trans k')).1,k.trans k'⟩
 obtain ⟨Q,hQ⟩:∃ Q,Q=be (decide (val xs%18446744073709551616^n<val ms)):=⟨_,rfl⟩
 have JL:Hid (∀ W' g,Kept ae W W'→RowT W' o (.slice (some ⟨g,0,none⟩) n n) (ag (val xs) n)→Calls Tryz.prog 144 #[tp,.slice (some ⟨g,0,none⟩) n n,.slice ao n a] W' fun e w'=>e=.returned (.int .u64 (Q:Int))∧∃ o',Did W o [(1,(n:Int),0)] w' o'):=fun W' g k hr=>by
  have:=nV o _ _ _ ms W' (ht.grew (k0.trans k)) hr (hm.grew (k0.trans k)) (ai (by omega) _ _) q (by rw [af];omega) (by rw [p.out];omega);rw [af,p.out,Nat.max_self,ak,← hQ,← j] at this;refine this.mono ?_;rintro e w' ⟨rfl,o',d⟩;exact ⟨rfl,o',Did.after k d⟩
 have JC:Hid (∀ W' m o',Did W o m W' o'→W'.cell? ⟨w.heap.size,0,none⟩=some (.slice ao n a)):=fun W' m o' d=>(ay ((d.kept.block _ (lt_of_block c) (ax c (ht.grew k0).1 (by decide) (by decide))).trans c)).1
 have HQ:Hid (l=n→Q=P):=fun h=>by
  rw [hQ,hP,al (by rw [← h,← s.out];exact aq (by omega) i)];unfold be lw;by_cases h2:val xs<val ms
  ·rw [bd h2,if_pos rfl,if_pos ⟨h,h2⟩]
  ·rw [aF h2,if_neg (by decide),if_neg (fun h=>h2 h.2)]
 have HP:Hid (¬ l=n→P=0):=fun h=>by
  rw [hP];exact if_neg (fun h'=>h h'.1)
 obtain ⟨p0,p1,p2⟩:=ay c;have HW:=aa hW;have r:=aa k0;have y:=aa (ht.grew k0).1;rw [← j];clear hW k0 c j hm hx q i ht p s hQ hP;by_cases h:l=n
 ·have x:=HQ.out h;subst h;subst x;go_enter Tryz.func243,Tryz.ntmps243;go_wp2_with fail;rw [← HW.out];go_region_held3 (fun w'=>w'.cell? ⟨w.heap.size,0,none⟩=some (.slice ao l a))
   (((try dsimp only);first | (go_keep;done) | assumption))
   (first
   | (go_at_call 215;refine (JF.out _ ?_).mono ?_;(exact (ah _ _).drew);rintro e w2 ⟨rfl,v,f,k2⟩;have q0:=k2.cellN p0)
   | (go_at_call 144;refine (JL.out _ _ k2 f).mono ?_;rintro e w3 ⟨rfl,o3,d3⟩;have r0:=JC.out _ _ _ d3))
  all_goals
   go_wp2_with fail;go_ret;exact ⟨rfl,o3,Did.after r.out d3⟩
 ·have t:=HP.out h;subst t;have h':¬ (l:Int)=(n:Int):=by omega
  go_enter Tryz.func243,Tryz.ntmps243;go_wp2_with fail;rw [← HW.out];go_region_held3 (fun w'=>w'.cell? ⟨w.heap.size,0,none⟩=some (.slice ao n a))
   (((try dsimp only);first | (go_keep;done) | assumption))
   (first
   | (go_at_call 215;refine (JF.out _ ?_).mono ?_;(exact (ah _ _).drew);rintro e w2 ⟨rfl,v,f,k2⟩;have q0:=k2.cellN p0)
   | (go_at_call 144;refine (JL.out _ _ k2 f).mono ?_;rintro e w3 ⟨rfl,o3,d3⟩;have r0:=JC.out _ _ _ d3))
  all_goals
   go_wp2_with fail;go_ret;exact ⟨rfl,o3,Did.after r.out d3⟩

theorem rQ (k:Nat) (h:k≤64):(2:Int)^k ∣ 18446744073709551616:=by
 have:(18446744073709551616:Int)=2^k*2^(64-k):=by rw [← Int.pow_add,show k+(64-k)=64 by omega];rfl
 exact ⟨_,this⟩

theorem rh (a:Int) (h:a%2=1):(2:Int)^3 ∣ 1-a*a:=by
 obtain ⟨b,rfl⟩:∃ b,a=2*b+1:=⟨a/2,by omega⟩
 have e:(1:Int)-(2*b+1)*(2*b+1)=-4*(b*(b+1)):=by
  simp only [Int.mul_add,Int.add_mul,Int.mul_one,Int.one_mul,Int.neg_mul];rw [show (2*b*(2*b):Int)=4*(b*b) by rw [Int.mul_assoc,Int.mul_left_comm b 2 b];omega];omega
 have hp:∃ c,b*(b+1)=2*c:=by
  rcases Int.emod_two_eq b with h2 | h2
  ·obtain ⟨c,rfl⟩:∃ c,b=2*c:=⟨b/2,by omega⟩
   exact ⟨c*(2*c+1),by rw [Int.mul_assoc]⟩
  ·obtain ⟨c,rfl⟩:∃ c,b=2*c+1:=⟨b/2,by omega⟩
   exact ⟨(2*c+1)*(c+1),by rw [show 2*c+1+1=2*(c+1) by omega,← Int.mul_assoc,Int.mul_comm (2*c+1) 2,Int.mul_assoc]⟩
 obtain ⟨c,hc⟩:=hp;rw [e,hc];exact ⟨-c,by omega⟩

theorem uE (a x y:Int) (k:Nat) (h:(2:Int)^k ∣ 1-a*x) (hy:(18446744073709551616:Int) ∣ y-x*(2-a*x)) (m:Nat) (hm:m≤2*k) (b:m≤64) :
  (2:Int)^m ∣ 1-a*y:=by
 have e:1-a*y=(1-a*x)*(1-a*x)-a*(y-x*(2-a*x)):=by
  simp only [Int.mul_sub,Int.sub_mul,Int.mul_one,Int.one_mul];have h1:a*(x*2)=a*x*2:=by rw [Int.mul_assoc]
  have h2:a*(x*(a*x))=a*x*(a*x):=by rw [Int.mul_assoc]
  omega
 rw [e];refine Int.dvd_sub ?_ ?_
 ·have h1:(2:Int)^(k+k) ∣ (1-a*x)*(1-a*x):=by rw [Int.pow_add];exact Int.mul_dvd_mul h h
  refine Int.dvd_trans ?_ h1;exact ⟨2^(k+k-m),by rw [← Int.pow_add];congr 1;omega⟩
 ·exact Int.dvd_trans (Int.dvd_trans (rQ m b) hy) (Int.dvd_mul_left _ _)

theorem rf (a x:Int):(18446744073709551616:Int) ∣ (x*((2-a*x%18446744073709551616)%18446744073709551616))%18446744073709551616-x*(2-a*x):=by
 obtain ⟨t,ht⟩:∃ t,(2-a*x%18446744073709551616)%18446744073709551616=2-a*x+18446744073709551616*t:=⟨((2-a*x%18446744073709551616)%18446744073709551616-(2-a*x))/18446744073709551616,by omega⟩
 rw [ht,Int.mul_add,Int.mul_left_comm x 18446744073709551616 t];generalize x*(2-a*x)=p;generalize x*t=q;omega

def mu (a x:Int):Prop:=0≤x∧x<18446744073709551616∧(a%2=1→(18446744073709551616:Int) ∣ 1-a*x)∧(a%2=0→x=0)

def dF (V:Nat):Nat:=if 130<aj V then 2 else if V<2 then 1 else if V%2=0 then 60 else 0

def mh (V K:Nat):Prop:=K<18446744073709551616∧(dF V=0→(V*K+1)%18446744073709551616=0)∧(dF V≠0→K=0)

def eH (V:Nat):List Nat:=if dF V=0 then ag V (aj V) else []

def eF (V:Nat):List Nat:=if dF V=0 then ag (2^(128*aj V)%V) (aj V) else []

theorem eu {V:Nat} (h:dF V=0):aj V≤130∧2≤V∧V%2=1:=by
 unfold dF at h;by_cases h1:130<aj V
 ·rw [if_pos h1] at h;omega
 ·rw [if_neg h1] at h;by_cases h2:V<2
  ·rw [if_pos h2] at h;omega
  ·rw [if_neg h2] at h;by_cases h3:V%2=0
   ·rw [if_pos h3] at h;omega
   ·omega

def eW (a:Value) (K:Nat) (b:Value):Array Value:=#[a,.int .u64 (K:Nat),b]

theorem uV {V:Nat} (h:dF V≠0):eH V=[]∧eF V=[]∧mh V 0:=by
 refine ⟨if_neg h,if_neg h,by omega,fun e=>absurd e h,fun _=>rfl⟩

def okMod (ms:List Nat) (K:Nat) (rs:List Nat):Prop:=
 dF (val ms)=0∧eH (val ms)=ms∧mh (val ms) K∧eF (val ms)=rs

end Go.Proofs.YtcemlfokmjjiaaaGreatDoor
