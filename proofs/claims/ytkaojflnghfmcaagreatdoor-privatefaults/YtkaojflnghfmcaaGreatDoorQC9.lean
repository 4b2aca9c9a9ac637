/- Put together of: Mon2 Inv0 Ref6m. -/
import Derived.Test.YtkaojflnghfmcaaGreatDoorQC8

namespace Go.Proofs.YtkaojflnghfmcaaGreatDoor
open _root_.Go.Proofs.Tryz
set_option maxRecDepth 100000
set_option maxHeartbeats 4000000
open Go.RowKit

theorem pf {xs:List Nat} (hd:Digs xs) (n:Nat):xs.take n ++ List.replicate (n-(xs.take n).length) 0=digs (val xs) n:=by
 have hl:(xs.take n).length<=n:=by rw [aO];omega
 refine b8 (by omega) ((hd.take n).append (fun d h=>by rw [(eu.1 h).2];omega)) (by simp;omega) ?_;rw [dX,ep _ (fun d h=>(eu.1 h).2),cG,aU,iz (by omega) hd]

theorem yH (v:Value) (xs:List Nat) (n:Nat) (w:World) (h:Row .u64 w v xs) (hd:Digs xs) (hn:n<=1000000) :
  Calls prog 121 #[v,.int .i64 (n:Nat)] w fun e w'=>e=.returned (.slice (some ⟨w.heap.size,0,none⟩) n n)/\OwnN .u64 24 w' w.heap.size (.slice (some ⟨w.heap.size,0,none⟩) n n) n (digs (val xs) n)/\Kept af w w':=by
 obtain ⟨i0,i,r,k,s⟩:=info_parts Tryz.info24;obtain ⟨ao,q,o,rfl,hL,_,_,_,_⟩:=h.open;have HD:=aa (pf hd n);have HS:Hid (∀ W,Kept af w W->0<((xs.take n).map fun z:Nat=>Value.int .u64 (z:Int)).length->∃ ad,ao=some ad/\∀ j u,((xs.take n).map fun z:Nat=>Value.int .u64 (z:Int))[j]? = some u->W.cell? (ad.add j)=some u):=fun W hk hp=>by
  obtain ⟨ad,e,hs⟩:=h.source hk (by rw [cf,aO] at hp;rw [cf];omega);refine ⟨ad,e,fun j u hj=>hs j u ?_⟩;rw [List.map_take,dV] at hj
  split at hj
  ·exact hj
  ·cases hj
 have HO:=aa (jd .u64 (xs.take n));have b:Hid (((xs.take n).map fun z:Nat=>Value.int .u64 (z:Int)).length=Nat.min q n):=by
  unfold Hid;rw [cf,aO,hL.out];exact Nat.min_comm n q
 obtain ⟨CS,c⟩:∃ CS,CS=(xs.take n).map (fun z:Nat=>Value.int .u64 (z:Int)):=⟨_,rfl⟩
 rw [<- c] at HS HO b;have m:Hid (CS=(xs.take n).map (fun z:Nat=>Value.int .u64 (z:Int))):=c;have t:Nat.min q n<=n:=Nat.min_le_right _ _;clear c h hd;go_enter func121,ntmps121
 go_wp2_with (at_make;refine wpList_make_full _ rfl _ _ 23 rfl w.heap.size 24 i0 _ 1 underlying23 i r k _ _ _ _ n rfl rfl rfl rfl (by rw [s];omega) (by unfold maxLen;omega) (leR _) ?_;intro w1 d g;rw [bg] at d;have k1:=aV g;obtain ⟨w2,p,f,k2⟩:=dS (P:=prog) 23 23 3 24 w.heap.size 0 n n (some ⟨w.heap.size,0,none⟩) ao q o _ 24 CS underlying23 (by rw [i];simp [k]) (gV d) b.out (fun hp=>⟨rfl,HS.out _ k1 hp⟩) (by have:=b.out;simp;omega) HO.out;have l:Hid _:=f;clear f d g);go_ret;have a:=l.out;rw [m.out,fZ] at a;rw [HD.out] at a;have kk:=eZ k1 k2 (leR _)
 exact ⟨rfl,dD a (by rw [ag]) (by unfold maxLen;omega) (leR _),kk⟩

def lO (X V c:Nat):Nat:=if c=1\/V<=X then 1 else 0

def mT (X V c n:Nat):Nat:=cC (lO X V c) (fK X V n) X

theorem sO (X V c:Nat) (hc:c<=1):bits .or .u64 (c:Int) (bits .xor .u64 ((cY (decide (X<V)):Nat):Int) 1)=((lO X V c:Nat):Int):=by
 unfold lO cY;have a:c=0\/c=1:=by omega
 by_cases h2:X<V
 ·rcases a with h3 | h3
  ·rw [h3,dL h2,ah rfl,ai (by omega)]
   decide
  ·rw [h3,dL h2,ah rfl,ah (.inl rfl)]
   decide
 ·rcases a with h3 | h3
  ·rw [h3,cP h2,ai (by decide),ah (.inr (by omega))]
   decide
  ·rw [h3,cP h2,ai (by decide),ah (.inl rfl)]
   decide

theorem CQ (X V c:Nat):lO X V c<=1:=by unfold lO;split <;> omega

theorem AA {X V c n:Nat} (hX:X<18446744073709551616^n) (hV:V<18446744073709551616^n) (hc:c<=1) (h:X+18446744073709551616^n*c<2*V):mT X V c n=(X+18446744073709551616^n*c)%V:=by
 rw [<- CR h];unfold mT;have a:c=0\/c=1:=by omega
 have s1:∀ A B,cC 1 A B=A:=fun A B=>rfl
 have s0:∀ A B,cC 0 A B=B:=fun A B=>rfl
 rcases a with rfl | rfl
 ·rw [cG,aU];by_cases h1:V<=X
  ·rw [show lO X V 0=1 from ah (Or.inr h1),s1,ah h1,fK,ai (by omega)]
  ·rw [show lO X V 0=0 from ai (by omega),s0,ai h1]
 ·rw [bD] at h ⊢;rw [show lO X V 1=1 from ah (Or.inl rfl),s1,fK,ah (show X<V by omega),ah (by omega),B64]

theorem Eo (o:Tr) (ao bo:Option Addr) (n a rl f c:Nat) (K:Int) (v:Value) (xs ms:List Nat) (w:World) (ht:TrRoom w o 2) (hx:RowT w o v xs) (g:xs.length=n) (hm:RowT w o (.slice ao n a) ms) (r:Digs xs) (q:Digs ms) (hc:c<=1) (hn:n<=100000) :
  Calls prog 178 #[aL o,.agg #[.slice ao n a,.int .u64 K,.slice bo rl f],v,.int .u64 (c:Nat)] w fun e w'=>∃ v',e=.returned v' /\
   OwnN .u64 24 w' w.heap.size v' n (digs (mT (val xs) (val ms) c n) n)/\∃ o',Did w o [(1,(n:Nat),0),(1,(n:Nat),0)] w' o':=by
 obtain ⟨_,_,_,e1,t,_,_,_,_⟩:=hm.1.open;cases e1
 have eM:=t.out;obtain ⟨xo,xn,xc,rfl,s,_,_,_,_⟩:=hx.1.open;obtain rfl:xn=n:=s.out.symm.trans g;have E:=sO (val xs) (val ms) c hc;obtain ⟨T,hT⟩:∃ T,T=lO (val xs) (val ms) c:=⟨_,rfl⟩
 have D:T<=1:=by rw [hT];exact CQ _ _ _
 have k0:Kept af w (w.alloc (.cells #[.slice ao xn a,.int .u64 K,.slice bo rl f] 70)):=(aj af w).alloc _;have i:(w.alloc (.cells #[.slice ao xn a,.int .u64 K,.slice bo rl f] 70)).heap[w.heap.size]? = some (.cells #[.slice ao xn a,.int .u64 K,.slice bo rl f] 70 (0,0)):=heap_alloc_new _ _;have j:=qC o _ _ xs ms _ ((ht.less (by omega)).grew k0) (hx.grew k0) (hm.grew k0) r q (by rw [g];omega) (by rw [eM];omega);rw [g,eM,gI] at j
 have hSb:=fun (W:World) (o1:Tr) (m1:List Ev) (d:Did w o m1 W o1) (l:m1.length=1)=>uE o1 T (by omega) _ _ xs ms W (d.room (k:=1) (by rw [l];exact ht)) (hx.did d) (hm.did d) r q (by rw [g];omega) (by rw [eM];omega)
 have h:∀ (W:World) (o1:Tr) (m1:List Ev) (d:Did w o m1 W o1) (l:m1.length=1),Calls prog 226 #[aL o,.int .u64 (T:Nat),.slice xo xn xc,.slice ao xn a] W fun e w'=>∃ v' c',e=.returned (.tuple #[v',.int .u64 (c':Int)]) /\
   OwnN .u64 24 w' W.heap.size v' xn (digs (mT (val xs) (val ms) c xn) xn)/\∃ o',Did W o1 [(1,(xn:Nat),0)] w' o':=fun W o1 m1 d l=>by
  have:=hSb W o1 m1 d l;rw [d.ptr,g,eM,gI,hT] at this;rw [hT];refine this.mono ?_;rintro e w' ⟨v',rfl,h1,h2⟩;exact ⟨v',_,rfl,h1,h2⟩
 rw [<- hT] at E;have B:=aa h;have HT:=aa ht.1;obtain ⟨tp,m⟩:∃ tp,tp=aL o:=⟨_,rfl⟩
 rw [<- m] at j ⊢;have C:=aa m;obtain ⟨po,z⟩:=aK o;obtain rfl:tp=.pointer po:=m.trans z;generalize mT (val xs) (val ms) c xn=Y at *;generalize cY (decide (val xs<val ms))=b1 at *;have H0:=aa ht;have K0:=aa k0;clear hm hx ht hT hSb h t s eM g m z r q k0;obtain ⟨p0,p1,p2⟩:=aw i;go_enter func178,ntmps178;go_wp2_with fail;refine j.mono ?_;rintro e w1 ⟨rfl,o1,d1⟩;have p:=Did.after K0.out d1;have A:=(d1.kept.block _ (lt_of_block i) (aI i (HT.out.grew K0.out) (by decide) (by decide))).trans i;obtain ⟨q0,q1,q2⟩:=aw A;have x:=B.out w1 o1 _ p rfl;rw [<- C.out] at x;clear j p0 p1 p2 i A
 go_wp2_with fail;refine x.mono ?_;rintro e w2 ⟨v2,c2,rfl,y,o2,d2⟩;go_wp2_with fail;go_ret;refine ⟨_,rfl,cE y (fun b hb=>?_),o2,p.trans d2⟩;have:=(y.lt b hb).1;have:=p.size;omega

theorem AW {w:World} {base g N b n L c:Nat} {zs:List Nat} (h:OwnN .u64 24 w base (.slice (some ⟨g,0,none⟩) N b) N zs) (d:zs.length=N) (hn:n+L=N) (hc:L<=c) (hm:c<=maxLen):Row .u64 w (.slice (some ⟨g,n,none⟩) L c) (zs.drop n):=by
 have a:(zs.drop n).length=L:=by rw [b9];omega
 refine ⟨some ⟨g,n,none⟩,c,by rw [a],by omega,hm,(fun e=>by cases e),fun i hi=>⟨g,n,rfl,?_⟩⟩;rw [a] at hi;rw [World.ownsRow.cellAt h (n+i) (by omega),bu,aA,et,aQ (by omega)];rfl

def Reduced (a:World) (o0:Tr) (m0:List Ev) (n K X V:Nat) (w':World) (v':Value):Prop:=
 ∃ (Y:Nat) (o':Tr),OwnN .u64 24 w' a.heap.size v' n (digs Y n)/\((V*K+1)%18446744073709551616=0->0<n->X<V*18446744073709551616^n->Y<V/\18446744073709551616^n*Y%V=X%V)/\Did a o0 (m0 ++ List.replicate (n+2) (1,(n:Int),0)) w' o'

theorem tx {n K X V Q c:Nat} {zs:List Nat} (b:Digs zs) (f:zs.length=n+n) (hc:c<=1) (hV:V<18446744073709551616^n) (he:val zs+18446744073709551616^(n+n)*c=X+V*Q) (hQ:Q<18446744073709551616^n) (a:(V*K+1)%18446744073709551616=0->0<n->val zs%18446744073709551616^n=0) (hg:(V*K+1)%18446744073709551616=0) (hn:0<n) (hX:X<V*18446744073709551616^n) :
  mT (val (zs.drop n)) V c n<V/\18446744073709551616^n*mT (val (zs.drop n)) V c n%V=X%V:=by
 have d:0<V:=by
  rcases cF V with h | h
  ·rw [h] at hX;omega
  ·exact h
 have hd:=jW (by omega) b n;have hA:val zs=18446744073709551616^n*val (zs.drop n):=by
  have e:=iH (val zs) (18446744073709551616^n);rw [a hg hn,dz,<- hd] at e;exact e.symm
 have hT:val (zs.drop n)<18446744073709551616^n:=by
  have:=aE (by omega) (b.drop n)
  rwa [b9,f,ij] at this
 rw [aN] at he;obtain ⟨h1,h2⟩:=Dw hA he hQ hX;rw [AA hT hV hc h1];refine ⟨ay _ d,?_⟩;rw [<- h2];generalize val (zs.drop n)+18446744073709551616^n*c=Z;rw [eh,fG,<- eh]

theorem pu (a:World) (o0 o:Tr) (m0:List Ev) (g base N j n K d rl h:Nat) (ao bo:Option Addr) (zs ms:List Nat) (w:World) (hD:Did a o0 m0 w o) (ht:TrRoom a o0 (m0.length+(n+2))) (hg:a.heap.size<=g)
  (ho:OwnN .u64 24 w base (.slice (some ⟨g,0,none⟩) N j) N zs) (B:zs.length=N) (M:Digs zs) (hN:N=n+n) (R:N<=100000) (hm:RowT a o0 (.slice ao n d) ms) (r:Digs ms) :
  Calls prog 123 #[aL o,.agg #[.slice ao n d,.int .u64 (K:Nat),.slice bo rl h],.slice (some ⟨g,0,none⟩) N j] w fun e w'=>
   ∃ v',e=.returned v'/\Reduced a o0 m0 n K (val zs) (val ms) w' v':=by
 obtain ⟨_,_,_,e1,E,_,_,_,_⟩:=hm.1.open;cases e1
 have eM:=E.out;have hV:val ms<18446744073709551616^n:=by rw [<- eM];exact aE (by omega) r
 obtain ⟨_,_,_,e1,_,U,T,_,_⟩:=(Row.of_own (base:=base) (e:=24) (by rw [B];exact ho):Row .u64 w (.slice (some ⟨g,0,none⟩) N j) zs).open;cases e1
 have k0:Kept af w (w.alloc (.cells #[.slice ao n d,.int .u64 (K:Nat),.slice bo rl h] 70)):=(aj af w).alloc _;have A:(w.alloc (.cells #[.slice ao n d,.int .u64 (K:Nat),.slice bo rl h] 70)).heap[w.heap.size]? = some (.cells #[.slice ao n d,.int .u64 (K:Nat),.slice bo rl h] 70 (0,0)):=heap_alloc_new _ _;have p:=sQ a o0 o m0 g base N j n n K d rl h ao bo zs ms _ (hD.grew k0) (ht.less (by omega)) hg (k0.own ho (fun _ _ f=>f)) B M hN R hm r w.heap.size _ _ A (by decide) (by decide) (by have:=eN ho;omega);obtain ⟨tp,z⟩:∃ tp,tp=aL o:=⟨_,rfl⟩
 rw [<- z] at p ⊢;have P:=aa (z.trans hD.ptr);have HM:=aa hm;have O:=aa r;have HT:=aa ht;have HG:=aa hg;have HV:=aa hV;have HN:=aa hN;have HE:=aa eM;obtain ⟨X,hX⟩:∃ X,X=val zs:=⟨_,rfl⟩
 obtain ⟨V,q⟩:∃ V,V=val ms:=⟨_,rfl⟩
 rw [<- hX,<- q] at p;rw [<- hX,<- q];have D:=aa q;have Z:a.heap.size<=w.heap.size:=hD.size;clear hm r ht hg hV hN eM E hX q M B ho k0 hD z;obtain ⟨p0,p1,p2⟩:=aw A;clear A;go_enter func123,ntmps123;go_wp2_with fail;refine p.mono ?_;rintro e w1 ⟨c,rfl,⟨hc,l,Q,o1,x,v,t,J,F,i,D1⟩,H⟩;obtain ⟨q0,q1,q2⟩:=aw H;clear p p0 p1 p2;have gn:(n:Int)<=(N:Int):=by have:=HN.out;omega
 have S:n<=N:=by omega
 have gc:(if j=n then some (⟨g,0,none⟩:Addr) else some ⟨g,n,none⟩)=some ⟨g,n,none⟩:=by
  split
  ·have:=HN.out;obtain rfl:n=0:=by omega
   rfl
  ·rfl
 have gl:N-n=n:=by have:=HN.out;omega
 have m:Row .u64 w1 (.slice (some ⟨g,n,none⟩) n (j-n)) (l.drop n):=AW x v (by have:=HN.out;omega) (by omega) (by unfold maxLen;omega);have I:(l.drop n).length=n:=by rw [b9];omega
 have y:=D1.room (k:=2) (by rw [aZ,be];exact HT.out.less (by omega));have G:RowT w1 o1 (.slice (some ⟨g,n,none⟩) n (j-n)) (l.drop n):=⟨m,fun _ b hb=>by cases hb;exact eG x y.1 _ rfl⟩
 have hL:=fun W (k:Kept af w1 W)=>Eo o1 ao bo n d rl h c K _ _ ms W (y.grew k) (G.grew k) I ((HM.out.did D1).grew k) (t.drop n) O.out hc (by have:=HN.out;omega)
 rw [D1.ptr,<- P.out,<- D.out] at hL;have s:Hid ((V*K+1)%18446744073709551616=0->0<n->X<V*18446744073709551616^n->mT (val (l.drop n)) V c n<V/\18446744073709551616^n*mT (val (l.drop n)) V c n%V=X%V):=fun hg hn hX=>tx t (v.trans HN.out) hc (by rw [D.out];exact HV.out) (by rw [<- HN.out];exact J) F i hg hn hX
 have C:=aa D1;have HS:=aa hL;clear J F i D1 t x v m G I y hL H;generalize mT (val (l.drop n)) V c n=Y at *;go_wp2_with fail;go_region_with (go_at_call 178;refine (HS.out _ ((aj _ _).drew)).mono ?_;rintro e w2 ⟨v2,rfl,L,o2,d2⟩)
 all_goals
  go_wp2_with fail;go_ret;have d3:=C.out.trans (Did.after ((aj _ _).drew) d2);rw [dr,show ([(1,(n:Int),0),(1,(n:Int),0)]:List Ev)=List.replicate 2 (1,(n:Int),0) from rfl,mu] at d3;refine ⟨_,rfl,Y,o2,cE L (fun b hb=>?_),s.out,d3⟩;have h1:=(L.lt b hb).1;have h2:=C.out.size;have h3:w1.drew.heap.size=w1.heap.size:=rfl;omega

theorem uI (o:Tr) (n K a rl c xc yc:Nat) (ao bo xo yo:Option Addr) (xs ys ms:List Nat) (w:World) (ht:TrRoom w o 1000) (hx:RowT w o (.slice xo n xc) xs) (hy:RowT w o (.slice yo n yc) ys) (hm:RowT w o (.slice ao n a) ms)
  (q:Digs xs) (r:Digs ys) (x:Digs ms) (hn:n<=130) :
  Calls prog 120 #[aL o,.agg #[.slice ao n a,.int .u64 (K:Nat),.slice bo rl c],.slice xo n xc,.slice yo n yc] w fun e w'=>
   ∃ v',e=.returned v'/\Reduced w o (List.replicate n (1,(n:Int),0)) n K (val xs*val ys) (val ms) w' v':=by
 obtain ⟨_,_,_,e1,t,_,_,_,_⟩:=hx.1.open;cases e1
 obtain ⟨_,_,_,e1,v,_,_,_,_⟩:=hy.1.open;cases e1
 have z:val xs*val ys<18446744073709551616^(n+n):=by
  have h1:=aE (by omega) q;have h2:=aE (by omega) r;rw [t.out] at h1;rw [v.out] at h2;rw [aN];exact lu h1 (fE h2) (aC (by omega))
 obtain ⟨W0,l⟩:∃ W0,W0=w.alloc (.cells #[.slice ao n a,.int .u64 (K:Nat),.slice bo rl c] 70):=⟨_,rfl⟩
 have k0:Kept af w W0:=by rw [l];exact (aj af w).alloc _
 have j:W0.heap[w.heap.size]? = some (.cells #[.slice ao n a,.int .u64 (K:Nat),.slice bo rl c] 70 (0,0)):=by rw [l];exact heap_alloc_new _ _
 obtain ⟨tp,p⟩:∃ tp,tp=aL o:=⟨_,rfl⟩
 have s:∀ W m o1,Did W0 o m W o1->W.cell? ⟨w.heap.size,0,none⟩=some (.slice ao n a)/\W.cell? ⟨w.heap.size,1,none⟩=some (.int .u64 (K:Nat))/\W.cell? ⟨w.heap.size,2,none⟩=some (.slice bo rl c):=fun W m o1 d=>aw ((d.kept.block _ (lt_of_block j) (aI j (ht.grew k0).1 (by decide) (by decide))).trans j)
 have f:∀ W,Kept af W0 W->Calls prog 148 #[tp,.slice xo n xc,.slice yo n yc] W fun e w'=>∃ g,e=.returned (.slice (some ⟨g,0,none⟩) (n+n) (n+n))/\W0.heap.size<=g/\OwnN .u64 24 w' g (.slice (some ⟨g,0,none⟩) (n+n) (n+n)) (n+n) (digs (val xs*val ys) (n+n))/\∃ o1,Did W0 o (List.replicate n (1,(n:Int),0)) w' o1:=fun W k=>by
  rw [p];refine (A0 o xo yo n n xc yc xs ys W ((ht.less (by omega)).grew (k0.trans k)) (hx.grew (k0.trans k)) (hy.grew (k0.trans k)) q r).mono ?_;rintro e w' ⟨v',rfl,_,_,h3,o1,d1⟩;obtain ⟨g,hg,rfl,ho⟩:=h3 ⟨by omega,by omega⟩;unfold jQ at d1;rw [ah ⟨by omega,by omega⟩] at d1;exact ⟨g,rfl,aR k.size hg,ho,o1,Did.after k d1⟩
 have i:∀ W g o1,W0.heap.size<=g->OwnN .u64 24 W g (.slice (some ⟨g,0,none⟩) (n+n) (n+n)) (n+n) (digs (val xs*val ys) (n+n))->Did W0 o (List.replicate n (1,(n:Int),0)) W o1 ->
   Calls prog 123 #[tp,.agg #[.slice ao n a,.int .u64 (K:Nat),.slice bo rl c],.slice (some ⟨g,0,none⟩) (n+n) (n+n)] W fun e w'=>∃ v',e=.returned v'/\Reduced W0 o (List.replicate n (1,(n:Int),0)) n K (val xs*val ys) (val ms) w' v':=fun W g o1 hg ho d=>by
  have:=pu W0 o o1 _ g g (n+n) (n+n) n K a rl c ao bo _ ms W d ((ht.less (by rw [be];omega)).grew k0) hg ho (ag _ _ _) (ak (by omega) _ _) rfl (by omega) (hm.grew k0) x;rw [d.ptr,<- p,aB,ax z] at this;exact this
 rw [<- p];have HB:Hid (∀ W' v',Reduced W0 o (List.replicate n (1,(n:Int),0)) n K (val xs*val ys) (val ms) W' v'->Reduced w o (List.replicate n (1,(n:Int),0)) n K (val xs*val ys) (val ms) W' v'):=fun W' v' h=>by
  obtain ⟨Y,o',h1,h2,h3⟩:=h;exact ⟨Y,o',cE h1 (fun b hb=>aR k0.size (h1.lt b hb).1),h2,Did.after k0 h3⟩
 obtain ⟨p0,p1,p2⟩:=aw j;have JM:=aa f;have JR:=aa i;have JC:=aa s;generalize val xs*val ys=XY at *;generalize val ms=V at *;have JK:Hid (∀ W' v',Reduced W0 o (List.replicate n (1,(n:Int),0)) n K XY V W' v'->∃ m o1,Did W0 o m W' o1):=fun W' v' h=>by
  obtain ⟨Y,o',_,_,h3⟩:=h;exact ⟨_,_,h3⟩
 have A:=aa l;clear l f i s hx hy hm ht q r x t v z p k0 j;go_enter func120,ntmps120;go_wp2_with fail;rw [<- A.out];go_region_held3 (fun w'=>w'.cell? ⟨w.heap.size,0,none⟩=some (.slice ao n a)/\w'.cell? ⟨w.heap.size,1,none⟩=some (.int .u64 (K:Int))/\w'.cell? ⟨w.heap.size,2,none⟩=some (.slice bo rl c))
  (((try dsimp only);(repeat' apply And.intro) <;> first | (go_keep;done) | assumption))
  (first
  | (go_at_call 148;refine (JM.out _ ?_).mono ?_;(exact (aj _ _).drew);rintro e w2 ⟨g,rfl,hg,B,o2,d2⟩;obtain ⟨q0,q1,q2⟩:=JC.out _ _ _ d2)
  | (go_at_call 123;refine (JR.out _ _ o2 hg B d2).mono ?_;rintro e w3 ⟨v3,rfl,y⟩;obtain ⟨m3,o3,d3⟩:=JK.out _ _ y;obtain ⟨r0,r1,r2⟩:=JC.out _ _ _ d3))
 all_goals
  go_wp2_with fail;go_ret;exact ⟨_,rfl,HB.out _ _ y⟩

def rF (l n X V:Nat):Nat:=if l=n/\X<V then 1 else 0

theorem Da (o:Tr) (ao bo xo:Option Addr) (n l a rl b xc:Nat) (K:Int) (ms xs:List Nat) (w:World) (ht:TrRoom w o 1) (hm:RowT w o (.slice ao n a) ms) (hx:RowT w o (.slice xo l xc) xs) (s:Digs ms) (i:Digs xs) (hn:n<=100000) (P:Nat) (hP:P=rF l n (val xs) (val ms)) :
  Calls prog 176 #[aL o,.agg #[.slice ao n a,.int .u64 K,.slice bo rl b],.slice xo l xc] w fun e w'=>e=.returned (.int .u64 (P:Int))/\∃ o',Did w o [(1,(n:Int),0)] w' o':=by
 obtain ⟨_,_,_,e1,f,_,_,_,_⟩:=hm.1.open;cases e1
 obtain ⟨_,_,_,e1,r,_,_,_,_⟩:=hx.1.open;cases e1
 obtain ⟨W,hW⟩:∃ W,W=w.alloc (.cells #[.slice ao n a,.int .u64 K,.slice bo rl b] 70):=⟨_,rfl⟩
 have k0:Kept af w W:=by rw [hW];exact (aj af w).alloc _
 have c:W.heap[w.heap.size]? = some (.cells #[.slice ao n a,.int .u64 K,.slice bo rl b] 70 (0,0)):=by rw [hW];exact heap_alloc_new _ _
 obtain ⟨tp,p⟩:∃ tp,tp=aL o:=⟨_,rfl⟩
 have JF:Hid (∀ W',Kept af W W'->Calls prog 121 #[.slice xo l xc,.int .i64 (n:Int)] W' fun e w'=>e=.returned (.slice (some ⟨W'.heap.size,0,none⟩) n n)/\Row .u64 w' (.slice (some ⟨W'.heap.size,0,none⟩) n n) (digs (val xs) n)/\RowT w' o (.slice (some ⟨W'.heap.size,0,none⟩) n n) (digs (val xs) n)/\Kept af W w'):=fun W' k=>by
  refine (yH (.slice xo l xc) xs n W' (hx.1.grew (k0.trans k)) i (by omega)).mono ?_;rintro e w' ⟨rfl,ho,k'⟩;exact ⟨rfl,cW ho (ag _ _ _),fU ho (ag _ _ _) (ht.grew ((k0.trans k).trans k')).1,k.trans k'⟩
 obtain ⟨Q,hQ⟩:∃ Q,Q=cY (decide (val xs%18446744073709551616^n<val ms)):=⟨_,rfl⟩
 have JL:Hid (∀ W' g,Kept af W W'->RowT W' o (.slice (some ⟨g,0,none⟩) n n) (digs (val xs) n)->Calls prog 133 #[tp,.slice (some ⟨g,0,none⟩) n n,.slice ao n a] W' fun e w'=>e=.returned (.int .u64 (Q:Int))/\∃ o',Did W o [(1,(n:Int),0)] w' o'):=fun W' g k hr=>by
  have:=qC o _ _ _ ms W' (ht.grew (k0.trans k)) hr (hm.grew (k0.trans k)) (ak (by omega) _ _) s (by rw [ag];omega) (by rw [f.out];omega);rw [ag,f.out,gI,aB,<- hQ,<- p] at this;refine this.mono ?_;rintro e w' ⟨rfl,o',d⟩;exact ⟨rfl,o',Did.after k d⟩
 have JC:Hid (∀ W' m o',Did W o m W' o'->W'.cell? ⟨w.heap.size,0,none⟩=some (.slice ao n a)):=fun W' m o' d=>(aw ((d.kept.block _ (lt_of_block c) (aI c (ht.grew k0).1 (by decide) (by decide))).trans c)).1
 have HQ:Hid (l=n->Q=P):=fun h=>by
  rw [hQ,hP,ax (by rw [<- h,<- r.out];exact aE (by omega) i)];unfold cY rF;by_cases h2:val xs<val ms
  ·rw [dL h2,ah rfl,ah ⟨h,h2⟩]
  ·rw [cP h2,ai (by decide),ai (fun h=>h2 h.2)]
 have HP:Hid (¬ l=n->P=0):=fun h=>by
  rw [hP];exact ai (fun h'=>h h'.1)
 obtain ⟨p0,p1,p2⟩:=aw c;have HW:=aa hW;have q:=aa k0;have y:=aa (ht.grew k0).1;rw [<- p];clear hW k0 c p hm hx s i ht f r hQ hP;by_cases h:l=n
 ·have v:=HQ.out h;subst h;subst v;go_enter func176,ntmps176;go_wp2_with fail;rw [<- HW.out];go_region_held3 (fun w'=>w'.cell? ⟨w.heap.size,0,none⟩=some (.slice ao l a))
   (((try dsimp only);first | (go_keep;done) | assumption))
   (first
   | (go_at_call 121;refine (JF.out _ ?_).mono ?_;(exact (aj _ _).drew);rintro e w2 ⟨rfl,x,j,k2⟩;have q0:=k2.cellN p0)
   | (go_at_call 133;refine (JL.out _ _ k2 j).mono ?_;rintro e w3 ⟨rfl,o3,d3⟩;have r0:=JC.out _ _ _ d3))
  all_goals
   go_wp2_with fail;go_ret;exact ⟨rfl,o3,Did.after q.out d3⟩
 ·have t:=HP.out h;subst t;have h':¬ (l:Int)=(n:Int):=by omega
  go_enter func176,ntmps176;go_wp2_with fail;rw [<- HW.out];go_region_held3 (fun w'=>w'.cell? ⟨w.heap.size,0,none⟩=some (.slice ao n a))
   (((try dsimp only);first | (go_keep;done) | assumption))
   (first
   | (go_at_call 121;refine (JF.out _ ?_).mono ?_;(exact (aj _ _).drew);rintro e w2 ⟨rfl,x,j,k2⟩;have q0:=k2.cellN p0)
   | (go_at_call 133;refine (JL.out _ _ k2 j).mono ?_;rintro e w3 ⟨rfl,o3,d3⟩;have r0:=JC.out _ _ _ d3))
  all_goals
   go_wp2_with fail;go_ret;exact ⟨rfl,o3,Did.after q.out d3⟩

theorem A5 (k:Nat) (h:k<=64):(2:Int)^k ∣ 18446744073709551616:=by
 have:(18446744073709551616:Int)=2^k*2^(64-k):=by rw [<- Int.pow_add,show k+(64-k)=64 by omega];rfl
 exact ⟨_,this⟩

theorem yz (a:Int) (h:a%2=1):(2:Int)^3 ∣ 1-a*a:=by
 obtain ⟨b,rfl⟩:∃ b,a=2*b+1:=⟨a/2,by omega⟩
 have e:(1:Int)-(2*b+1)*(2*b+1)=-4*(b*(b+1)):=by
  simp only [Int.mul_add,Int.add_mul,Int.mul_one,jY,Int.neg_mul];rw [show (2*b*(2*b):Int)=4*(b*b) by rw [ib,Int.mul_left_comm b 2 b];omega];omega
 have hp:∃ c,b*(b+1)=2*c:=by
  rcases Int.emod_two_eq b with h2 | h2
  ·obtain ⟨c,rfl⟩:∃ c,b=2*c:=⟨b/2,by omega⟩
   exact ⟨c*(2*c+1),by rw [ib]⟩
  ·obtain ⟨c,rfl⟩:∃ c,b=2*c+1:=⟨b/2,by omega⟩
   exact ⟨(2*c+1)*(c+1),by rw [show 2*c+1+1=2*(c+1) by omega,<- ib,Int.mul_comm (2*c+1) 2,ib]⟩
 obtain ⟨c,hc⟩:=hp;rw [e,hc];exact ⟨-c,by omega⟩

theorem As (a x y:Int) (k:Nat) (h:(2:Int)^k ∣ 1-a*x) (hy:(18446744073709551616:Int) ∣ y-x*(2-a*x)) (m:Nat) (hm:m<=2*k) (b:m<=64) :
  (2:Int)^m ∣ 1-a*y:=by
 have e:1-a*y=(1-a*x)*(1-a*x)-a*(y-x*(2-a*x)):=by
  simp only [Int.mul_sub,Int.sub_mul,Int.mul_one,jY];have h1:a*(x*2)=a*x*2:=by rw [ib]
  have h2:a*(x*(a*x))=a*x*(a*x):=by rw [ib]
  omega
 rw [e];refine Int.dvd_sub ?_ ?_
 ·have h1:(2:Int)^(k+k) ∣ (1-a*x)*(1-a*x):=by rw [Int.pow_add];exact Int.mul_dvd_mul h h
  refine Int.dvd_trans ?_ h1;exact ⟨2^(k+k-m),by rw [<- Int.pow_add];congr 1;omega⟩
 ·exact Int.dvd_trans (Int.dvd_trans (A5 m b) hy) (Int.dvd_mul_left _ _)

theorem zA (a x:Int):(18446744073709551616:Int) ∣ (x*((2-a*x%18446744073709551616)%18446744073709551616))%18446744073709551616-x*(2-a*x):=by
 obtain ⟨t,ht⟩:∃ t,(2-a*x%18446744073709551616)%18446744073709551616=2-a*x+18446744073709551616*t:=⟨((2-a*x%18446744073709551616)%18446744073709551616-(2-a*x))/18446744073709551616,by omega⟩
 rw [ht,Int.mul_add,Int.mul_left_comm x 18446744073709551616 t];generalize x*(2-a*x)=p;generalize x*t=q;omega

def sJ (a x:Int):Prop:=0<=x/\x<18446744073709551616/\(a%2=1->(18446744073709551616:Int) ∣ 1-a*x)/\(a%2=0->x=0)

def el (V:Nat):Nat:=if 130<ar V then 2 else if V<2 then 1 else if V%2=0 then 60 else 0

def pV (V K:Nat):Prop:=K<18446744073709551616/\(el V=0->(V*K+1)%18446744073709551616=0)/\(el V≠0->K=0)

def je (V:Nat):List Nat:=if el V=0 then digs V (ar V) else []

def jy (V:Nat):List Nat:=if el V=0 then digs (2^(128*ar V)%V) (ar V) else []

theorem dm {V:Nat} (h:el V=0):ar V<=130/\2<=V/\V%2=1:=by
 unfold el at h;by_cases h1:130<ar V
 ·rw [ah h1] at h;omega
 ·rw [ai h1] at h;by_cases h2:V<2
  ·rw [ah h2] at h;omega
  ·rw [ai h2] at h;by_cases h3:V%2=0
   ·rw [ah h3] at h;omega
   ·omega

def jx (a:Value) (K:Nat) (b:Value):Array Value:=#[a,.int .u64 (K:Nat),b]

theorem Dd {V:Nat} (h:el V≠0):je V=[]/\jy V=[]/\pV V 0:=by
 refine ⟨ai h,ai h,by omega,fun e=>absurd e h,fun _=>rfl⟩

def okMod (ms:List Nat) (K:Nat) (rs:List Nat):Prop:=
 el (val ms)=0/\je (val ms)=ms/\pV (val ms) K/\jy (val ms)=rs

end Go.Proofs.YtkaojflnghfmcaaGreatDoor
