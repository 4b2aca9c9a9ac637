/- Put together of: RinE Law6 Pow3. -/
import Derived.Test.YtkaojflnghfmcaaGreatDoorQC14
import Derived.Test.YtkaojflnghfmcaaGreatDoorQC15

namespace Go.Proofs.YtkaojflnghfmcaaGreatDoor
open _root_.Go.Proofs.Tryz
set_option maxRecDepth 100000
set_option maxHeartbeats 4000000
open Go.RowKit

def ku (n:Nat):List Ev:=(List.replicate 1 (1,(n:Int),0) ++ cD n) ++ (List.replicate 2 (1,(n:Int),0) ++ cD n)

theorem AL {n V X Z Yx Y:Nat} (a:V%2=1) (h1:lV n V X Yx) (h2:pT n V Yx Z Y):Y=X*Z%V:=by
 unfold lV at h1;obtain ⟨h2,h3⟩:=h2;have b:Nat.Coprime (2^(64*n)) V:=(fT a).symm;rw [<- ax h2];apply iP b;rw [h3,h1,eh,fG,<- eh,bf]

theorem vL (P:Prop):∃ E:Nat,(E=0↔P)/\E<=1:=by
 by_cases h:P
 ·exact ⟨0,by simp [h],by omega⟩
 ·exact ⟨1,by simp [h],by omega⟩

theorem rW (n:Nat):(cD n).length=n+(n+2):=by unfold cD;simp

theorem Gz (o:Tr) (ao bo xo yo:Option Addr) (n l K a f xc yc bT bM bA bB:Nat) (ms rs xs ys:List Nat) (w:World)
  (ht:TrRoom w o 4900) (hm:RowT w o (.slice ao n a) ms) (hr:RowT w o (.slice bo l f) rs) (hx:RowT w o (.slice xo n xc) xs) (hy:RowT w o (.slice yo n yc) ys) (i:Digs ms) (k:Digs rs) (z:Digs xs) (A:Digs ys) (hK:K<18446744073709551616) (hn:n<=130)
  (hT:Box w bT (aL o) 53) (hM:w.heap[bM]? = some (.cells #[.slice ao n a,.int .u64 (K:Nat),.slice bo l f] 70 (0,0))) (hA:Box w bA (.slice xo n xc) 23) (hB:Box w bB (.slice yo n yc) 23) :
  Calls prog 143 #[.pointer (some ⟨bT,0,none⟩),.pointer (some ⟨bM,0,none⟩),.pointer (some ⟨bA,0,none⟩),.pointer (some ⟨bB,0,none⟩)] w fun e w'=>∃ v' c,e=.returned (.tuple #[v',.int .i64 ((c:Nat):Int)])/\∃ zs m' o2,Row .u64 w' v' zs/\Lies true w w' v'/\Did w o m' w' o2 /\
   (okMod ms K rs->val xs<val ms->val ys<val ms->(zs=digs (val xs*val ys%val ms) n/\c=0)/\m'=ku n):=by
 obtain ⟨_,_,_,e1,t,_,_,_,_⟩:=hm.1.open;cases e1
 obtain ⟨_,_,_,e1,v,_,_,_,_⟩:=hr.1.open;cases e1
 obtain ⟨po,j⟩:=aK o;have h:=ht.1;obtain ⟨E,hE,D⟩:=vL (okMod ms K rs/\(n=n/\val xs<val ms));have g:=pt o ao bo xo n l K a f n xc E ms rs xs w (ht.less (by omega)) hm hr hx i k z hK (by omega) hE D;have JM:Hid (∀ (W:World) (o1:Tr) (m1:List Ev) (v1:Value) (Yx:Nat),Did w o m1 W o1->m1.length<=2900->Row .u64 W v1 (if E=0 then digs Yx n else [])->U64s W v1->(E=0->lV n (val ms) (val xs) Yx)->m1=List.replicate 1 (1,(n:Int),0) ++ cD n ->
   Calls prog 126 #[.pointer po,.agg #[.slice ao n a,.int .u64 (K:Nat),.slice bo l f],v1,.slice yo n yc] W fun e w'=>∃ v' c,e=.returned (.tuple #[v',.int .i64 ((c:Nat):Int)])/\∃ zs m' o2,Row .u64 w' v' zs/\Lies true w w' v'/\Did w o m' w' o2/\(okMod ms K rs->val xs<val ms->val ys<val ms->(zs=digs (val xs*val ys%val ms) n/\c=0)/\m'=ku n)):=fun W o1 m1 v1 Yx d hl B H hG G=>by
  obtain ⟨x1,n1,c1,rfl,s,_,_,_,_⟩:=B.open;have C:TrRoom W o1 2000:=d.room (ht.less (by omega));have F:Digs (if E=0 then digs Yx n else []):=by
   split
   ·exact ak (by omega) _ _
   ·intro d hd;cases hd
  obtain ⟨E2,p,q⟩:=vL (okMod ms K rs/\(n1=n/\val (if E=0 then digs Yx n else [])<val ms)/\(n=n/\val ys<val ms));have:=Fj o1 ao bo x1 yo n l K a f n1 n c1 yc E2 ms rs _ ys W C (hm.did d) (hr.did d) (H.rowT B C.1) (hy.did d) i k F A hK (by omega) p q;rw [d.ptr,j] at this;refine this.mono ?_;rintro e w' ⟨v',rfl,⟨Y,h1,h2⟩,h3,o2,h4⟩;rw [ah hn] at h4;refine ⟨v',E2,rfl,_,_,o2,h1,(fun _=>⟨(fun b hb=>aR d.size (h3.1 b hb)),h3.2⟩),d.trans h4,fun r hx hz=>?_⟩;obtain ⟨f1,f2,f3,f4,f5,f6,f7⟩:=r.facts t.out v.out i k hK;obtain rfl:E=0:=hE.2 ⟨r,rfl,hx⟩;have y:Yx<val ms:=by rw [hG rfl];exact ay _ (by omega)
  rw [ah rfl,ag] at s;rw [ah rfl,aB,ax (bk y f6)] at p h2;obtain rfl:E2=0:=p.2 ⟨r,⟨s.out.symm,y⟩,rfl,hz⟩;refine ⟨⟨?_,rfl⟩,by rw [G];rfl⟩;rw [ah rfl,AL f5 (hG rfl) (h2 rfl)]
 have JC:Hid (∀ W m o',Did w o m W o'->W.cell? ⟨bT,0,none⟩=some (.pointer po)/\W.cell? ⟨bB,0,none⟩=some (.slice yo n yc)/\W.cell? ⟨bM,0,none⟩=some (.slice ao n a)/\W.cell? ⟨bM,1,none⟩=some (.int .u64 (K:Nat))/\W.cell? ⟨bM,2,none⟩=some (.slice bo l f)):=fun W m o' d=>by
  rw [<- j];exact ⟨(hT.did d h (by decide) (by decide)).cell,(hB.did d h (by decide) (by decide)).cell,aw ((d.kept.block _ (lt_of_block hM) (aI hM h (by decide) (by decide))).trans hM)⟩
 have cA:=hA.cell;obtain ⟨cT,cB,p0,p1,p2⟩:=JC.out _ _ _ (Did.of_kept (aj af w) h);rw [j] at g;unfold Answered at g;rw [ah hn] at g;clear hm hr hx hy i k z A hK hT hM hA hB j h ht t v hE;generalize lV n (val ms) (val xs)=G1 at *;go_enter func143,ntmps143;go_wp2_with fail;refine g.mono ?_;rintro e w1 ⟨v1,rfl,⟨Yx,h1,h2⟩,h3,o1,d1⟩;obtain ⟨cT,cB,p0,p1,p2⟩:=JC.out _ _ _ d1;have x:=JM.out w1 o1 _ v1 Yx d1 (by rw [aZ,be,rW];omega) h1 h3.2 h2 rfl;clear g cA h1 h2 h3;go_wp2_with fail;refine x.mono ?_;rintro e w2 ⟨v2,c2,rfl,h4⟩;clear x;go_wp2_with fail;go_ret2;exact ⟨_,c2,rfl,h4⟩

theorem Im (o:Tr) (ao bo xo yo:Option Addr) (n l K a b N1 N2 xc yc:Nat) (ms rs xs ys:List Nat) (w:World)
  (ht:TrRoom w o 5000) (hm:RowT w o (.slice ao n a) ms) (hr:RowT w o (.slice bo l b) rs) (hx:RowT w o (.slice xo N1 xc) xs) (hy:RowT w o (.slice yo N2 yc) ys) (C:Digs ms) (E:Digs rs) (A:Digs xs) (B:Digs ys) (hK:K<18446744073709551616) (L:n<=1000000) (F:N1<=1000000000) (G:N2<=1000000000) :
  Calls prog 90 #[aL o,.agg #[.slice ao n a,.int .u64 (K:Nat),.slice bo l b],.slice xo N1 xc,.slice yo N2 yc] w fun e w'=>∃ v' c,e=.returned (.tuple #[v',.int .i64 ((c:Nat):Int)])/\Asked w o true (okMod ms K rs/\(N1=n/\val xs<val ms)/\(N2=n/\val ys<val ms)) (fun zs c=>zs=digs (val xs*val ys%val ms) n/\c=0) (List.replicate 2 (1,(n:Int),0) ++ ku n) w' v' c:=by
 have N:=im;have he:∀ args w,(callFunc 143 args).run prog w=.ok (.enter 143 args) w:=fun _ _=>by simp [go_sem]
 obtain ⟨po,D⟩:=aK o;obtain ⟨W,hW⟩:∃ W,W=(((w.alloc (.cells #[.pointer po] 53)).alloc (.cells #[.slice ao n a,.int .u64 (K:Nat),.slice bo l b] 70)).alloc (.cells #[.slice xo N1 xc] 23)).alloc (.cells #[.slice yo N2 yc] 23):=⟨_,rfl⟩
 have k0:Kept af w W:=by rw [hW];exact ((((aj af w).alloc _).alloc _).alloc _).alloc _
 have z:Box W w.heap.size (.pointer po) 53:=by rw [hW];exact (((Box.new w _ _).alloc _).alloc _).alloc _
 have j:W.heap[w.heap.size+1]? = some (.cells #[.slice ao n a,.int .u64 (K:Nat),.slice bo l b] 70 (0,0)):=by
  rw [hW];refine au (au ?_);have:=heap_alloc_new (w.alloc (.cells #[.pointer po] 53)) (.cells #[.slice ao n a,.int .u64 (K:Nat),.slice bo l b] 70)
  rwa [show (w.alloc (.cells #[.pointer po] 53)).heap.size=w.heap.size+1 by simp] at this
 have x:Box W (w.heap.size+1+1) (.slice xo N1 xc) 23:=by
  rw [hW];refine Box.alloc ?_ _;have:=Box.new ((w.alloc (.cells #[.pointer po] 53)).alloc (.cells #[.slice ao n a,.int .u64 (K:Nat),.slice bo l b] 70)) (.slice xo N1 xc) 23
  rwa [show ((w.alloc (.cells #[.pointer po] 53)).alloc (.cells #[.slice ao n a,.int .u64 (K:Nat),.slice bo l b] 70)).heap.size=w.heap.size+1+1 by simp] at this
 have y:Box W (w.heap.size+1+1+1) (.slice yo N2 yc) 23:=by
  rw [hW];have:=Box.new (((w.alloc (.cells #[.pointer po] 53)).alloc (.cells #[.slice ao n a,.int .u64 (K:Nat),.slice bo l b] 70)).alloc (.cells #[.slice xo N1 xc] 23)) (.slice yo N2 yc) 23
  rwa [show (((w.alloc (.cells #[.pointer po] 53)).alloc (.cells #[.slice ao n a,.int .u64 (K:Nat),.slice bo l b] 70)).alloc (.cells #[.slice xo N1 xc] 23)).heap.size=w.heap.size+1+1+1 by simp] at this
 obtain ⟨Wl,s⟩:∃ Wl,Wl=W.alloc (.cells #[.slice xo N1 xc,.slice yo N2 yc] 23):=⟨_,rfl⟩
 have kl:Kept af W Wl:=by rw [s];exact (aj af W).alloc _
 have t:Wl.heap[W.heap.size]? = some (.cells #[.slice xo N1 xc,.slice yo N2 yc] 23 (0,0)):=by rw [s];exact heap_alloc_new _ _
 have kk:=k0.trans kl;have g:=rj o ao bo (some ⟨W.heap.size,0,none⟩) n l K a b 2 2 143 #[.pointer (some ⟨w.heap.size,0,none⟩),.pointer (some ⟨w.heap.size+1,0,none⟩),.pointer (some ⟨w.heap.size+1+1,0,none⟩),.pointer (some ⟨w.heap.size+1+1+1,0,none⟩)]
  (fun i=>if i=0 then xo else yo) (fun i=>if i=0 then N1 else N2) (fun i=>if i=0 then xc else yc) (fun i=>if i=0 then xs else ys) ms rs 4998 (ku n) true (fun zs c=>zs=digs (val xs*val ys%val ms) n/\c=0) Wl
  (ht.grew kk) (hm.grew kk) (hr.grew kk) C E hK (by omega) (by omega)
  (fun i hi=>by
   have k:i=0\/i=1:=by omega
   rcases k with rfl | rfl
   ·exact F
   ·exact G)
  (fun W' m o' d=>nN ((d.kept.block _ (lt_of_block t) (aI t (ht.grew kk).1 (by decide) (by decide))).trans t))
  (fun i hi=>by
   have k:i=0\/i=1:=by omega
   rcases k with rfl | rfl
   ·exact hx.grew kk
   ·exact hy.grew kk)
  (fun i hi=>by
   have k:i=0\/i=1:=by omega
   rcases k with rfl | rfl
   ·exact A
   ·exact B)
  he
  (fun hn q W' m o' d r=>by
   have v:=(ht.grew kk).1;have e1:N1=n:=q 0 (by omega);have e2:N2=n:=q 1 (by omega);subst e1;subst e2
   refine (Gz o' ao bo xo yo N2 l K a b xc yc w.heap.size (w.heap.size+1) (w.heap.size+1+1) (w.heap.size+1+1+1) ms rs xs ys W' (r.less (by omega)) ((hm.grew kk).did d) ((hr.grew kk).did d) ((hx.grew kk).did d) ((hy.grew kk).did d) C E A B hK hn (by rw [d.ptr,D];exact (z.grew kl).did d v (by decide) (by decide)) ((d.kept.block _ (lt_of_block ((kl.block _ (lt_of_block j) (fun f=>f)).trans j)) (aI ((kl.block _ (lt_of_block j) (fun f=>f)).trans j) v (by decide) (by decide))).trans ((kl.block _ (lt_of_block j) (fun f=>f)).trans j)) ((x.grew kl).did d v (by decide) (by decide)) ((y.grew kl).did d v (by decide) (by decide))).mono ?_
   rintro e w' ⟨v',c,rfl,zs,m',o2,h1,h2,h3,h4⟩;exact ⟨v',c,rfl,zs,m',o2,h1,h2,h3,fun M H=>h4 M (H 0 (by omega)).2 (H 1 (by omega)).2⟩)
 have p:(okMod ms K rs/\jb 2 n (val ms) (fun i=>if i=0 then N1 else N2) (fun i=>if i=0 then xs else ys))↔(okMod ms K rs/\(N1=n/\val xs<val ms)/\(N2=n/\val ys<val ms)):=by
  refine and_congr_right fun _=>⟨fun h=>⟨h 0 (by omega),h 1 (by omega)⟩,fun h i hi=>?_⟩
  have k:i=0\/i=1:=by omega
  rcases k with rfl | rfl
  ·exact h.1
  ·exact h.2
 rw [p] at g;have HB:Hid (∀ w' v' c,Asked Wl o true (okMod ms K rs/\(N1=n/\val xs<val ms)/\(N2=n/\val ys<val ms)) (fun zs c=>zs=digs (val xs*val ys%val ms) n/\c=0) (List.replicate 2 (1,(n:Int),0) ++ ku n) w' v' c->Asked w o true (okMod ms K rs/\(N1=n/\val xs<val ms)/\(N2=n/\val ys<val ms)) (fun zs c=>zs=digs (val xs*val ys%val ms) n/\c=0) (List.replicate 2 (1,(n:Int),0) ++ ku n) w' v' c):=fun w' v' c h=>h.after kk
 have I:W.heap.size=w.heap.size+1+1+1+1:=by rw [hW];simp
 rw [I] at g;have HW:=aa hW;have J:=aa s;obtain ⟨c3,c4,c5⟩:=aw j;have c0:=z.cell;have c1:=x.cell;have c2:=y.cell;rw [D] at g ⊢;clear ht hm hr hx hy C E A B hK L D k0 z j x y hW s t kk kl he I p F G;generalize (okMod ms K rs/\(N1=n/\val xs<val ms)/\(N2=n/\val ys<val ms))=PP at *;generalize (fun zs c=>zs=digs (val xs*val ys%val ms) n/\c=0)=RR at *;generalize List.replicate 2 (1,(n:Int),0) ++ ku n=EE at *;go_enter func90,ntmps90;go_wp2_with fail;rw [<- HW.out,<- J.out];refine g.mono ?_;rintro e w1 ⟨v1,c,rfl,h1⟩;have H1:=aa (HB.out _ _ _ h1);clear g h1 c0 c1 c2 c3 c4 c5;go_wp2_with fail;go_ret2
 exact ⟨_,c,rfl,H1.out⟩

theorem GC (o:Tr) (ao bo xo:Option Addr) (n l K a b N1 xc bT bM bA:Nat) (ms xs:List Nat) (w:World)
  (ht:TrRoom w o 60000) (hm:RowT w o (.slice ao n a) ms) (hx:RowT w o (.slice xo N1 xc) xs) (f:Digs ms) (d:Digs xs)
  (hT:Box w bT (aL o) 53) (hM:w.heap[bM]? = some (.cells #[.slice ao n a,.int .u64 (K:Nat),.slice bo l b] 70 (0,0))) (hA:Box w bA (.slice xo N1 xc) 23) :
  Calls prog 198 #[.pointer (some ⟨bT,0,none⟩),.pointer (some ⟨bA,0,none⟩),.pointer (some ⟨bM,0,none⟩)] w fun e w'=>∃ v' c,e=.returned (.tuple #[v',.int .i64 ((c:Nat):Int)])/\∃ zs m' o2,Row .u64 w' v' zs/\Lies true w w' v'/\Did w o m' w' o2 /\
   ((zs=ko (val xs) (val ms) N1 n/\c=jv (val ms) N1 n)/\m'=eE N1 n):=by
 obtain ⟨po,g⟩:=aK o;obtain ⟨E,hE⟩:∃ E,E=jv (val ms) N1 n:=⟨_,rfl⟩
 have hD:=AZ o xo ao N1 n xc a xs ms E hE w ht hx hm d f;rw [<- hE];have cT:=hT.cell;have cA:=hA.cell;obtain ⟨p0,p1,p2⟩:=aw hM;rw [g] at hD cT;clear hm hx f d hT hM hA g ht hE;generalize ko (val xs) (val ms) N1 n=RL at *;generalize eE N1 n=DS at *;go_enter func198,ntmps198;go_wp2_with fail;refine hD.mono ?_;rintro e w1 ⟨v1,v2,rfl,_,h2,h3,o1,h4⟩;clear hD cT cA p0 p1 p2;go_wp2_with fail;go_ret2;exact ⟨_,E,rfl,_,_,o1,h2,fun _=>h3,h4,⟨rfl,rfl⟩,rfl⟩

theorem Io (o:Tr) (ao bo xo:Option Addr) (n l K a b N1 xc:Nat) (ms rs xs:List Nat) (w:World)
  (ht:TrRoom w o 60000) (hm:RowT w o (.slice ao n a) ms) (hr:RowT w o (.slice bo l b) rs) (hx:RowT w o (.slice xo N1 xc) xs) (q:Digs ms) (x:Digs rs) (v:Digs xs) (hK:K<18446744073709551616) (z:n<=1000000) :
  Calls prog 141 #[aL o,.agg #[.slice ao n a,.int .u64 (K:Nat),.slice bo l b],.slice xo N1 xc] w fun e w'=>∃ v' c,e=.returned (.tuple #[v',.int .i64 ((c:Nat):Int)])/\Asked w o true (okMod ms K rs) (fun zs c=>zs=ko (val xs) (val ms) N1 n/\c=jv (val ms) N1 n) (List.replicate 0 (1,(n:Int),0) ++ eE N1 n) w' v' c:=by
 have A:=im;have he:∀ args w,(callFunc 198 args).run prog w=.ok (.enter 198 args) w:=fun _ _=>by simp [go_sem]
 obtain ⟨po,r⟩:=aK o;obtain ⟨W,hW⟩:∃ W,W=((w.alloc (.cells #[.pointer po] 53)).alloc (.cells #[.slice ao n a,.int .u64 (K:Nat),.slice bo l b] 70)).alloc (.cells #[.slice xo N1 xc] 23):=⟨_,rfl⟩
 have k0:Kept af w W:=by rw [hW];exact (((aj af w).alloc _).alloc _).alloc _
 have p:Box W w.heap.size (.pointer po) 53:=by rw [hW];exact ((Box.new w _ _).alloc _).alloc _
 have g:W.heap[w.heap.size+1]? = some (.cells #[.slice ao n a,.int .u64 (K:Nat),.slice bo l b] 70 (0,0)):=by
  rw [hW];refine au ?_;have:=heap_alloc_new (w.alloc (.cells #[.pointer po] 53)) (.cells #[.slice ao n a,.int .u64 (K:Nat),.slice bo l b] 70)
  rwa [show (w.alloc (.cells #[.pointer po] 53)).heap.size=w.heap.size+1 by simp] at this
 have t:Box W (w.heap.size+1+1) (.slice xo N1 xc) 23:=by
  rw [hW];have:=Box.new ((w.alloc (.cells #[.pointer po] 53)).alloc (.cells #[.slice ao n a,.int .u64 (K:Nat),.slice bo l b] 70)) (.slice xo N1 xc) 23
  rwa [show ((w.alloc (.cells #[.pointer po] 53)).alloc (.cells #[.slice ao n a,.int .u64 (K:Nat),.slice bo l b] 70)).heap.size=w.heap.size+1+1 by simp] at this
 have f:=rj o ao bo none n l K a b 0 0 198 #[.pointer (some ⟨w.heap.size,0,none⟩),.pointer (some ⟨w.heap.size+1+1,0,none⟩),.pointer (some ⟨w.heap.size+1,0,none⟩)]
  (fun _=>none) (fun _=>0) (fun _=>0) (fun _=>[]) ms rs 60000 (eE N1 n) true (fun zs c=>zs=ko (val xs) (val ms) N1 n/\c=jv (val ms) N1 n) W
  ((ht.grew k0).less (by omega)) (hm.grew k0) (hr.grew k0) q x hK (by omega) (by omega)
  (fun i hi=>absurd hi (by omega)) (fun W' m o' d i hi=>absurd hi (by omega)) (fun i hi=>absurd hi (by omega)) (fun i hi=>absurd hi (by omega))
  he
  (fun hn y W' m o' d k=>by
   have s:=(ht.grew k0).1;refine (GC o' ao bo xo n l K a b N1 xc w.heap.size (w.heap.size+1) (w.heap.size+1+1) ms xs W' k ((hm.grew k0).did d) ((hx.grew k0).did d) q v (by rw [d.ptr,r];exact p.did d s (by decide) (by decide)) ((d.kept.block _ (lt_of_block g) (aI g s (by decide) (by decide))).trans g) (t.did d s (by decide) (by decide))).mono ?_;rintro e w' ⟨v',c,rfl,zs,m',o2,h1,h2,h3,h4⟩;exact ⟨v',c,rfl,zs,m',o2,h1,h2,h3,fun _ _=>h4⟩)
 have j:(okMod ms K rs/\jb 0 n (val ms) (fun _=>0) (fun _=>[]))↔okMod ms K rs:=⟨fun h=>h.1,fun h=>⟨h,fun i hi=>absurd hi (by omega)⟩⟩
 rw [j] at f;have HB:Hid (∀ w' v' c,Asked W o true (okMod ms K rs) (fun zs c=>zs=ko (val xs) (val ms) N1 n/\c=jv (val ms) N1 n) (List.replicate 0 (1,(n:Int),0) ++ eE N1 n) w' v' c->Asked w o true (okMod ms K rs) (fun zs c=>zs=ko (val xs) (val ms) N1 n/\c=jv (val ms) N1 n) (List.replicate 0 (1,(n:Int),0) ++ eE N1 n) w' v' c):=fun w' v' c h=>h.after k0
 have HW:=aa hW;obtain ⟨c3,c4,c5⟩:=aw g;have c0:=p.cell;rw [r] at f ⊢;clear ht hm hr hx q x v hK z r k0 p g t hW he j;generalize (okMod ms K rs)=PP at *;generalize (fun zs c=>zs=ko (val xs) (val ms) N1 n/\c=jv (val ms) N1 n)=RR at *;generalize List.replicate 0 (1,(n:Int),0) ++ eE N1 n=EE at *;go_enter func141,ntmps141;go_wp2_with fail;rw [<- HW.out];refine f.mono ?_;rintro e w1 ⟨v1,c,rfl,h1⟩;have H1:=aa (HB.out _ _ _ h1);clear f h1 c0 c3 c4 c5;go_wp2_with fail;go_ret2;exact ⟨_,c,rfl,H1.out⟩

theorem kX {V K:Nat} (h:el V=0) (hK:pV V K):okMod (je V) K (jy V)/\(je V).length=ar V/\(jy V).length=ar V/\val (je V)=V/\Digs (je V)/\Digs (jy V):=by
 have hM:je V=digs V (ar V):=by unfold je;rw [ah h]
 have hR:jy V=digs (2^(128*ar V)%V) (ar V):=by unfold jy;rw [ah h]
 have hv:val (je V)=V:=by rw [hM,aB,ax ((aG V _).1 (leR _))]
 refine ⟨?_,by rw [hM,ag],by rw [hR,ag],hv,by rw [hM];exact ak (by omega) _ _,by rw [hR];exact ak (by omega) _ _⟩;unfold okMod;rw [hv];exact ⟨h,rfl,hK,rfl⟩

theorem Gu (n:Nat) (hn:n<18446744073709551616) (w:World) :
  Calls prog 277 #[.int .u64 1,.int .u64 (n:Nat)] w fun e w'=>e=.returned (.tuple #[.int .u64 0,.int .u64 (n:Nat)])/\w'=w:=by
 have h:=qH 1 (n:Int) (by omega) (by omega) (by omega) (by omega) w;rw [show (1:Int)*(n:Int)/18446744073709551616=0 by omega,show (1:Int)*(n:Int)%18446744073709551616=(n:Int) by omega] at h;go_enter func277,ntmps277;go_wp2_with fail;refine h.mono ?_;rintro e w' ⟨rfl,rfl⟩;go_wp2;go_ret2;exact ⟨rfl,rfl⟩

def kO (M k n:Nat):List Nat:=List.replicate k M ++ List.replicate (n-k) 0

theorem yx {M k n:Nat} (h:k<=n):(kO M k n).length=n:=by
 unfold kO;rw [aZ,be,be];omega

theorem qw {M k n c:Nat} (h:k+c<=n) (f:Nat->Value):splice ((kO M k n).map f) k ((List.replicate c M).map f)=(kO M (k+c) n).map f:=by
 unfold kO splice;simp only [dt,List.map_replicate];rw [List.take_left' (by simp),List.drop_append];simp only [be,List.drop_replicate];rw [show k-(k+c)=0 by omega,show n-k-(k+c-k)=n-(k+c) by omega,eH,bw,<- dr,mu]

theorem uk {w2:World} {g n M:Nat} {t:TypeId} (hn:0<n) (h:w2.heap[g]? = some (.cells (splice ((List.replicate n 0).map fun z:Nat=>Value.int .u64 (z:Int)) 0 ([M].map fun z:Nat=>Value.int .u64 (z:Int))).toArray t (0,0))) :
  w2.heap[g]? = some (.cells ((kO M 1 n).map fun z:Nat=>Value.int .u64 (z:Int)).toArray t (0,0)):=by
 have:=qw (M:=M) (k:=0) (c:=1) (n:=n) (by omega) (fun z:Nat=>Value.int .u64 (z:Int));rw [dz] at this;rw [<- this];exact h

theorem Cw {M k n j:Nat} (hj:j<k) (f:Nat->Value):((kO M k n).map f)[j]? = some (f M):=by
 unfold kO;rw [dt,gD (by simpa using hj),bu,ee,ah hj];rfl

theorem DC (b M n:Nat) (w:World) (hx:w.cell? ⟨b,0,none⟩=some (.int .u64 (M:Nat))) (x:0<n) (hn:n<=1000) :
  Calls prog 270 #[.slice (some ⟨b,0,none⟩) 1 1,.int .i64 (n:Nat)] w fun e w'=>e=.returned (.slice (some ⟨w.heap.size,0,none⟩) n n)/\OwnN .u64 24 w' w.heap.size (.slice (some ⟨w.heap.size,0,none⟩) n n) n (List.replicate n M)/\Kept af w w':=by
 obtain ⟨i0,g,y,i,A⟩:=info_parts Tryz.info24;have hB:=Gu n (by omega) w;have g0:¬ (n:Int)<0:=by omega
 have g3:decide ((9223372036854775807:Int)<(n:Int))=false:=cP (by omega);have g1:IntKind.u64.wrap (n:Int)=(n:Int):=by rw [IntKind.wrap_u64];omega
 have g2:IntKind.i64.wrap (n:Int)=(n:Int):=by rw [IntKind.wrap_i64];omega
 have HX:Hid (∀ W,Kept af w W->∀ j u,([M].map fun z:Nat=>Value.int .u64 (z:Int))[j]? = some u->W.cell? ((⟨b,0,none⟩:Addr).add j)=some u):=fun W k j u hj=>by
  cases j with
  | zero=>
   rw [jC,List.getElem?_cons_zero] at hj;cases hj
   exact k.cellN hx
  | succ j=>simp at hj
 clear hx;go_enter func270,ntmps270;go_wp2_with fail;refine hB.mono ?_;rintro e w' ⟨rfl,rfl⟩;clear hB;have HO:Hid (∀ c:Nat,∀ u ∈ (List.replicate c M).map (fun z:Nat=>Value.int .u64 (z:Int)),u.oneCell'=true):=fun c=>jd .u64 _
 go_wp2_with (at_make;refine wpList_make_full _ rfl _ _ 23 rfl w'.heap.size 24 i0 _ 1 underlying23 g y i _ _ _ _ n rfl rfl rfl rfl (by rw [A];omega) (by unfold maxLen;omega) (leR _) ?_;intro w1 h q;rw [bg] at h;have k1:=aV q;obtain ⟨w2,d,o,k2⟩:=dS (P:=prog) 23 23 3 24 w'.heap.size 0 n n (some ⟨w'.heap.size,0,none⟩) (some ⟨b,0,none⟩) 1 1 _ 24 ([M].map fun z:Nat=>Value.int .u64 (z:Int)) underlying23 (by rw [g];simp [i]) (gV h) (by show 1=min 1 n;omega) (fun _=>⟨rfl,_,rfl,HX.out _ k1⟩) (by simp;omega) (jd .u64 [M]);have l:=aa (uk x o);have m:=aa (eZ k1 k2 (leR _));clear o h q k1 k2)
 go_loopw [8] (fun kv wr=>∃ k:Nat,0<k/\k<=n/\kv=.int .i64 (k:Int)/\Hid (wr.heap[w'.heap.size]? = some (.cells ((kO M k n).map fun z:Nat=>Value.int .u64 (z:Int)).toArray 24 (0,0)))/\Hid (Kept af w' wr)) (fun kv _=>n-(intOf kv).toNat)
 case atStart=>exact ⟨1,by omega,by omega,rfl,l.out,m.out⟩
 case round=>
  obtain ⟨k,B,v,rfl,HB,HK⟩:=hrel;clear l m;by_cases hk:k<n
  ·have e1:(k:Int)<(n:Int):=by omega
   have e2:(0:Int)<=(k:Int):=by omega
   have e3:(k:Int)<=(n:Int):=by omega
   obtain ⟨c,hc⟩:∃ c,c=min k (n-k):=⟨_,rfl⟩
   have a:((List.replicate c M).map fun z:Nat=>Value.int .u64 (z:Int)).length=c:=by rw [cf,be]
   obtain ⟨w3,d,f,k3⟩:=dS (P:=prog) (w:=wr.drew) 23 23 3 24 w'.heap.size k (n-k) (n-k) (some ⟨w'.heap.size,k,none⟩) (some ⟨w'.heap.size,0,none⟩) k n ((kO M k n).map fun z:Nat=>Value.int .u64 (z:Int)) 24 ((List.replicate c M).map fun z:Nat=>Value.int .u64 (z:Int)) underlying23 (by rw [g];simp [i]) HB.out (by rw [a,hc]) (fun _=>⟨rfl,_,rfl,fun j u hj=>by
    have t:j<c:=by
     have:=(ml.1 hj).1
     rwa [a] at this
    rw [bu,ee,ah t] at hj;rw [show (⟨w'.heap.size,0,none⟩:Addr).add j=⟨w'.heap.size,j,none⟩ by unfold Addr.add;split <;> simp_all,cell_of_row wr.drew w'.heap.size j _ _ _ HB.out,List.getElem?_toArray,Cw (by omega)];exact hj⟩) (by rw [a,cf,yx v];omega) (HO.out c)
   rw [a] at d;rw [qw (by omega)] at f;have r:=aa f;have s:Hid (Kept af w' w3):=eZ HK.out.drew k3 (leR _);have p:Hid (0<c/\k+c<=n):=⟨by omega,by omega⟩
   have e4:IntKind.i64.wrap ((k:Int)+(c:Int))=(k:Int)+(c:Int):=by rw [IntKind.wrap_i64];omega
   clear a f k3 hc HB HK;go_wp2_with fail;go_region
   go_wp2_with fail;go_roundw
   case rel=>exact ⟨k+c,by omega,p.out.2,by simp,r.out,s.out⟩
   case measure=>have:=p.out;simp [intOf];omega
  ·have e1:¬ (k:Int)<(n:Int):=by omega
   obtain rfl:k=n:=by omega
   go_wp2_with fail;go_ret;refine ⟨rfl,dD ?_ (by simp) (by unfold maxLen;omega) (leR _),HK.out⟩;have:=HB.out;unfold kO at this
   rwa [bJ,eH,dI] at this

theorem iS {W w':World} {o:Tr} {v:Value} {zs:List Nat} (hF:Fresh W v) (ht:TrIn W o) (hr:Row .u64 w' v zs):RowT w' o v zs:=
 ⟨hr,fun _ b hb f=>by have h1:=hF b hb;have h2:=ht.foot b f;omega⟩

theorem DT (n:Nat):val (List.replicate n 18446744073709551615)+1=18446744073709551616^n:=by
 induction n with
 | zero=>rfl
 | succ n ih=>
  rw [iZ,val,aH];omega

theorem BC {n V:Nat} (a:0<n) (hn:n<=130) (hV:V+1=18446744073709551616^n):el V=0/\ar V=n:=by
 have h1:ar V<=n:=(aG V n).2 (by omega);have h2:¬ ar V<=n-1:=fun h=>by
  have h3:=(aG V (n-1)).1 h;have h4:18446744073709551616^(n-1)*18446744073709551616=18446744073709551616^n:=by rw [<- aH,show (n-1).succ=n by omega]
  omega
 have hw:ar V=n:=by omega
 have h5:18446744073709551616^n=2*(9223372036854775808*18446744073709551616^(n-1)):=by
  have h4:18446744073709551616^(n-1)*18446744073709551616=18446744073709551616^n:=by rw [<- aH,show (n-1).succ=n by omega]
  omega
 have h6:0<18446744073709551616^(n-1):=aC (by omega);refine ⟨?_,hw⟩;unfold el;rw [ai (by omega),ai (by omega),ai (by omega)]

theorem Ez (ao bo eo:Option Addr) (n l a b L c:Nat) (K:Int) (R:Bool) (hR:R=decide ((0<n/\n<=130)/\L<=300)) (w:World) :
  Calls prog 258 #[.agg #[.slice ao n a,.int .u64 K,.slice bo l b],.slice eo L c] w fun e w'=>e=.returned (.bool R)/\Kept af w w':=by
 have k0:Kept af w (w.alloc (.cells #[.slice ao n a,.int .u64 K,.slice bo l b] 70)):=(aj af w).alloc _;by_cases h1:0<n
 ·by_cases h2:n<=130
  ·by_cases h3:L<=300
   ·obtain rfl:R=true:=by rw [hR];exact dL ⟨⟨h1,h2⟩,h3⟩
    have d:(0:Int)<(n:Int):=by omega
    have f:(n:Int)<=130:=by omega
    have g:(L:Int)<=300:=by omega
    clear hR;go_enter func258,ntmps258;go_wp2;go_ret;exact ⟨by simp,k0⟩
   ·obtain rfl:R=false:=by rw [hR];exact cP (fun h=>h3 h.2)
    have d:(0:Int)<(n:Int):=by omega
    have f:(n:Int)<=130:=by omega
    have g:¬ (L:Int)<=300:=by omega
    clear hR;go_enter func258,ntmps258;go_wp2;go_ret;exact ⟨by simp,k0⟩
  ·obtain rfl:R=false:=by rw [hR];exact cP (fun h=>h2 h.1.2)
   have d:(0:Int)<(n:Int):=by omega
   have f:¬ (n:Int)<=130:=by omega
   clear hR;go_enter func258,ntmps258;go_wp2;go_ret;exact ⟨rfl,k0⟩
 ·obtain rfl:R=false:=by rw [hR];exact cP (fun h=>h1 h.1.1)
  obtain rfl:n=0:=by omega
  clear hR;go_enter func258,ntmps258;go_wp2;go_ret;exact ⟨rfl,k0⟩

theorem Gb (n:Nat) (M:0<n) (hn:n<=130) (w:World) :
  Calls prog 260 #[.int .i64 (n:Nat)] w fun e w'=>∃ (ao bo xo:Option Addr) (mc rc xc K:Nat),e=.returned (.tuple #[.agg #[.slice ao n mc,.int .u64 (K:Nat),.slice bo n rc],.slice xo n xc])/\∃ ms rs:List Nat,(Row .u64 w' (.slice ao n mc) ms/\Row .u64 w' (.slice bo n rc) rs)/\(Digs ms/\Digs rs/\K<18446744073709551616/\okMod ms K rs)/\(Row .u64 w' (.slice xo n xc) (List.replicate n 0)/\U64s w' (.slice xo n xc))/\(Fresh w (.slice ao n mc)/\Fresh w (.slice bo n rc)/\Fresh w (.slice xo n xc))/\Kept af w w':=by
 obtain ⟨i0,X,Z,ab,ad⟩:=info_parts Tryz.info24;obtain ⟨W,hW⟩:∃ W,W=(w.alloc (.cells #[.slice none 0 0,.int .u64 0,.slice none 0 0] 70)).alloc (.cells #[.int .u64 18446744073709551615] 24):=⟨_,rfl⟩
 have k0:Kept af w W:=by rw [hW];exact ((aj af w).alloc _).alloc _
 have F:W.heap.size=w.heap.size+1+1:=by rw [hW];simp
 have L:W.heap[w.heap.size]? = some (.cells #[.slice none 0 0,.int .u64 0,.slice none 0 0] 70 (0,0)):=by rw [hW];exact au (heap_alloc_new _ _)
 have J:W.cell? ⟨w.heap.size+1,0,none⟩=some (.int .u64 ((18446744073709551615:Nat):Int)):=by
  rw [hW];have:=Box.new (w.alloc (.cells #[.slice none 0 0,.int .u64 0,.slice none 0 0] 70)) (.int .u64 18446744073709551615) 24;rw [World.size_alloc] at this;exact this.cell
 have q:=DC (w.heap.size+1) 18446744073709551615 n W J M (by omega);obtain ⟨V,hV⟩:∃ V,V=val (List.replicate n 18446744073709551615):=⟨_,rfl⟩
 have D:=DT n;rw [<- hV] at D;obtain ⟨hE,G⟩:=BC M hn D;have l:Hid (∀ W' g,Row .u64 W' (.slice (some ⟨g,0,none⟩) n n) (List.replicate n 18446744073709551615)->Calls prog 34 #[.slice (some ⟨g,0,none⟩) n n] W' fun e w'=>∃ (ao bo:Option Addr) (mc rc K:Nat),e=.returned (.tuple #[.agg #[.slice ao n mc,.int .u64 (K:Nat),.slice bo n rc],.int .i64 0])/\(Row .u64 w' (.slice ao n mc) (je V)/\Row .u64 w' (.slice bo n rc) (jy V))/\pV V K/\(Fresh W' (.slice ao n mc)/\Fresh W' (.slice bo n rc))/\Kept af W' w'):=fun W' g hr=>by
  refine (oH (some ⟨g,0,none⟩) n n _ V 0 hV hE.symm W' hr (fun d hd=>by rw [(eu.1 hd).2];omega) (by omega)).mono ?_;rintro e w' ⟨a,K,b,rfl,h1,h2,h3,⟨h4,h5⟩,h6⟩;obtain ⟨_,s2,s3,_⟩:=kX hE h3;obtain ⟨ao,an,ac,rfl,hl,_⟩:=h1.open;obtain ⟨bo,bn,bc,rfl,Y,_⟩:=h2.open;obtain rfl:an=n:=by rw [<- hl.out,s2,G]
  obtain rfl:bn=an:=by rw [<- Y.out,s3,G]
  exact ⟨ao,bo,ac,bc,K,rfl,⟨h1,h2⟩,h3,⟨h4,h5⟩,h6⟩
 have T:Hid (∀ K,pV V K->Digs (je V)/\Digs (jy V)/\K<18446744073709551616/\okMod (je V) K (jy V)):=fun K h=>by
  obtain ⟨s1,_,_,_,s5,s6⟩:=kX hE h;exact ⟨s5,s6,h.1,s1⟩
 have HW:=aa hW;have B:=aa k0;have HO:=aa L;clear hW k0 L J hV D hE G F;go_enter func260,ntmps260;go_wp2_with (rw [<- HW.out]);refine q.mono ?_;rintro e w1 ⟨rfl,N,k1⟩;have hS:=l.out w1 _ (cW N (by simp));clear q N;go_wp2_with fail;refine hS.mono ?_;rintro e w2 ⟨ao,bo,mc,rc,K,rfl,t,I,⟨fa,fb⟩,k2⟩;obtain ⟨W3,y⟩:∃ W3,W3=w2.alloc (.cells #[.slice ao n mc,.int .u64 (K:Nat),.slice bo n rc] 70):=⟨_,rfl⟩
 have k3:Kept af w2 W3:=by rw [y];exact (aj af w2).alloc _
 have E:W3.heap[w2.heap.size]? = some (.cells #[.slice ao n mc,.int .u64 (K:Nat),.slice bo n rc] 70 (0,0)):=by rw [y];exact heap_alloc_new _ _
 have c:W3.heap[w.heap.size]? = some (.cells #[.slice none 0 0,.int .u64 0,.slice none 0 0] 70 (0,0)):=(((k1.trans k2).trans k3).block _ (lt_of_block HO.out) (fun f=>f)).trans HO.out;have hlt:w.heap.size<w2.heap.size:=by have:=lt_of_block HO.out;have:=(k1.trans k2).size;omega
 have p:=lN W3;obtain ⟨CL,C⟩:∃ CL,CL=madeCells #[Value.int .u64 0] n:=⟨_,rfl⟩
 have ah:∀ W,(Instr.makeSlice 23 (.int .i64 (n:Int)) (.int .i64 (n:Int))).run prog W=.ok (.slice (some ⟨W.heap.size,0,none⟩) n n) (W.alloc (.cells CL 24)):=fun W=>by rw [C];exact run_make_row (P:=prog) _ _ i0 _ underlying23 X Z ab rfl _ _ n (by rw [ad];omega) (by omega) W
 have j:=aa t;have S:=aa I;have HF:Hid (Fresh W (.slice ao n mc)/\Fresh W (.slice bo n rc)):=⟨fa.after k1,fb.after k1⟩
 have R:=aa ((k1.trans k2).trans k3);have i:=aa k3;have U:=aa y;have O:=aa C;obtain ⟨c0,c1,c2⟩:=aw E;obtain ⟨q0,q1,q2⟩:=aw c;obtain ⟨f0,f1,f2⟩:=jO c;obtain ⟨c3,c4,c5⟩:=aw (au (o:=.cells CL 24) E);obtain ⟨q3,q4,q5⟩:=aw (au (o:=.cells CL 24) c);obtain ⟨f3,f4,f5⟩:=jO (au (o:=.cells CL 24) c);have H:=aa c;clear hS t I fa fb k1 k2 k3 y E c C l;go_wp2_with (rw [<- U.out]);refine p.mono ?_;rintro e W4 ⟨rfl,rfl⟩;clear p;go_wp2_with fail;have m:CL=((List.replicate n 0).map fun z:Nat=>Value.int .u64 (z:Int)).toArray:=by
  have h:=bg .u64 n;rw [bD] at h;rw [<- h,O.out];simp [Value.cells]
 have ae:w.heap.size<W4.heap.size:=lt_of_block H.out;have ag:w.heap.size<W.heap.size:=lt_of_block HO.out;have A:Hid (∀ w':World,w'.heap[W4.heap.size]? = some (.cells CL 24 (0,0))->Row .u64 w' (.slice ao n mc) (je V)->Row .u64 w' (.slice bo n rc) (jy V)->Kept af w w'->∃ ms rs:List Nat,(Row .u64 w' (.slice ao n mc) ms/\Row .u64 w' (.slice bo n rc) rs)/\(Digs ms/\Digs rs/\K<18446744073709551616/\okMod ms K rs)/\(Row .u64 w' (.slice (some ⟨W4.heap.size,0,none⟩) n n) (List.replicate n 0)/\U64s w' (.slice (some ⟨W4.heap.size,0,none⟩) n n))/\(Fresh w (.slice ao n mc)/\Fresh w (.slice bo n rc)/\Fresh w (.slice (some ⟨W4.heap.size,0,none⟩) n n))/\Kept af w w'):=fun w' hb r1 r2 k=>by
  rw [m] at hb;have s:OwnN .u64 24 w' W4.heap.size (.slice (some ⟨W4.heap.size,0,none⟩) n n) n (List.replicate n 0):=dD hb (by simp) (by unfold maxLen;omega) (leR _);refine ⟨_,_,⟨r1,r2⟩,T.out K S.out,⟨cW s (by simp),U64s.own s⟩,⟨HF.out.1.after B.out,HF.out.2.after B.out,fun x hx=>?_⟩,k⟩;have e':W4.heap.size=x:=by simpa [Value.ownBlock] using hx
  omega
 clear m;go_region
 ·have kp:=lS W4 w.heap.size (.slice ao n mc) (.int .u64 (K:Int)) (.slice bo n rc);have F:((((W4).setCell ⟨w.heap.size,0,none⟩ (.slice ao n mc)).setCell ⟨w.heap.size,1,none⟩ (.int .u64 (K:Int))).setCell ⟨w.heap.size,2,none⟩ (.slice bo n rc)).heap.size=W4.heap.size:=by simp
  have hP:=au (o:=.cells CL 24) (rJ H.out (.slice ao n mc) (.int .u64 (K:Int)) (.slice bo n rc));have r:=heap_alloc_new ((((W4).setCell ⟨w.heap.size,0,none⟩ (.slice ao n mc)).setCell ⟨w.heap.size,1,none⟩ (.int .u64 (K:Int))).setCell ⟨w.heap.size,2,none⟩ (.slice bo n rc)) (.cells CL 24);rw [F] at r;have kB:Kept af ((((W4).setCell ⟨w.heap.size,0,none⟩ (.slice ao n mc)).setCell ⟨w.heap.size,1,none⟩ (.int .u64 (K:Int))).setCell ⟨w.heap.size,2,none⟩ (.slice bo n rc)) (((((W4).setCell ⟨w.heap.size,0,none⟩ (.slice ao n mc)).setCell ⟨w.heap.size,1,none⟩ (.int .u64 (K:Int))).setCell ⟨w.heap.size,2,none⟩ (.slice bo n rc)).alloc (.cells CL 24)):=(aj af _).alloc _
  have Q:=aa (A.out _ (cH r) ((((j.out.1.grew i.out).kept kp (fun x hx e=>by have:=HF.out.1 x hx;omega)).grew kB).grew (aj af _).drew) ((((j.out.2.grew i.out).kept kp (fun x hx e=>by have:=HF.out.2 x hx;omega)).grew kB).grew (aj af _).drew) ((((B.out.trans R.out).next kp (fun x hx e=>by omega)).trans kB).drew));obtain ⟨d0,d1,d2⟩:=aw hP;go_wp2_with fail;exact bodyPost_ret (v:=.tuple #[.agg #[.slice ao n mc,.int .u64 (K:Nat),.slice bo n rc],.slice (some ⟨W4.heap.size,0,none⟩) n n]) (by simp [results,results260,go_sem,d0,d1,d2]) rfl ⟨_,_,_,_,_,_,_,rfl,Q.out⟩

structure Left8 (a w w':World) (o o':Tr) (bX bO rm:Nat) (ov:Value) (AT:TypeId) (m:List Ev):Prop where
 did:Did a o m w' o'
 len:m.length<=3000+rm
 err:Box w' bX (.int .i64 0) 32
 out:Box w' bO ov AT
 size:w.heap.size<=w'.heap.size

theorem kM {a w w':World} {o o1 o':Tr} {m m1:List Ev} (h:Did a o m w o1) (d:Did w o1 m1 w' o'):Did a o (m ++ m1) w' o':=h.trans d

theorem mK {n:Nat}:(if n<=130 then List.replicate 1 (1,(n:Int),0) ++ cD n else []).length<=2000:=by
 by_cases h:n<=130
 ·rw [ah h];exact (gU h).2.1
 ·rw [ai h];simp

theorem BR (o:Tr) (ao bo xo eo:Option Addr) (n l K g i N1 xc L q f:Nat) (C:Array Value) (ms rs xs:List Nat) (bT bM bA bE bF bO bX E rm:Nat) (dE:List Ev) (G:Nat->Nat->World->Value->Prop) (a w:World) (a7:dE.length<=rm)
  (ht:TrRoom a o (4000+rm)) (ka:Kept af a w) (hm:RowT a o (.slice ao n g) ms) (hr:RowT a o (.slice bo l i) rs) (hx:RowT a o (.slice xo N1 xc) xs) (Z:Digs ms) (ab:Digs rs) (U:Digs xs) (hK:K<18446744073709551616) (ak:n<=300) (aM:a.heap.size<=bM/\a.heap.size<=bO) (a5:bM≠bX/\bO≠bX/\bM≠bO)
  (hT:Box w bT (aL o) 53) (hM:w.heap[bM]? = some (.cells #[.slice ao n g,.int .u64 (K:Nat),.slice bo l i] 70 (0,0))) (hA:Box w bA (.slice xo N1 xc) 23) (hB:Box w bE (.slice eo L q) 23) (hF:Box w bF (.func (.func f) #[] C) 209) (hO:Box w bO (.slice none 0 0) 23) (hX:Box w bX (.int .i64 0) 32)
  (hf:∀ args w,(callFunc f args).run prog w=.ok (.enter f args) w)
  (S:∀ W m o' s t R l' K' y z Q P aq X,Did a o m W o'->TrRoom W o' rm->Mod8 W o' s t n l' K' y z P aq->MonAt W (.slice R n Q) n (val P) X->Fresh w (.slice R n Q)->Kept (fun b=>b=bM\/cN o b) w W->L<=300->Calls prog f (#[.agg #[.slice s n y,.int .u64 (K':Nat),.slice t l' z],.slice R n Q] ++ C) W fun e w'=>∃ zo zn zc,e=.returned (.slice zo zn zc)/\G (val P) X w' (.slice zo zn zc)/\∃ o2,Did W o' dE w' o2)
  (hG:∀ V X W W' v,G V X W v->Kept (fun b=>b<w.heap.size) W W'->G V X W' v)
  (hE:E=0↔okMod ms K rs/\(N1=n/\val xs<val ms)) (ad:E<=1) :
  Calls prog 257 #[.pointer (some ⟨bT,0,none⟩),.pointer (some ⟨bM,0,none⟩),.pointer (some ⟨bA,0,none⟩),.pointer (some ⟨bE,0,none⟩),.pointer (some ⟨bF,0,none⟩),.pointer (some ⟨bO,0,none⟩)] w fun e w'=>
   (E=0/\L<=300/\e=.returned (.tuple #[])/\∃ zo zn zc o',Left8 a w w' o o' bX bO rm (.slice zo zn zc) 23 (jk n ++ dE)/\G (val ms) (val xs) w' (.slice zo zn zc)) \/
   (∃ c:Nat,((E=1/\c=1)\/(E=0/\300<L/\c=2))/\e=.panicked [refusal (c:Nat)]/\∃ m o',Left8 a w w' o o' bX bO rm (.slice none 0 0) 23 m):=by
 obtain ⟨po,N⟩:=aK o;have J:=(ht.grew ka).1;have h0:Did a o [] w o:=Did.of_kept ka ht.1;have JC:Hid (∀ W m o',Did w o m W o'->W.cell? ⟨bT,0,none⟩=some (.pointer po)/\W.cell? ⟨bA,0,none⟩=some (.slice xo N1 xc)/\W.cell? ⟨bE,0,none⟩=some (.slice eo L q)/\W.cell? ⟨bF,0,none⟩=some (.func (.func f) #[] C)):=fun W m o' d=>by
  rw [<- N];exact ⟨(hT.did d J (by decide) (by decide)).cell,(hA.did d J (by decide) (by decide)).cell,(hB.did d J (by decide) (by decide)).cell,(hF.did d J (by decide) (by decide)).cell⟩
 have JM:Hid (∀ W m o',Did w o m W o'->W.heap[bM]? = some (.cells #[.slice ao n g,.int .u64 (K:Nat),.slice bo l i] 70 (0,0))):=fun W m o' d=>(d.kept.block _ (lt_of_block hM) (aI hM J (by decide) (by decide))).trans hM
 have JO:Hid (∀ W m o',Did w o m W o'->Box W bO (.slice none 0 0) 23/\Box W bX (.int .i64 0) 32):=fun W m o' d=>⟨hO.did d J (by decide) (by decide),hX.did d J (by decide) (by decide)⟩
 have aQ:Hid (∀ W3 {W4:World},Kept (fun b=>b=bM) W3 W4->∀ {m:List Ev} o',Did w o m W3 o'->W4.cell? ⟨bF,0,none⟩=some (.func (.func f) #[] C)):=fun W3 W4 k m o' d=>((hF.did d J (by decide) (by decide)).kept k (fun e=>by
  have h1:w.heap[bF]? = _:=hF;rw [e,hM] at h1;simp at h1)).cell
 have a3:=lt_of_block hM;have a4:=hO.lt;have HT:=aa ht;obtain ⟨c0,c1,c2,c3⟩:=JC.out _ _ _ (Did.of_kept (aj af w) J);obtain ⟨p0,p1,p2⟩:=aw hM;have a0:E=0\/E=1:=by omega
 rcases a0 with rfl | rfl
 ·obtain ⟨ay,rfl,hlt⟩:=hE.1 rfl;have ae:Mod8 a o ao bo N1 l K g i ms rs:=⟨hm,hr,Z,ab,hK,ay⟩
  obtain ⟨⟨f0,f1⟩,f2,f3,f4,f5⟩:=ae.facts;have D:=Gx o ao bo xo N1 l K g i xc ms rs xs w ((ht.grew ka).less (by omega)) (ae.grew ka) (hx.grew ka) U hlt;rw [N] at D;have HL:=fun W=>Ez ao bo eo N1 l g i L q (K:Int) (decide ((0<N1/\N1<=130)/\L<=300)) rfl W
  have aU:=aa ae;have am:=aa f1;by_cases hL3:L<=300
  ·have ax:Hid (∀ W,Calls prog 258 #[.agg #[.slice ao N1 g,.int .u64 (K:Int),.slice bo l i],.slice eo L q] W fun e w'=>e=.returned (.bool true)/\Kept af W w'):=fun W=>by
    have:=HL W
    rwa [dL (show (0<N1/\N1<=130)/\L<=300 from ⟨⟨f0,f1⟩,hL3⟩)] at this
   have au:=aa S;have aT:=aa hG;clear ht hm hr hx Z ab U hK ak hT hM hA hB hF hO hX S hG hE ad ay hlt ae f0 f1 f2 f3 f4 f5 HL N;go_enter func257,ntmps257;go_wp2_with fail;refine D.mono ?_;rintro e w1 ⟨zo,zc,rfl,an,ap,o1,d1⟩;obtain ⟨q0,q1,q2,q3⟩:=JC.out _ _ _ d1;obtain ⟨r0,r1,r2⟩:=aw (JM.out _ _ _ d1);have M:=aa d1;have aN:=aa an;have aP:=aa ap;clear D c0 c1 c2 c3 p0 p1 p2 d1 an ap;go_wp2_with fail;refine (ax.out w1).mono ?_;rintro e w2 ⟨rfl,k2⟩;have j:=aa (M.out.grew k2);obtain ⟨q0,q1,q2,q3⟩:=JC.out _ _ _ j.out;obtain ⟨r0,r1,r2⟩:=aw (JM.out _ _ _ j.out)
   have r:TrRoom w2 o1 rm:=j.out.room ((HT.out.grew ka).less (by have:=(gU am.out).2.1;omega));have ac:=au.out w2 _ o1 ao bo zo l K g i zc ms rs _ (kM h0 j.out) r ((aU.out.grew ka).did j.out) (aN.out.grew k2) aP.out (j.out.kept.mono (fun _ _ f=>.inr f)) hL3;have aV:=aa r;clear k2 r;go_wp2_with fail;refine ac.mono ?_;rintro e w3 ⟨vo,vn,vc,rfl,aF,o3,d3⟩;have ai:=lN w3;have A:=aa (j.out.trans d3);have aS:=aa aF;obtain ⟨B,H⟩:=JO.out _ _ _ A.out;have x0:=B.cell;have x1:=B.free;have aB:=aa B;have aX:=aa H;clear ac aF d3 q0 q1 q2 q3 r0 r1 r2 B H;go_wp2_with fail;refine ai.mono ?_
   rintro e w4 ⟨rfl,rfl⟩;clear ai;go_wp2_with fail;go_end0
   have kb:=aD w4 bO (.slice vo vn vc);have az:TrIn w4 o3:=(A.out.room (k:=0) ((HT.out.grew ka).less (by rw [aZ];have:=(gU am.out).2.1;omega))).1;refine .inl ⟨by first | rfl | trivial,hL3,rfl,vo,vn,vc,o3,⟨?_,?_,aX.out.kept kb (by omega),aB.out.set _,?_⟩,aT.out _ _ _ _ _ aS.out (kb.mono (fun b _ e=>by omega))⟩
   ·exact (kM h0 A.out).wroteNew kb aM.2 (aB.out.apart az (by decide) (by decide))
   ·rw [aZ];have:=(gU am.out).2.1;omega
   ·have:=A.out.size;simpa using this
  ·have av:Hid (∀ W,Calls prog 258 #[.agg #[.slice ao N1 g,.int .u64 (K:Int),.slice bo l i],.slice eo L q] W fun e w'=>e=.returned (.bool false)/\Kept af W w'):=fun W=>by
    have:=HL W
    rwa [cP (show ¬ ((0<N1/\N1<=130)/\L<=300) from fun h=>hL3 h.2)] at this
   clear ht hm hr hx Z ab U hK ak hT hM hA hB hF hO hX S hG hE ad ay hlt ae f0 f1 f2 f3 f4 f5 HL N;go_enter func257,ntmps257;go_wp2_with fail;refine D.mono ?_;rintro e w1 ⟨zo,zc,rfl,an,ap,o1,d1⟩;obtain ⟨q0,q1,q2,q3⟩:=JC.out _ _ _ d1;obtain ⟨r0,r1,r2⟩:=aw (JM.out _ _ _ d1);have M:=aa d1;clear D c0 c1 c2 c3 p0 p1 p2 d1 an ap;go_wp2_with fail;refine (av.out w1).mono ?_;rintro e w2 ⟨rfl,k2⟩;have j:=aa (M.out.grew k2);have aH:=lN w2;clear k2 q0 q1 q2 q3 r0 r1 r2;go_wp2_with fail;refine aH.mono ?_;rintro e w3 ⟨rfl,rfl⟩;have a2:=mh 2 (by omega) w3;clear aH;go_wp2_with fail;refine a2.mono ?_;rintro e w4 ⟨rfl,rfl⟩
   obtain ⟨B,H⟩:=JO.out _ _ _ j.out;exact ⟨rfl,.inr ⟨2,.inr ⟨by first | rfl | trivial,by omega,rfl⟩,rfl,_,o1,⟨kM h0 j.out,by have:=(gU am.out).2.1;rw [aZ];simp;omega,H,B,j.out.size⟩⟩⟩
 ·have D:=pt o ao bo xo n l K g i N1 xc 1 ms rs xs w ((ht.grew ka).less (by omega)) (hm.grew ka) (hr.grew ka) (hx.grew ka) Z ab U hK ak hE ad;rw [N] at D;have HL:=fun W=>Ez ao bo eo n l g i L q (K:Int) (decide ((0<n/\n<=130)/\L<=300)) rfl W
  by_cases hL3:(0<n/\n<=130)/\L<=300
  ·have ax:Hid (∀ W,Calls prog 258 #[.agg #[.slice ao n g,.int .u64 (K:Int),.slice bo l i],.slice eo L q] W fun e w'=>e=.returned (.bool true)/\Kept af W w'):=fun W=>by
    have:=HL W
    rwa [dL hL3] at this
   have au:=aa S;clear ht hm hr hx Z ab U hK ak hT hM hA hB hF hO hX S hG hE ad HL N;go_enter func257,ntmps257;go_wp2_with fail;refine D.mono ?_;rintro e w1 ⟨v1,rfl,⟨Y,I,_⟩,_,o1,d1⟩;obtain ⟨zo,zn,zc,rfl,_,_,_,_,_⟩:=I.open;obtain ⟨q0,q1,q2,q3⟩:=JC.out _ _ _ d1;obtain ⟨r0,r1,r2⟩:=aw (JM.out _ _ _ d1);have M:=aa d1;clear D c0 c1 c2 c3 p0 p1 p2 d1 I;go_wp2_with fail;refine (ax.out w1).mono ?_;rintro e w2 ⟨rfl,k2⟩;have j:=aa (M.out.grew k2);obtain ⟨q0,q1,q2,q3⟩:=JC.out _ _ _ j.out;obtain ⟨r0,r1,r2⟩:=aw (JM.out _ _ _ j.out);have aJ:=Gb n hL3.1.1 hL3.1.2 w2;clear k2;go_wp2_with fail;refine aJ.mono ?_
   rintro e w3 ⟨s,t,R,y,z,Q,K',rfl,P,aq,⟨s1,s2⟩,⟨s3,s4,s5,s6⟩,⟨s7,s8⟩,⟨s9,aA,ar⟩,k3⟩;have A:=aa (j.out.grew k3);have al:TrIn w3 o1:=(A.out.room (k:=0) ((HT.out.grew ka).less (by have:=mK (n:=n);omega))).1;have ag:=JM.out _ _ _ A.out;obtain ⟨q0,q1,q2,q3⟩:=JC.out _ _ _ A.out;obtain ⟨r0,r1,r2⟩:=aw ag;obtain ⟨g0,g1,g2⟩:=jO ag;have kp:=lS w3 bM (.slice s n y) (.int .u64 (K':Int)) (.slice t n z);have ah:=rJ ag (.slice s n y) (.int .u64 (K':Int)) (.slice t n z);have a1:bM<w2.heap.size:=by have:=j.out.size;omega
   obtain ⟨t0,t1,t2⟩:=aw ah;have d4:=(kM h0 A.out).wroteNew kp aM.1 (aI ag al (by decide) (by decide));have O:TrIn w2 o1:=(j.out.room (k:=0) ((HT.out.grew ka).less (by have:=mK (n:=n);omega))).1;have p:TrRoom ((((w3.setCell ⟨bM,0,none⟩ (.slice s n y)).setCell ⟨bM,1,none⟩ (.int .u64 (K':Int))).setCell ⟨bM,2,none⟩ (.slice t n z))) o1 rm:=d4.room (HT.out.less (by have:=mK (n:=n);simp only [bw];omega));have F:∀ v:Value,Fresh w2 v->∀ b,v.ownBlock=some b->¬ b=bM:=fun v hF b hb e=>by have:=hF b hb;omega
   have aG:Mod8 ((((w3.setCell ⟨bM,0,none⟩ (.slice s n y)).setCell ⟨bM,1,none⟩ (.int .u64 (K':Int))).setCell ⟨bM,2,none⟩ (.slice t n z))) o1 s t n n K' y z P aq:=⟨iS s9 O (s1.kept kp (F _ s9)),iS aA O (s2.kept kp (F _ aA)),s3,s4,s5,s6⟩
   have aC:MonAt ((((w3.setCell ⟨bM,0,none⟩ (.slice s n y)).setCell ⟨bM,1,none⟩ (.int .u64 (K':Int))).setCell ⟨bM,2,none⟩ (.slice t n z))) (.slice R n Q) n (val P) 0:=⟨by rw [AI,ni];exact s7.kept kp (F _ ar),s8.kept kp (F _ ar)⟩
   have k4:=(A.out.kept.mono (T:=fun b=>b=bM\/cN o b) (fun _ _ f=>.inr f)).next kp (fun x _ e=>.inl e)
   have aE:Fresh w (.slice R n Q):=fun b hb=>aR j.out.size (ar b hb)
   have ac:=au.out _ _ o1 s t R n K' y z Q P aq 0 d4 p aG aC aE k4 hL3.2;have aY:Hid (∀ W m o',Did ((((w3.setCell ⟨bM,0,none⟩ (.slice s n y)).setCell ⟨bM,1,none⟩ (.int .u64 (K':Int))).setCell ⟨bM,2,none⟩ (.slice t n z))) o1 m W o'->Box W bO (.slice none 0 0) 23/\Box W bX (.int .i64 0) 32):=fun W m o' d=>by
    obtain ⟨B,H⟩:=JO.out _ _ _ A.out;exact ⟨(B.kept kp (by omega)).did d p.1 (by decide) (by decide),(H.kept kp (by omega)).did d p.1 (by decide) (by decide)⟩
   have a6:((((w3.setCell ⟨bM,0,none⟩ (.slice s n y)).setCell ⟨bM,1,none⟩ (.int .u64 (K':Int))).setCell ⟨bM,2,none⟩ (.slice t n z))).cell? ⟨bF,0,none⟩=some (.func (.func f) #[] C):=aQ.out _ kp _ A.out;have aO:=aa d4;have aW:Hid (w.heap.size<=((((w3.setCell ⟨bM,0,none⟩ (.slice s n y)).setCell ⟨bM,1,none⟩ (.int .u64 (K':Int))).setCell ⟨bM,2,none⟩ (.slice t n z))).heap.size):=k4.size;clear aJ s1 s2 s3 s4 s5 s6 s7 s8 s9 aA ar k3 kp ag ah d4 p aG aC k4 aE F O al;go_wp2_with fail;generalize ((((w3.setCell ⟨bM,0,none⟩ (.slice s n y)).setCell ⟨bM,1,none⟩ (.int .u64 (K':Int))).setCell ⟨bM,2,none⟩ (.slice t n z)))=w4 at *;refine ac.mono ?_
   rintro e w5 ⟨vo,vn,vc,rfl,_,o5,d5⟩;have I:=mh 1 (by omega) w5;clear ac;go_wp2_with fail;refine I.mono ?_;rintro e w6 ⟨rfl,rfl⟩;obtain ⟨B,H⟩:=aY.out _ _ _ d5;exact ⟨rfl,.inr ⟨1,.inl ⟨by first | rfl | trivial,rfl⟩,rfl,_,o5,⟨aO.out.trans d5,by have:=mK (n:=n);simp only [bw,aZ] at this ⊢;omega,H,B,aR aW.out d5.size⟩⟩⟩
  ·have av:Hid (∀ W,Calls prog 258 #[.agg #[.slice ao n g,.int .u64 (K:Int),.slice bo l i],.slice eo L q] W fun e w'=>e=.returned (.bool false)/\Kept af W w'):=fun W=>by
    have:=HL W
    rwa [cP hL3] at this
   clear ht hm hr hx Z ab U hK ak hT hM hA hB hF hO hX S hG hE ad HL N;go_enter func257,ntmps257;go_wp2_with fail;refine D.mono ?_;rintro e w1 ⟨v1,rfl,⟨Y,I,_⟩,_,o1,d1⟩;obtain ⟨zo,zn,zc,rfl,_,_,_,_,_⟩:=I.open;obtain ⟨q0,q1,q2,q3⟩:=JC.out _ _ _ d1;obtain ⟨r0,r1,r2⟩:=aw (JM.out _ _ _ d1);have M:=aa d1;clear D c0 c1 c2 c3 p0 p1 p2 d1 I;go_wp2_with fail;refine (av.out w1).mono ?_;rintro e w2 ⟨rfl,k2⟩;have j:=aa (M.out.grew k2);have I:=mh 1 (by omega) w2;clear k2 q0 q1 q2 q3 r0 r1 r2;go_wp2_with fail;refine I.mono ?_;rintro e w3 ⟨rfl,rfl⟩;obtain ⟨B,H⟩:=JO.out _ _ _ j.out
   exact ⟨rfl,.inr ⟨1,.inl ⟨by first | rfl | trivial,rfl⟩,rfl,_,o1,⟨kM h0 j.out,by have:=mK (n:=n);simp only [bw];omega,H,B,j.out.size⟩⟩⟩

end Go.Proofs.YtkaojflnghfmcaaGreatDoor
