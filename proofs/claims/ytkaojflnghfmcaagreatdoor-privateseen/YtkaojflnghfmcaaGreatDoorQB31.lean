/- Put together of: Kex8 Kex9 Prw7. -/
import Derived.Test.YtkaojflnghfmcaaGreatDoorQB30

namespace Go.Proofs.YtkaojflnghfmcaaGreatDoor
set_option maxRecDepth 100000
set_option maxHeartbeats 4000000
open Go.RowKit

theorem kOf (ao bo:Option Addr) (L M c g:Nat) (xs ys:List Nat) (P Q e:Nat) (w:World) (hP:P=val xs) (hQ:Q=val ys) (hu:Row .u64 w (.slice ao L c) xs) (hv:Row .u64 w (.slice bo M g) ys) (h:Digs xs) (j:Digs ys) (hL:L≤1000) (hM:M≤1000) :
  Calls Tryz.prog 106 #[.slice ao L c,.slice bo M g,.int .u64 (e:Nat)] w fun r w'=>∃ kv E,r=.returned (.tuple #[.agg kv,.int .i64 ((E:Nat):Int)])∧((E=0∧ej L M P Q e∧KeyAt w' P Q e kv)∨(E=190∧¬ ej L M P Q e∧kv=zeroKey))∧gI w.heap.size kv∧Kept ae w w':=by
 have am:=dM;have he:∀ args w,(callFunc 154 args).run Tryz.prog w=.ok (.enter 154 args) w:=fun _ _=>by simp [go_sem]
 have V:=oZ w (.slice ao L c) (.slice bo M g) (.int .u64 (e:Nat)) 23 23 24;obtain ⟨W0,J⟩:∃ W0,W0=((w.alloc (.cells #[.slice ao L c] 23)).alloc (.cells #[.slice bo M g] 23)).alloc (.cells #[.int .u64 (e:Nat)] 24):=⟨_,rfl⟩
 rw [← J] at V;obtain ⟨k0,x1,x2,x3,hs⟩:=V;obtain ⟨W,hW⟩:∃ W,W=W0.alloc (.cells zeroKey 26):=⟨_,rfl⟩
 have kW:Kept ae W0 W:=by rw [hW];exact (ag ae W0).alloc _
 have N:W.heap.size=W0.heap.size+1:=by rw [hW];simp
 have bK:W.heap[W0.heap.size]? = some (.cells zeroKey 26 (0,0)):=by rw [hW];exact heap_alloc_new _ _
 rw [hs] at bK N;have kE:=(ag ae W).alloc (.cells #[.int .i64 0] 32);have xe:Box (W.alloc (.cells #[.int .i64 0] 32)) W.heap.size (.int .i64 0) 32:=Box.new W (.int .i64 0) 32;have Z:(W.alloc (.cells #[.int .i64 0] 32)).heap.size=W.heap.size+1:=by simp
 have k1:Kept ae w (W.alloc (.cells #[.int .i64 0] 32)):=(k0.trans kW).trans kE;have o:(W.alloc (.cells #[.int .i64 0] 32)).heap[w.heap.size+1+1+1]? = some (.cells zeroKey 26 (0,0)):=ak bK;have c0:=((x1.grew kW).grew kE).cell;have c1:=((x2.grew kW).grew kE).cell;have c2:=((x3.grew kW).grew kE).cell;have k:Calls Tryz.prog 154 #[.pointer (some ⟨w.heap.size,0,none⟩),.pointer (some ⟨w.heap.size+1,0,none⟩),.pointer (some ⟨w.heap.size+1+1,0,none⟩),.pointer (some ⟨w.heap.size+1+1+1,0,none⟩)] (W.alloc (.cells #[.int .i64 0] 32)) fun r w'=>OfEnd L M P Q e W.heap.size (w.heap.size+1+1+1) w (W.alloc (.cells #[.int .i64 0] 32)) r w':=by
  by_cases hA:L≤300∧cE P
  ·by_cases hB:M≤300∧cE Q
   ·by_cases hC:fu (bd P Q) e=0
    ·by_cases hD:Nat.gcd Q P=1
     ·by_cases hE:Nat.gcd (fE P Q) e=1
      ·exact BT _ _ _ _ ao bo L M c g xs ys P Q e _ hP hQ hA hB hC hD hE _ _ (hu.grew k1) (hv.grew k1) h j c0 c1 c2 k1 (by omega) Z o
      ·exact BS _ _ _ _ ao bo L M c g xs ys P Q e _ hP hQ hA hB hC hD hE _ _ (hu.grew k1) (hv.grew k1) h j c0 c1 c2
     ·exact BR _ _ _ _ ao bo L M c g xs ys P Q e _ hP hQ hA hB hC hD _ _ (hu.grew k1) (hv.grew k1) h j c0 c1 c2
    ·exact BQ _ _ _ _ ao bo L M c g xs ys P Q e _ hP hQ hA hB hC _ _ (hu.grew k1) (hv.grew k1) h j c0 c1 c2
   ·exact BP _ _ _ _ ao bo L M c g xs ys P Q e _ hP hQ hM hA hB _ _ (hu.grew k1) (hv.grew k1) h j c0 c1
  ·exact BO _ _ _ _ ao bo L M c g xs P Q e _ hP hL hA _ _ (hu.grew k1) h c0 c1
 have T:=iQ 154 _ W (fun n W'=>(n=0∧ej L M P Q e∧∃ kv,W'.heap[w.heap.size+1+1+1]? = some (.cells kv 26 (0,0))∧KeyAt W' P Q e kv∧gI W.heap.size kv∧Kept ae w W')∨(n=190∧¬ ej L M P Q e∧W'.heap[w.heap.size+1+1+1]? = some (.cells zeroKey 26 (0,0))∧Kept ae w W')) he (k.mono (by
  rintro r w' (⟨C,rfl,kv,h1,h2,h3,h4,h5⟩ | ⟨B,rfl,h1⟩)
  ·exact ⟨xe.kept h4 (by omega),.inl ⟨rfl,.inl ⟨rfl,C,kv,h1,h2,h3,h5⟩⟩⟩
  ·exact ⟨xe.grew h1,.inr ⟨_,rfl,.inr ⟨rfl,B,(h1.block _ (lt_of_block o) (fun f=>f)).trans o,k1.trans h1⟩⟩⟩))
 have aj:=aa J;have HW:=aa hW;have i:=aa N;have ai:=aa hs;clear hu hv h j hP hQ hL hM k0 kW kE k1 x1 x2 x3 xe hs Z J hW N bK o c0 c1 c2 he k;unfold zeroKey at HW;go_enter Tryz.func106,Tryz.ntmps106;go_wp2_with (first | rw [← aj.out] | rw [← HW.out]);rw [ai.out];refine T.mono ?_;rintro r w' ⟨n,w1,rfl,⟨hq,U⟩,rfl⟩;clear T;rcases hq with ⟨rfl,C,kv,hx,A,hfar,hk⟩ | ⟨rfl,B,hx,hk⟩
 ·obtain ⟨vn,vd,vp,vq,an,ap,aq,d,u,rfl,rn,X,Y,rd,rp,rq,O,R,ab,ac,S⟩:=A;obtain ⟨no,nl,nc,rfl,-,-,-,-,-⟩:=rn.open;obtain ⟨dO,dl,dc,rfl,-,-,-,-,-⟩:=rd.open;obtain ⟨po,pl,pc,rfl,-,-,-,-,-⟩:=rp.open;obtain ⟨qo,ql,qc,rfl,-,-,-,-,-⟩:=rq.open;obtain ⟨s,q,p,rfl,-,-,-,-,-⟩:=O.open;obtain ⟨z,y,t,rfl,-,-,-,-,-⟩:=R.open;obtain ⟨G,F,D,rfl,-,-,-,-,-⟩:=S.open;have A:KeyAt w1 P Q e #[.slice no nl nc,.int .u64 (e:Nat),.slice dO dl dc,.slice po pl pc,.slice qo ql qc,.slice s q p,.slice z y t,.slice G F D]:=⟨_,_,_,_,_,_,_,d,u,rfl,rn,X,Y,rd,rp,rq,O,R,ab,ac,S⟩
  have kb:=aw w1 W.heap.size (.int .i64 0);have l:=A.kept kb (fun v hv x hx al=>by have:=hfar v hv x hx;omega);have b:=dj hx (a:=⟨W.heap.size,0,none⟩) (by show _≠W.heap.size;have:=i.out;omega) (.int .i64 0);have m:=hk.next kb (fun x hx e=>by have:=i.out;omega)
  obtain ⟨z1,z2,z3⟩:=jT m (by omega:w.heap.size≤w.heap.size+1+1+1) b (.slice no nl nc) (.int .u64 (e:Nat)) (.slice dO dl dc) (.slice po pl pc) (.slice qo ql qc) (.slice s q p) (.slice z y t) (.slice G F D);unfold jF at z1 z2 z3;have ad:=aa (l.kept z3 (fun v hv x hx al=>by have h1:=hfar v hv x hx;have h2:=i.out;omega));have H:Hid (gI w.heap.size #[.slice no nl nc,.int .u64 (e:Nat),.slice dO dl dc,.slice po pl pc,.slice qo ql qc,.slice s q p,.slice z y t,.slice G F D]):=fun v hv x hx=>by have h1:=hfar v hv x hx;have h2:=i.out;omega
  have I:=aa z2;obtain ⟨r0,r1,r2,r3,r4,r5,r6,r7⟩:=aJ z1;obtain ⟨c0,c1,c2,c3,c4,c5,c6,c7⟩:=aJ b;have f0:=a8 b 0;have f1:=a8 b 1;have f2:=a8 b 2;have f3:=a8 b 3;have f4:=a8 b 4;have f5:=a8 b 5;have f6:=a8 b 6;have f7:=a8 b 7;have ah:=aa C;clear rn rd rp rq O R S A kb l hx hk m hfar b z1 z2 z3 U C X Y ab ac;generalize w1.setCell ⟨W.heap.size,0,none⟩ (.int .i64 0)=W2 at *;go_wp2_with fail
  exact bodyPost_ret (v:=.tuple #[.agg #[.slice no nl nc,.int .u64 (e:Nat),.slice dO dl dc,.slice po pl pc,.slice qo ql qc,.slice s q p,.slice z y t,.slice G F D],.int .i64 0]) (by simp [results,Tryz.results106,go_sem,r0,r1,r2,r3,r4,r5,r6,r7]) rfl ⟨_,0,rfl,.inl ⟨rfl,ah.out,ad.out⟩,H.out,I.out⟩
 ·have kb:=aw w1 W.heap.size (.int .i64 190);have b:=dj hx (a:=⟨W.heap.size,0,none⟩) (by show _≠W.heap.size;have:=i.out;omega) (.int .i64 190);have m:=hk.next kb (fun x hx e=>by have:=i.out;omega)
  obtain ⟨z1,z2,-⟩:=jT m (by omega:w.heap.size≤w.heap.size+1+1+1) b (.slice none 0 0) (.int .u64 0) (.slice none 0 0) (.slice none 0 0) (.slice none 0 0) (.slice none 0 0) (.slice none 0 0) (.slice none 0 0);unfold jF at z1 z2;have I:=aa z2;obtain ⟨r0,r1,r2,r3,r4,r5,r6,r7⟩:=aJ z1;obtain ⟨c0,c1,c2,c3,c4,c5,c6,c7⟩:=aJ b;have f0:=a8 b 0;have f1:=a8 b 1;have f2:=a8 b 2;have f3:=a8 b 3;have f4:=a8 b 4;have f5:=a8 b 5;have f6:=a8 b 6;have f7:=a8 b 7;have af:=aa B;clear kb hx hk m b z1 z2 U B;generalize w1.setCell ⟨W.heap.size,0,none⟩ (.int .i64 190)=W2 at *;go_wp2_with fail
  exact bodyPost_ret (v:=.tuple #[.agg zeroKey,.int .i64 190]) (by simp [results,Tryz.results106,go_sem,r0,r1,r2,r3,r4,r5,r6,r7]) rfl ⟨_,190,rfl,.inr ⟨rfl,af.out,rfl⟩,oV _,I.out⟩

theorem Ag (b n:Nat) (hn:n≤1000) (A A':Nat→Option Addr) (F G F' G':Nat→Nat) (X Y:Nat→List Nat) (w:World)
  (hc:∀ i,i<n→w.cell? ⟨b,i*2,none⟩=some (.slice (A i) (F i) (G i))∧w.cell? ⟨b,i*2+1,none⟩=some (.slice (A' i) (F' i) (G' i)))
  (hr:∀ i,i<n→Row .u64 w (.slice (A i) (F i) (G i)) (X i)∧Row .u64 w (.slice (A' i) (F' i) (G' i)) (Y i)∧Digs (X i)∧Digs (Y i)∧(Y i).length≤1000) (R:Bool) (hR:R=true↔∀ i,i<n→X i=Y i) :
  Calls Tryz.prog 108 #[.slice (some ⟨b,0,none⟩) n n] w fun e w'=>e=.returned (.bool R)∧Kept ae w w':=by
 have HC:=aa hc;have HR:=aa hr;have C:=aa hR;clear hc hr hR;go_enter Tryz.func108,Tryz.ntmps108;go_wp2_with fail;go_loopw [7] (fun i wr=>∃ k:Nat,k≤n∧i=.int .i64 (k:Int)∧Hid (∀ j,j<k→X j=Y j)∧Hid (Kept ae w wr)) (fun i _=>((n:Int)-intOf i).toNat)
 case atStart=>exact ⟨0,Nat.zero_le _,rfl,fun j hj=>by omega,ag _ _⟩
 case round=>
  obtain ⟨k,hk,rfl,l,HK⟩:=hrel;by_cases hkn:k<n
  ·have E:(k:Int)<(n:Int):=by omega
   obtain ⟨q0,q1⟩:=HC.out k hkn;have p0:=HK.out.cellN q0;have p1:=HK.out.cellN q1;obtain ⟨rx,ry,dx,dy,y⟩:=HR.out k hkn;have rx:=rx.grew HK.out;have ry:=ry.grew HK.out;obtain ⟨xs,d⟩:∃ xs,xs=X k:=⟨_,rfl⟩
   obtain ⟨ys,f⟩:∃ ys,ys=Y k:=⟨_,rfl⟩
   obtain ⟨ao,q⟩:∃ ao,ao=A k:=⟨_,rfl⟩
   obtain ⟨bo,r⟩:∃ bo,bo=A' k:=⟨_,rfl⟩
   obtain ⟨la,v⟩:∃ la,la=F k:=⟨_,rfl⟩
   obtain ⟨ca,s⟩:∃ ca,ca=G k:=⟨_,rfl⟩
   obtain ⟨lb,x⟩:∃ lb,lb=F' k:=⟨_,rfl⟩
   obtain ⟨cb,t⟩:∃ cb,cb=G' k:=⟨_,rfl⟩
   rw [← q,← v,← s] at p0 rx;rw [← r,← x,← t] at p1 ry;rw [← d] at rx dx;rw [← f] at ry dy y;have p:Hid (xs=ys→∀ j,j<k+1→X j=Y j):=fun h j hj=>by
    by_cases e:j=k
    ·subst e;rw [← d,← f];exact h
    ·exact l.out j (by omega)
   have g:Hid (xs≠ys→R=false):=fun h=>by
    cases e:R with
    | false=>rfl
    | true=>exact absurd (by rw [d,f];exact C.out.1 e k hkn) h
   obtain ⟨_,_,_,e1,c,-,-,-,-⟩:=rx.open;cases e1
   obtain ⟨_,_,_,e1,a,-,-,-,-⟩:=ry.open;cases e1
   obtain ⟨W,hW⟩:∃ W,W=wr.alloc (.cells #[.slice ao la ca,.slice bo lb cb] 154):=⟨_,rfl⟩
   have kW:Kept ae wr W:=by rw [hW];exact (ag ae wr).alloc _
   have hb:W.heap[wr.heap.size]? = some (.cells #[.slice ao la ca,.slice bo lb cb] 154 (0,0)):=by rw [hW];exact heap_alloc_new _ _
   have s0:W.cell? ⟨wr.heap.size,0,none⟩=some (.slice ao la ca):=(cell_of_row W _ 0 _ _ _ hb).trans rfl;have s1:W.cell? ⟨wr.heap.size,1,none⟩=some (.slice bo lb cb):=(cell_of_row W _ 1 _ _ _ hb).trans rfl;have HW:=aa hW;have B:=aa (HK.out.trans kW);have m:=aa c.out;have o:=aa a.out;by_cases hlen:la=lb
   ·have J:=xH _ _ xs ys W (rx.grew kW) (ry.grew kW) dx dy (by rw [c.out,hlen,← a.out];omega) (by omega);have g0:¬ (la:Int)≠(lb:Int):=by omega
    have g1:(la:Int)=(lb:Int):=by omega
    have g2:((la:Int) != (lb:Int))=false:=by simpa using g1
    by_cases hv:val xs=val ys
    ·have D:xs=ys:=by
      have i1:xs=digs (val xs) la:=aO (by omega) dx c.out (by rw [ar];rw [← c.out];exact aD (by omega) dx);have i2:ys=digs (val ys) la:=aO (by omega) dy (by rw [a.out,hlen]) (by rw [ar];rw [hlen,← a.out];exact aD (by omega) dy);rw [i1,i2,hv]
     have HT:=aa (p.out D);rw [bw hv] at J;have J':Calls Tryz.prog 93 #[.pointer none,.slice ao la ca,.slice bo lb cb] W fun e w'=>e=.returned (.int .u64 1)∧Kept ae W w':=J
     clear rx ry dx dy y hW kW hb c a hv J q0 q1 d f q r v s x t p g m o D hlen;go_wp2_with (rw [← HW.out]);refine J'.mono ?_;rintro e w5 ⟨rfl,k5⟩;have z:=aa (B.out.trans k5);clear J' k5 g0 g1 g2;go_wp2_with fail;go_roundw
     case rel=>exact ⟨k+1,by omega,by go_num,HT.out,z.out⟩
     case measure=>simp [intOf];omega
    ·have HF:=aa (g.out (fun h=>hv (by rw [h])));rw [aW hv] at J;have J':Calls Tryz.prog 93 #[.pointer none,.slice ao la ca,.slice bo lb cb] W fun e w'=>e=.returned (.int .u64 0)∧Kept ae W w':=J
     clear rx ry dx dy y hW kW hb c a hv J q0 q1 d f q r v s x t p g m o hlen;go_wp2_with (rw [← HW.out]);refine J'.mono ?_;rintro e w5 ⟨rfl,k5⟩;have z:=aa (B.out.trans k5);clear J' k5 g0 g1 g2;go_wp2_with fail;go_ret;exact ⟨by rw [HF.out];rfl,z.out⟩
   ·have HF:=aa (g.out (fun h=>hlen (by rw [← m.out,← o.out,h])));have g1:¬ (la:Int)=(lb:Int):=by omega
    have g2:((la:Int) != (lb:Int))=true:=by simp;omega
    clear rx ry dx dy y hW kW hb c a q0 q1 d f q r v s x t p g m o hlen;go_wp2_with (rw [← HW.out]);go_ret;exact ⟨by rw [HF.out];rfl,B.out⟩
  ·have E:¬ (k:Int)<(n:Int):=by omega
   have e:k=n:=by omega
   subst e;have HT:Hid (R=true):=C.out.2 l.out;go_wp2_with fail;go_ret;exact ⟨by rw [HT.out];rfl,HK.out⟩

theorem BL (b:Nat) (s:KS) (l:KL) (E:Nat) (hE:(E=0∧KeyGood l.n l.d l.p l.q l.dp l.dq l.qi s.en)∨(E=190∧¬ KeyGood l.n l.d l.p l.q l.dp l.dq l.qi s.en)) (O:s.pl≤1000) (P:s.ql≤1000) (w:World) (hr:s.Rows w l) (hd:l.Digs) (hx:w.heap[b]? = some (.cells s.v 26 (0,0))) :
  Calls Tryz.prog 104 #[.pointer (some ⟨b,0,none⟩)] w fun r w'=>AttE E r∧Kept ae w w':=by
 obtain ⟨_,_,_,e1,I,-,-,-,-⟩:=hr.p.open;cases e1
 obtain ⟨_,_,_,e1,J,-,-,-,-⟩:=hr.q.open;cases e1
 have hO:=(kOf s.po s.qo s.pl s.ql s.pc s.qc l.p l.q _ _ s.en w rfl rfl hr.p hr.q hd.p hd.q O P).mono fun _ _ h=>Du h
 have JC:Hid (∀ W,Kept ae w W→W.cell? ⟨b,0,none⟩=some (.slice s.no s.nl s.nc)∧W.cell? ⟨b,1,none⟩=some (.int .u64 ((s.en:Nat):Int))∧W.cell? ⟨b,2,none⟩=some (.slice s.dO s.dl s.dc)∧W.cell? ⟨b,3,none⟩=some (.slice s.po s.pl s.pc)∧W.cell? ⟨b,4,none⟩=some (.slice s.qo s.ql s.qc)∧W.cell? ⟨b,5,none⟩=some (.slice s.dpo s.dpl s.dpc)∧W.cell? ⟨b,6,none⟩=some (.slice s.dqo s.dql s.dqc)∧W.cell? ⟨b,7,none⟩=some (.slice s.qio s.qil s.qic)):=fun W k=>aJ ((k.block _ (lt_of_block hx) (fun f=>f)).trans hx)
 obtain ⟨c0,c1,c2,c3,c4,c5,c6,c7⟩:=JC.out w (ag _ _);have hG:∀ (E2 en:Nat) (m:KL),KeySays s.pl s.ql (val l.p) (val l.q) s.en E2 en m→(KeyGood l.n l.d l.p l.q l.dp l.dq l.qi s.en↔E2=0∧l=m):=fun E2 en m hs=>by
  constructor
  ·rintro ⟨c,d,u,a⟩;rw [I.out,J.out] at c;have h0:KeySays s.pl s.ql (val l.p) (val l.q) s.en 0 s.en l:=.inl ⟨rfl,c,rfl,d,u,a⟩;obtain ⟨h1,_,h2⟩:=hs.uniq h0;exact ⟨h1.symm,h2⟩
  ·rintro ⟨rfl,rfl⟩;rcases hs with ⟨_,c,rfl,d,u,a⟩ | ⟨h,_⟩
   ·exact ⟨by rw [I.out,J.out];exact c,d,u,a⟩
   ·exact absurd h (by decide)
 have HG:=aa hG;have HE:=aa hE;have HR:=aa hr;have HD:=aa hd;clear hr hd hx hE I J hG O P;go_enter Tryz.func104,Tryz.ntmps104;go_wp2_with fail;refine hO.mono ?_;rintro r w1 ⟨t,E2,rfl,m,Q,S,_,k1⟩;have x:=aa S;have F:=aa Q;have A:=aa k1;clear hO c0 c1 c2 c3 c4 c5 c6 c7 Q k1;unfold KS.v;rcases S with ⟨rfl,-,-,d,u,a⟩ | ⟨rfl,hno,-,-⟩
 ·have M:Hid (m.n.length≤1000∧m.d.length≤1000∧m.p.length≤1000∧m.q.length≤1000∧m.dp.length≤1000∧m.dq.length≤1000∧m.qi.length≤1000):=by
   obtain ⟨c⟩:Nonempty (ej s.pl s.ql (val l.p) (val l.q) s.en):=by
    rcases x.out with ⟨_,h,_⟩ | ⟨h,_⟩
    ·exact ⟨h⟩
    ·exact absurd h (by decide)
   obtain ⟨_,_,_,_,a1,a2,a3,a4,a5,a6,a7⟩:=a;have Y:ah (val l.p)≤128:=aV (n:=128) (by have:=c.2.1.2.2;omega);have Z:ah (val l.q)≤128:=aV (n:=128) (by have:=c.2.2.1.2.2;omega);have T:(bd (val l.p) (val l.q)).length≤1000:=by
    have h:=c.2.2.2.2.1;unfold fu at h;by_cases hc:1000<(bd (val l.p) (val l.q)).length
    ·rw [if_pos (.inr (.inl hc))] at h;exact absurd h (by decide)
    ·omega
   rw [a1,a2,a3,a4,a5,a6,a7];simp only [af];refine ⟨T,T,?_,?_,?_,?_,?_⟩ <;> exact Nat.max_le.2 ⟨by omega,by omega⟩
  have J2:=Ar t.no t.dO t.po t.qo t.dpo t.dqo t.qio t.nl t.nc t.en t.dl t.dc t.pl t.pc t.ql t.qc t.dpl t.dpc t.dql t.dqc t.qil t.qic w1;clear a;go_wp2_with fail;refine J2.mono ?_;rintro r w2 ⟨rfl,k2⟩;obtain ⟨W,hW⟩:∃ W,W=w2.alloc (.cells t.v 26):=⟨_,rfl⟩
  have kW:Kept ae w2 W:=by rw [hW];exact (ag ae w2).alloc _
  have U:W.heap[w2.heap.size]? = some (.cells t.v 26 (0,0)):=by rw [hW];exact heap_alloc_new _ _
  obtain ⟨d0,d1,d2,d3,d4,d5,d6,d7⟩:=aJ U;obtain ⟨c0,c1,c2,c3,c4,c5,c6,c7⟩:=JC.out W ((A.out.trans k2).trans kW);obtain ⟨V,hV⟩:∃ V,V=W.alloc (.cells #[.slice s.no s.nl s.nc,.slice t.no t.nl t.nc,.slice s.dO s.dl s.dc,.slice t.dO t.dl t.dc,.slice s.po s.pl s.pc,.slice t.po t.pl t.pc,.slice s.qo s.ql s.qc,.slice t.qo t.ql t.qc,.slice s.dpo s.dpl s.dpc,.slice t.dpo t.dpl t.dpc,.slice s.dqo s.dql s.dqc,.slice t.dqo t.dql t.dqc,.slice s.qio s.qil s.qic,.slice t.qio t.qil t.qic] 154):=⟨_,rfl⟩
  have kV:Kept ae W V:=by rw [hV];exact (ag ae W).alloc _
  have C:=heap_alloc_new W (.cells #[.slice s.no s.nl s.nc,.slice t.no t.nl t.nc,.slice s.dO s.dl s.dc,.slice t.dO t.dl t.dc,.slice s.po s.pl s.pc,.slice t.po t.pl t.pc,.slice s.qo s.ql s.qc,.slice t.qo t.ql t.qc,.slice s.dpo s.dpl s.dpc,.slice t.dpo t.dpl t.dpc,.slice s.dqo s.dql s.dqc,.slice t.dqo t.dql t.dqc,.slice s.qio s.qil s.qic,.slice t.qio t.qil t.qic] 154);rw [← hV] at C;have D:=aa (((A.out.trans k2).trans kW).trans kV);have X:=(k2.trans kW).trans kV;have g:=HR.out.grew D.out;have o:=F.out.grew X;have j:=x.out.digs;have e:=HD.out;obtain ⟨h1,h2,h3,h4,h5,h6,h7⟩:=M.out;obtain ⟨R,hR⟩:∃ R:Bool,(R=true↔l=m):=by
   by_cases h:l=m
   ·exact ⟨true,iff_of_true rfl h⟩
   ·exact ⟨false,iff_of_false (by decide) h⟩
  have JA:=Ag W.heap.size 7 (by omega) (fun i=>[s.no,s.dO,s.po,s.qo,s.dpo,s.dqo,s.qio].getD i none) (fun i=>[t.no,t.dO,t.po,t.qo,t.dpo,t.dqo,t.qio].getD i none) (fun i=>[s.nl,s.dl,s.pl,s.ql,s.dpl,s.dql,s.qil].getD i 0) (fun i=>[s.nc,s.dc,s.pc,s.qc,s.dpc,s.dqc,s.qic].getD i 0) (fun i=>[t.nl,t.dl,t.pl,t.ql,t.dpl,t.dql,t.qil].getD i 0) (fun i=>[t.nc,t.dc,t.pc,t.qc,t.dpc,t.dqc,t.qic].getD i 0) (fun i=>[l.n,l.d,l.p,l.q,l.dp,l.dq,l.qi].getD i []) (fun i=>[m.n,m.d,m.p,m.q,m.dp,m.dq,m.qi].getD i []) V
   (fun i hi=>by
    have:i=0∨i=1∨i=2∨i=3∨i=4∨i=5∨i=6:=by omega
    rcases this with rfl | rfl | rfl | rfl | rfl | rfl | rfl <;> exact ⟨(cell_of_row V _ _ _ _ _ C).trans rfl,(cell_of_row V _ _ _ _ _ C).trans rfl⟩)
   (fun i hi=>by
    have:i=0∨i=1∨i=2∨i=3∨i=4∨i=5∨i=6:=by omega
    rcases this with rfl | rfl | rfl | rfl | rfl | rfl | rfl
    ·exact ⟨g.n,o.n,e.n,j.n,h1⟩
    ·exact ⟨g.d,o.d,e.d,j.d,h2⟩
    ·exact ⟨g.p,o.p,e.p,j.p,h3⟩
    ·exact ⟨g.q,o.q,e.q,j.q,h4⟩
    ·exact ⟨g.dp,o.dp,e.dp,j.dp,h5⟩
    ·exact ⟨g.dq,o.dq,e.dq,j.dq,h6⟩
    ·exact ⟨g.qi,o.qi,e.qi,j.qi,h7⟩) R (hR.trans ⟨fun h i hi=>by rw [h],fun h=>by
     have g0:l.n=m.n:=h 0 (by omega);have g1:l.d=m.d:=h 1 (by omega);have g2:l.p=m.p:=h 2 (by omega);have g3:l.q=m.q:=h 3 (by omega);have g4:l.dp=m.dp:=h 4 (by omega);have g5:l.dq=m.dq:=h 5 (by omega);have g6:l.qi=m.qi:=h 6 (by omega);cases l
     cases m
     simp only at g0 g1 g2 g3 g4 g5 g6;subst g0 g1 g2 g3 g4 g5 g6;rfl⟩)
  have z:=aa ((HG.out 0 _ m x.out).trans ⟨fun h=>h.2,fun h=>⟨rfl,h⟩⟩);have B:=aa hR;have G:=aa hW;have N:=aa hV;clear J2 k2 hW kW U hV kV C X g o j e h1 h2 h3 h4 h5 h6 h7 hR HR F HD HG x M A JC;unfold KS.v at G;go_wp2_with (first | rw [← G.out] | rw [← N.out]);refine JA.mono ?_;rintro r w4 ⟨rfl,k4⟩;have L:=aa (D.out.trans k4);clear JA k4 D d0 d1 d2 d3 d4 d5 d6 d7 c0 c1 c2 c3 c4 c5 c6 c7 G N;cases R with
  | true=>
   have H:=aY 190 w4;have y:Hid (E=0):=by
    rcases HE.out with ⟨h,_⟩ | ⟨_,h⟩
    ·exact h
    ·exact absurd (z.out.2 (B.out.1 rfl)) h
   clear HE z B;go_wp2_with fail;refine H.mono ?_;rintro r w5 ⟨rfl,rfl⟩;go_wp2;go_end0
   rw [y.out];exact ⟨.ok,L.out⟩
  | false=>
   have H:=bu 190 w4;have y:Hid (E=190):=by
    rcases HE.out with ⟨_,h⟩ | ⟨h,_⟩
    ·exact absurd (B.out.2 (z.out.1 h)) (by decide)
    ·exact h
   clear HE z B;go_wp2_with fail;refine H.mono ?_;rintro r w5 ⟨rfl,rfl⟩;exact ⟨rfl,by rw [y.out];exact .no (by decide),L.out⟩
 ·have J2:=xE t.no t.dO t.po t.qo t.dpo t.dqo t.qio t.nl t.nc t.en t.dl t.dc t.pl t.pc t.ql t.qc t.dpl t.dpc t.dql t.dqc t.qil t.qic 190 (by decide) w1;have y:Hid (E=190):=by
   rcases HE.out with ⟨_,h⟩ | ⟨h,_⟩
   ·exact absurd ((HG.out 190 _ m x.out).1 h).1 (by decide)
   ·exact h
  clear HE HG HR F HD x JC hno;go_wp2_with fail;refine J2.mono ?_;rintro r w2 ⟨rfl,k2⟩;exact ⟨rfl,by rw [y.out];exact .no (by decide),A.out.trans k2⟩

theorem xz (s:KS) (l:KL) (E:Nat) (hE:(E=0∧KeyGood l.n l.d l.p l.q l.dp l.dq l.qi s.en)∨(E=190∧¬ KeyGood l.n l.d l.p l.q l.dp l.dq l.qi s.en)) (a:s.pl≤1000) (b:s.ql≤1000) (w:World) (hr:s.Rows w l) (hd:l.Digs) :
  Calls Tryz.prog 61 #[.agg s.v] w fun r w'=>r=.returned (.int .i64 (E:Nat))∧Kept ae w w':=by
 have f:=dM;have he:∀ args w,(callFunc 104 args).run Tryz.prog w=.ok (.enter 104 args) w:=fun _ _=>by simp [go_sem]
 obtain ⟨W,hW⟩:∃ W,W=w.alloc (.cells s.v 26):=⟨_,rfl⟩
 have k0:Kept ae w W:=by rw [hW];exact (ag ae w).alloc _
 have hx:W.heap[w.heap.size]? = some (.cells s.v 26 (0,0)):=by rw [hW];exact heap_alloc_new _ _
 have kE:=(ag ae W).alloc (.cells #[.int .i64 0] 32);have hA:=lQ 104 #[.pointer (some ⟨w.heap.size,0,none⟩)] W E he (BL w.heap.size s l E hE a b _ (hr.grew (k0.trans kE)) hd (ak hx));have HW:=aa hW;have c:=aa k0;clear hE a b hr hd hW k0 hx kE he;unfold KS.v at HW ⊢;go_enter Tryz.func61,Tryz.ntmps61;go_wp2_with (rw [← HW.out]);refine hA.mono ?_;rintro r w1 ⟨rfl,k1⟩;have e:=aa (c.out.trans k1);clear hA k1;go_wp2;go_ret;exact ⟨rfl,e.out⟩

theorem qL:zR:=by
 intro p B bs ns ao L o r1 r2 r3 r4 w A h hB C D hu F y;have S:=dM;have G:∀ args w,(callFunc 41 args).run Tryz.prog w=.ok (.enter 41 args) w:=fun _ _=>by simp [go_sem]
 have E:=mw w (.pointer p) (.slice ao L o) (.slice none 0 0) (.int .i64 0) 39 23 23 3;obtain ⟨W,hW⟩:∃ W,W=(((w.alloc (.cells #[.pointer p] 39)).alloc (.cells #[.slice ao L o] 23)).alloc (.cells #[.slice none 0 0] 23)).alloc (.cells #[.int .i64 0] 3):=⟨_,rfl⟩
 rw [← hW] at E;obtain ⟨k0,x1,x2,x3,x4,hs⟩:=E;have kE:=(ag ae W).alloc (.cells #[.int .i64 0] 32);have xe:Box (W.alloc (.cells #[.int .i64 0] 32)) W.heap.size (.int .i64 0) 32:=Box.new W (.int .i64 0) 32;have k1:=k0.trans kE;have a:∀ x,w.heap.size≤x→¬ ofP p x:=fun x hx f=>by have:=(h.inP f).2;omega
 have j:=AP p B bs ns ao L o (w.heap.size+1) w.heap.size (w.heap.size+1+1) (w.heap.size+1+1+1) r1 r2 r3 r4 _ A (h.grew k1) (Nat.le_trans hB k1.size) ⟨by omega,by omega⟩ C D (hu.grew k1) F y (x2.grew kE) (x1.grew kE) (x3.grew kE) (x4.grew kE) (by omega) (fun x f=>⟨fun e=>a _ (by omega) f,fun e=>a _ (by omega) f,fun e=>a _ (by omega) f,fun e=>a _ (by omega) f⟩);have s:=ia 41 _ W (fun c W'=>c=(r3:Nat)∧Kept (ofP p) w W'∧Lsc W' p B r4∧∃ v,Row .u64 W' v r1∧Hid (∀ x,v.ownBlock=some x→w.heap.size≤x∧x≠W.heap.size∧x≠w.heap.size+1+1∧x≠w.heap.size+1+1+1)∧Box W' (w.heap.size+1+1) v 23∧Box W' (w.heap.size+1+1+1) (.int .i64 (r2:Nat)) 3) G (j.mono (by
  rintro e w' (⟨h0,rfl,v,w1,hr,hf,i,kk,rfl⟩ | ⟨h0,rfl,q1,q2,i,kk⟩)
  ·have q:Box w1 W.heap.size (.int .i64 0) 32:=xe.kept kk (a _ (by omega));have O:=(x3.grew kE).kept kk (a _ (by omega));have P:=(x4.grew kE).kept kk (a _ (by omega));have r:∀ x,v.ownBlock=some x→w.heap.size≤x∧x≠W.heap.size∧x≠w.heap.size+1+1∧x≠w.heap.size+1+1+1:=fun x hx=>by
    have h1:=hf x hx;rw [World.size_alloc] at h1;omega
   have k:=(hr.kept (aw w1 (w.heap.size+1+1) v) (fun x hx e=>(r x hx).2.2.1 e)).kept (aw _ (w.heap.size+1+1+1) (.int .i64 (r2:Nat))) (fun x hx e=>(r x hx).2.2.2 e);have d:=O.set v;have g:=P.other ⟨w.heap.size+1+1,0,none⟩ (by show w.heap.size+1+1+1≠w.heap.size+1+1;omega) v;have M:=q.other ⟨w.heap.size+1+1,0,none⟩ (by show W.heap.size≠w.heap.size+1+1;omega) v;have m:=d.other ⟨w.heap.size+1+1+1,0,none⟩ (by show w.heap.size+1+1≠w.heap.size+1+1+1;omega) (.int .i64 (r2:Nat));have n:=g.set (.int .i64 (r2:Nat));have N:=M.other ⟨w.heap.size+1+1+1,0,none⟩ (by show W.heap.size≠w.heap.size+1+1+1;omega) (.int .i64 (r2:Nat))
   refine ⟨N,.inl ⟨rfl,by rw [h0];rfl,?_,?_,v,k,r,m,n⟩⟩
   ·exact ((k1.any.trans kk).next (aw w1 (w.heap.size+1+1) v) (fun x hx e=>by omega)).next (aw _ (w.heap.size+1+1+1) (.int .i64 (r2:Nat))) (fun x hx e=>by omega)
   ·exact (i.kept (aw w1 (w.heap.size+1+1) v) (fun x hx e=>by omega)).kept (aw _ (w.heap.size+1+1+1) (.int .i64 (r2:Nat))) (fun x hx e=>by omega)
  ·have q:Box w' W.heap.size (.int .i64 0) 32:=xe.kept kk (a _ (by omega));refine ⟨q,.inr ⟨_,rfl,rfl,k1.any.trans kk,i,.slice none 0 0,by rw [q1];exact Row.nil _ _,(fun x hx=>by cases hx),(x3.grew kE).kept kk (a _ (by omega)),?_⟩⟩;rw [q2];exact (x4.grew kE).kept kk (a _ (by omega))))
 have HW:=aa hW;have J:=aa hs;have HB:=aa hB;clear j hu F y C D h hB A hW k0 kE k1 x1 x2 x3 x4 xe G hs a;go_enter Tryz.func15,Tryz.ntmps15;go_wp2_with (rw [← HW.out]);refine s.mono ?_;rintro e w' ⟨c,w1,rfl,⟨⟨rfl,k2,i,v,hr,hf,hI,hR⟩,Q⟩,rfl⟩;have R:W.heap.size=w.heap.size+1+1+1+1:=J.out;have k4:=k2.next (aw w1 W.heap.size (.int .i64 (r3:Nat))) (fun x hx e=>by omega)
 have k:=hr.kept (aw w1 W.heap.size (.int .i64 (r3:Nat))) (fun x hx e=>(hf.out x hx).2.1 e);have l:=i.kept (aw w1 W.heap.size (.int .i64 (r3:Nat))) (fun x hx e=>by have:=HB.out;omega);have d:=hI.other ⟨W.heap.size,0,none⟩ (by show w.heap.size+1+1≠W.heap.size;omega) (.int .i64 (r3:Nat));have g:=hR.other ⟨W.heap.size,0,none⟩ (by show w.heap.size+1+1+1≠W.heap.size;omega) (.int .i64 (r3:Nat));generalize w1.setCell ⟨W.heap.size,0,none⟩ (.int .i64 (r3:Nat))=w2 at *;obtain ⟨vo,vn,vc,rfl,-⟩:=k.open;have c1:=d.cell;have f1:=d.free;have c2:=g.cell;have f2:=g.free;have m:=d.set (.slice vo vn vc)
 have n:=g.other ⟨w.heap.size+1+1,0,none⟩ (by show w.heap.size+1+1+1≠w.heap.size+1+1;omega) (.slice vo vn vc);have t:=m.other ⟨w.heap.size+1+1+1,0,none⟩ (by show w.heap.size+1+1≠w.heap.size+1+1+1;omega) (.int .i64 (r2:Nat));have z:=n.set (.int .i64 (r2:Nat));have c3:=t.cell;have c4:=z.cell;have H:=aa ((k.kept (aw w2 (w.heap.size+1+1) (.slice vo vn vc)) (fun x hx e=>(hf.out x hx).2.2.1 e)).kept (aw _ (w.heap.size+1+1+1) (.int .i64 (r2:Nat))) (fun x hx e=>(hf.out x hx).2.2.2 e))
 have I:=aa ((l.kept (aw w2 (w.heap.size+1+1) (.slice vo vn vc)) (fun x hx e=>by have:=HB.out;omega)).kept (aw _ (w.heap.size+1+1+1) (.int .i64 (r2:Nat))) (fun x hx e=>by have:=HB.out;omega));have HK:=aa ((k4.next (aw w2 (w.heap.size+1+1) (.slice vo vn vc)) (fun x hx e=>by omega)).next (aw _ (w.heap.size+1+1+1) (.int .i64 (r2:Nat))) (fun x hx e=>by omega));have HF:Hid (∀ b,(Value.slice vo vn vc).ownBlock=some b→w.heap.size≤b):=fun b hb=>(hf.out b hb).1
 clear s hr k i l hI hR d g m n t z k2 k4 Q R hf;go_wp2_with fail;go_region
 all_goals
  go_wp2;exact bodyPost_ret (v:=.tuple #[.slice vo vn vc,.int .i64 (r2:Nat),.int .i64 (r3:Nat)]) (by simp [results,Tryz.results15,go_sem,c3,c4]) rfl ⟨_,rfl,⟨H.out.grew (ag _ _).drew,HF.out⟩,I.out.grew (ag _ _).drew,HK.out.trans (ag _ _).drew⟩

theorem pP (s:KS) (l:KL) (co:Option Addr) (cl cc:Nat) (cs:List Nat) (w:World) (hr:s.Rows w l) (hd:l.Digs) (hl:s.light) (hc:Row .u8 w (.slice co cl cc) cs) (hg:¬ KeyGood l.n l.d l.p l.q l.dp l.dq l.qi s.en) :
  Calls Tryz.prog 30 #[.agg #[.slice s.no s.nl s.nc,.int .u64 (s.en:Nat),.slice s.dO s.dl s.dc,.slice s.po s.pl s.pc,.slice s.qo s.ql s.qc,.slice s.dpo s.dpl s.dpc,.slice s.dqo s.dql s.dqc,.slice s.qio s.qil s.qic],.slice co cl cc] w fun e w'=>e=.panicked [refusal 190]∧Kept ae w w':=by
 obtain ⟨_,_,_,e1,f,-,-,-,-⟩:=hc.open;cases e1
 obtain ⟨h0,h1,h2,h3,h4,h5,h6⟩:=hl;obtain ⟨W,hW⟩:∃ W,W=w.alloc (.cells #[.slice s.no s.nl s.nc,.int .u64 (s.en:Nat),.slice s.dO s.dl s.dc,.slice s.po s.pl s.pc,.slice s.qo s.ql s.qc,.slice s.dpo s.dpl s.dpc,.slice s.dqo s.dql s.dqc,.slice s.qio s.qil s.qic] 26):=⟨_,rfl⟩
 have k0:Kept ae w W:=by rw [hW];exact (ag ae w).alloc _
 have a:W.heap[w.heap.size]? = some (.cells #[.slice s.no s.nl s.nc,.int .u64 (s.en:Nat),.slice s.dO s.dl s.dc,.slice s.po s.pl s.pc,.slice s.qo s.ql s.qc,.slice s.dpo s.dpl s.dpc,.slice s.dqo s.dql s.dqc,.slice s.qio s.qil s.qic] 26 (0,0)):=by rw [hW];exact heap_alloc_new _ _
 obtain ⟨q0,q1,q2,q3,q4,q5,q6,q7⟩:=aJ a;have J1:=xz s l 190 (.inr ⟨rfl,hg⟩) (by omega) (by omega) W (hr.grew k0) hd;unfold KS.v at J1;have HW:=aa hW;have b:=aa k0;have hY:=dt 190;clear hr hd hc hW k0 a hg f;go_enter Tryz.func30,Tryz.ntmps30;go_wp2_with (rw [← HW.out]);refine J1.mono ?_;rintro e w1 ⟨rfl,k1⟩;have c:=aa (b.out.trans k1);clear J1 k1 q0 q1 q2 q3 q4 q5 q6 q7;go_wp2_with fail;refine (hY _).mono ?_;rintro e w2 ⟨rfl,rfl⟩;exact ⟨rfl,rfl,c.out⟩

theorem AL (s:KS) (l:KL) (co:Option Addr) (cl cc:Nat) (cs:List Nat) (w:World) (hr:s.Rows w l) (hd:l.Digs) (hl:s.light) (hc:Row .u8 w (.slice co cl cc) cs) (hg:KeyGood l.n l.d l.p l.q l.dp l.dq l.qi s.en) (b:cs.length≠fB (val l.n)) :
  Calls Tryz.prog 30 #[.agg #[.slice s.no s.nl s.nc,.int .u64 (s.en:Nat),.slice s.dO s.dl s.dc,.slice s.po s.pl s.pc,.slice s.qo s.ql s.qc,.slice s.dpo s.dpl s.dpc,.slice s.dqo s.dql s.dqc,.slice s.qio s.qil s.qic],.slice co cl cc] w fun e w'=>e=.panicked [refusal 1]∧Kept ae w w':=by
 obtain ⟨_,_,_,e1,f,-,-,-,-⟩:=hc.open;cases e1
 obtain ⟨h0,h1,h2,h3,h4,h5,h6⟩:=hl;obtain ⟨W,hW⟩:∃ W,W=w.alloc (.cells #[.slice s.no s.nl s.nc,.int .u64 (s.en:Nat),.slice s.dO s.dl s.dc,.slice s.po s.pl s.pc,.slice s.qo s.ql s.qc,.slice s.dpo s.dpl s.dpc,.slice s.dqo s.dql s.dqc,.slice s.qio s.qil s.qic] 26):=⟨_,rfl⟩
 have k0:Kept ae w W:=by rw [hW];exact (ag ae w).alloc _
 have a:W.heap[w.heap.size]? = some (.cells #[.slice s.no s.nl s.nc,.int .u64 (s.en:Nat),.slice s.dO s.dl s.dc,.slice s.po s.pl s.pc,.slice s.qo s.ql s.qc,.slice s.dpo s.dpl s.dpc,.slice s.dqo s.dql s.dqc,.slice s.qio s.qil s.qic] 26 (0,0)):=by rw [hW];exact heap_alloc_new _ _
 obtain ⟨q0,q1,q2,q3,q4,q5,q6,q7⟩:=aJ a;have J1:=xz s l 0 (.inl ⟨rfl,hg⟩) (by omega) (by omega) W (hr.grew k0) hd;unfold KS.v at J1;have HW:=aa hW;have h:=aa k0;have JS:=aa fun W' (k:Kept ae w W')=>Aq s.no s.nl s.nc l.n W' (hr.n.grew k) hd.n (by omega)
 obtain ⟨z,hz⟩:∃ z,z=fB (val l.n):=⟨_,rfl⟩
 rw [← hz] at JS;have j:=bZ 0;have hY:=dt 1;have x:¬ (cl:Int)=(z:Int):=by have:=f.out;omega
 have m:((cl:Int) != (z:Int))=true:=by simp;omega
 clear hr hd hc hW k0 hg f b hz h0 h1 h2 h3 h4 h5 h6;go_enter Tryz.func30,Tryz.ntmps30;go_wp2_with (rw [← HW.out]);refine J1.mono ?_;rintro e w1 ⟨rfl,k1⟩;have t:=k1;have c:=aa (h.out.trans k1);obtain ⟨p0,-⟩:=aJ (aj a k1);have g:=aj a k1;clear J1 k1 t q0 q1 q2 q3 q4 q5 q6 q7 a;go_wp2_with fail;refine (j _).mono ?_;rintro e A ⟨rfl,o⟩;obtain rfl:=o.symm;have J2:=JS.out w1 c.out;go_wp2_with fail;refine J2.mono ?_;rintro e w2 ⟨rfl,k2⟩;have i:=aa (c.out.trans k2);have r:=aj g k2;obtain ⟨y,-⟩:=aJ r;clear J2 k2 JS p0 g;go_wp2_with fail;try rw [m]
 refine (hY _).mono ?_;rintro e w3 ⟨rfl,rfl⟩;exact ⟨rfl,rfl,i.out⟩

theorem mE {a v b c g i l:List Nat} {e n:Nat} (h:KeyGood a v b c g i l e) (hn:a.length=n) (H:n≤1000):n≤130∧n=ah (val a)∧b.length=max (ah (val b)) (ah (val c))∧c.length=max (ah (val b)) (ah (val c))∧g.length=max (ah (val b)) (ah (val c))∧i.length=max (ah (val b)) (ah (val c))∧bJ (val a)=0∧bJ (val b)=0∧bJ (val c)=0:=by
 have hf:=h.facts;obtain ⟨I,d,u,E,F,J,L,r,G,x,z,o,p,y⟩:=h;obtain ⟨f1,f2,f3,f4,f5,f6⟩:=hf;generalize hP:val b=P at *;generalize hQ:val c=Q at *;have m:val a=P*Q:=f1;have hl:a.length=ah (P*Q):=by
  rw [r,bd,af];have:0<ah (P*Q):=Nat.pos_of_ne_zero fun e=>by
   have h9:=(aA (P*Q) 0).1 (by omega);rw [Nat.pow_zero] at h9;have:=Nat.mul_le_mul f2.1 f3.1;omega
  omega
 have q:fu a e=0:=f4;have k:a.length≤1000:=by omega
 have j:=(iY (xs:=a) (by rw [r,bd];exact ai (by omega) _ _) k e).1 q;rw [m] at j;obtain ⟨⟨C,D⟩,⟨hW,ho⟩,-⟩:=j;have f:ah (P*Q)≤128:=aV (n:=128) (by omega);have A:P≤P*Q:=Nat.le_mul_of_pos_right _ (by have:=f3.1;omega);have B:Q≤P*Q:=Nat.le_mul_of_pos_left _ (by have:=f2.1;omega);have s:ah P≤128:=(aA P 128).2 (Nat.lt_of_le_of_lt A ((aA _ 128).1 f));have t:ah Q≤128:=(aA Q 128).2 (Nat.lt_of_le_of_lt B ((aA _ 128).1 f));have w:bJ (P*Q)=0:=fd (by have:=Nat.mul_le_mul f2.1 f3.1;omega) ho (by omega)
 refine ⟨by omega,by rw [m];omega,by rw [x,af],by rw [z,af],by rw [o,af],by rw [p,af],by rw [m];exact w,fd (by have:=f2.1;omega) f2.2.1 (by omega),fd (by have:=f3.1;omega) f3.2.1 (by omega)⟩

theorem AM (s:KS) (l:KL) (co:Option Addr) (cl cc:Nat) (cs:List Nat) (w:World) (hr:s.Rows w l) (hd:l.Digs) (hl:s.light) (hc:Row .u8 w (.slice co cl cc) cs) (t:Digs cs 256) (hg:KeyGood l.n l.d l.p l.q l.dp l.dq l.qi s.en) (c:cs.length=fB (val l.n)) (hlt:¬ bev cs<val l.n) :
  Calls Tryz.prog 30 #[.agg #[.slice s.no s.nl s.nc,.int .u64 (s.en:Nat),.slice s.dO s.dl s.dc,.slice s.po s.pl s.pc,.slice s.qo s.ql s.qc,.slice s.dpo s.dpl s.dpc,.slice s.dqo s.dql s.dqc,.slice s.qio s.qil s.qic],.slice co cl cc] w fun e w'=>e=.panicked [refusal 1]∧Kept ae w w':=by
 obtain ⟨_,_,_,e1,f,-,-,-,-⟩:=hc.open;cases e1
 obtain ⟨h0,h1,h2,h3,h4,h5,h6⟩:=hl;obtain ⟨W,hW⟩:∃ W,W=w.alloc (.cells #[.slice s.no s.nl s.nc,.int .u64 (s.en:Nat),.slice s.dO s.dl s.dc,.slice s.po s.pl s.pc,.slice s.qo s.ql s.qc,.slice s.dpo s.dpl s.dpc,.slice s.dqo s.dql s.dqc,.slice s.qio s.qil s.qic] 26):=⟨_,rfl⟩
 have k0:Kept ae w W:=by rw [hW];exact (ag ae w).alloc _
 have g:W.heap[w.heap.size]? = some (.cells #[.slice s.no s.nl s.nc,.int .u64 (s.en:Nat),.slice s.dO s.dl s.dc,.slice s.po s.pl s.pc,.slice s.qo s.ql s.qc,.slice s.dpo s.dpl s.dpc,.slice s.dqo s.dql s.dqc,.slice s.qio s.qil s.qic] 26 (0,0)):=by rw [hW];exact heap_alloc_new _ _
 obtain ⟨q0,q1,q2,q3,q4,q5,q6,q7⟩:=aJ g;have J1:=xz s l 0 (.inl ⟨rfl,hg⟩) (by omega) (by omega) W (hr.grew k0) hd;unfold KS.v at J1;have HW:=aa hW;have I:=aa k0;have JS:=aa fun W' (k:Kept ae w W')=>Aq s.no s.nl s.nc l.n W' (hr.n.grew k) hd.n (by omega)
 obtain ⟨z,hz⟩:∃ z,z=fB (val l.n):=⟨_,rfl⟩
 rw [← hz] at JS;obtain ⟨O,P,Q,R,S,T⟩:=hg.facts;obtain ⟨N,hN⟩:∃ N,N=val l.n:=⟨_,rfl⟩
 obtain ⟨X,hX⟩:∃ X,X=bev cs:=⟨_,rfl⟩
 obtain ⟨_,_,_,e1,m,-,-,-,-⟩:=hr.n.open;cases e1
 have B:N<18446744073709551616^s.nl:=by rw [hN,← m.out];exact aD (by omega) hd.n
 have V:=(mE hg m.out h0).1;have C:cl≤8*s.nl:=by
  have h9:aF N≤64*s.nl:=(aI _ _).2 (by rw [Nat.pow_mul];exact B);have h8:=f.out;rw [c,← hN] at h8;unfold fB at h8;omega
 have o:X<18446744073709551616^s.nl:=by
  rw [hX];refine Nat.lt_of_lt_of_le (mu t) ?_;rw [f.out,show (18446744073709551616:Nat)^s.nl=256^(8*s.nl) by rw [Nat.pow_mul]];exact Nat.pow_le_pow_right (by omega) C
 obtain ⟨E,F⟩:=kh o (by omega:s.nl≤300);have vX:val (digs X s.nl)=X:=by rw [au,ar o]
 have JN:Hid (∀ W',Kept ae w W'→Calls Tryz.prog 63 #[.slice co cl cc,.int .i64 (s.nl:Int)] W' fun r w'=>∃ vo vn vc,r=.returned (.tuple #[.slice vo vn vc,.int .i64 0])∧Row .u64 w' (.slice vo vn vc) (digs X s.nl)∧Fresh W' (.slice vo vn vc)∧Kept ae W' w'):=fun W' k=>by
  have h:=AB (.slice co cl cc) cs (s.nl:Int) W' (hc.grew k) t;rw [← hX,E,F] at h;refine h.mono ?_;rintro r w' ⟨v',rfl,h1,h2,h3⟩;obtain ⟨vo,vn,vc,rfl,-⟩:=h1.open;exact ⟨vo,vn,vc,rfl,h1,h2,h3⟩
 have JC:Hid (∀ W' vo vn vc,Kept ae w W'→Row .u64 W' (.slice vo vn vc) (digs X s.nl)→Calls Tryz.prog 64 #[.slice vo vn vc,.slice s.no s.nl s.nc] W' fun r w'=>r=.returned (.int .i64 (cS X N))∧Kept ae W' w'):=fun W' vo vn vc k h=>by
  have h:=iU _ _ _ _ W' h (hr.n.grew k) (ai (by omega) _ _) hd.n;rw [vX,← hN] at h;exact h
 have L:=bZ 0;have M:=bZ 1;have hY:=dt 1;have U:(cl:Int)=(z:Int):=by have:=f.out;omega
 have D:((cl:Int) != (z:Int))=false:=by simp;omega
 have g1:cS X N≥0:=by rw [hX,hN];have:=vW (a:=bev cs) (b:=val l.n) (by omega);omega
 clear hr hd hc t hW k0 hg f c hlt hz h0 h1 h2 h3 h4 h5 h6 hX hN o E F vX C B m O P Q R S T V;generalize cS X N=cm at *;go_enter Tryz.func30,Tryz.ntmps30;go_wp2_with (rw [← HW.out]);refine J1.mono ?_;rintro e w1 ⟨rfl,k1⟩;have ac:=k1;have y:=aa (I.out.trans k1);obtain ⟨p0,-⟩:=aJ (aj g k1);have G:=aj g k1;clear J1 k1 ac q0 q1 q2 q3 q4 q5 q6 q7 g;go_wp2_with fail;refine (L _).mono ?_;rintro e al ⟨rfl,Y⟩;obtain rfl:=Y.symm;have J2:=JS.out w1 y.out;go_wp2_with fail;refine J2.mono ?_;rintro e w2 ⟨rfl,k2⟩;have i:=aa (y.out.trans k2);have x:=aj G k2;obtain ⟨ad,-⟩:=aJ x;clear J2 k2 JS p0 G
 go_wp2_with fail;try rw [D]
 refine (M _).mono ?_;rintro e am ⟨rfl,Z⟩;obtain rfl:=Z.symm;have J3:=JN.out w2 i.out;go_wp2_with fail;refine J3.mono ?_;rintro e w3 ⟨vo,vn,vc,rfl,r3,f3,k3⟩;have A:=aa (i.out.trans k3);have H:=aj x k3;obtain ⟨af,-⟩:=aJ H;have j:=aa r3;have ah:=aa (f3.after i.out);clear J3 k3 r3 f3 JN ad x U D;go_wp2_with fail;refine (dH vo vn vc _).mono ?_;rintro e an ⟨rfl,ab⟩;obtain rfl:=ab.symm;have J4:=JC.out w3 vo vn vc A.out j.out;go_wp2_with fail;refine J4.mono ?_;rintro e w4 ⟨rfl,k4⟩;have J:=aa (A.out.trans k4);have ak:=aa (j.out.grew k4);clear J4 k4 JC af H j;go_wp2_with fail;refine (hY _).mono ?_;rintro e w5 ⟨rfl,rfl⟩
 exact ⟨rfl,rfl,J.out⟩

theorem AN (s:KS) (l:KL) (co:Option Addr) (cl cc:Nat) (cs:List Nat) (w:World) (hr:s.Rows w l) (hd:l.Digs) (hl:s.light) (hc:Row .u8 w (.slice co cl cc) cs) (m:Digs cs 256) (hg:KeyGood l.n l.d l.p l.q l.dp l.dq l.qi s.en) (a:cs.length=fB (val l.n)) (hlt:bev cs<val l.n) :
  Calls Tryz.prog 30 #[.agg #[.slice s.no s.nl s.nc,.int .u64 (s.en:Nat),.slice s.dO s.dl s.dc,.slice s.po s.pl s.pc,.slice s.qo s.ql s.qc,.slice s.dpo s.dpl s.dpc,.slice s.dqo s.dql s.dqc,.slice s.qio s.qil s.qic],.slice co cl cc] w fun e w'=>∃ vo vc,e=.returned (.slice vo s.nl vc)∧Row .u64 w' (.slice vo s.nl vc) (digs (bev cs) s.nl)∧Fresh w (.slice vo s.nl vc)∧Kept ae w w':=by
 obtain ⟨_,_,_,e1,b,-,-,-,-⟩:=hc.open;cases e1
 obtain ⟨h0,h1,h2,h3,h4,h5,h6⟩:=hl;obtain ⟨W,hW⟩:∃ W,W=w.alloc (.cells #[.slice s.no s.nl s.nc,.int .u64 (s.en:Nat),.slice s.dO s.dl s.dc,.slice s.po s.pl s.pc,.slice s.qo s.ql s.qc,.slice s.dpo s.dpl s.dpc,.slice s.dqo s.dql s.dqc,.slice s.qio s.qil s.qic] 26):=⟨_,rfl⟩
 have k0:Kept ae w W:=by rw [hW];exact (ag ae w).alloc _
 have c:W.heap[w.heap.size]? = some (.cells #[.slice s.no s.nl s.nc,.int .u64 (s.en:Nat),.slice s.dO s.dl s.dc,.slice s.po s.pl s.pc,.slice s.qo s.ql s.qc,.slice s.dpo s.dpl s.dpc,.slice s.dqo s.dql s.dqc,.slice s.qio s.qil s.qic] 26 (0,0)):=by rw [hW];exact heap_alloc_new _ _
 obtain ⟨q0,q1,q2,q3,q4,q5,q6,q7⟩:=aJ c;have J1:=xz s l 0 (.inl ⟨rfl,hg⟩) (by omega) (by omega) W (hr.grew k0) hd;unfold KS.v at J1;have HW:=aa hW;have J:=aa k0;have JS:=aa fun W' (k:Kept ae w W')=>Aq s.no s.nl s.nc l.n W' (hr.n.grew k) hd.n (by omega)
 obtain ⟨z,hz⟩:∃ z,z=fB (val l.n):=⟨_,rfl⟩
 rw [← hz] at JS;obtain ⟨P,Q,R,S,T,U⟩:=hg.facts;obtain ⟨N,hN⟩:∃ N,N=val l.n:=⟨_,rfl⟩
 obtain ⟨X,hX⟩:∃ X,X=bev cs:=⟨_,rfl⟩
 obtain ⟨_,_,_,e1,i,-,-,-,-⟩:=hr.n.open;cases e1
 have A:N<18446744073709551616^s.nl:=by rw [hN,← i.out];exact aD (by omega) hd.n
 have Y:=(mE hg i.out h0).1;have C:cl≤8*s.nl:=by
  have h9:aF N≤64*s.nl:=(aI _ _).2 (by rw [Nat.pow_mul];exact A);have h8:=b.out;rw [a,← hN] at h8;unfold fB at h8;omega
 have j:X<18446744073709551616^s.nl:=by
  rw [hX];refine Nat.lt_of_lt_of_le (mu m) ?_;rw [b.out,show (18446744073709551616:Nat)^s.nl=256^(8*s.nl) by rw [Nat.pow_mul]];exact Nat.pow_le_pow_right (by omega) C
 obtain ⟨E,F⟩:=kh j (by omega:s.nl≤300);have vX:val (digs X s.nl)=X:=by rw [au,ar j]
 have JN:Hid (∀ W',Kept ae w W'→Calls Tryz.prog 63 #[.slice co cl cc,.int .i64 (s.nl:Int)] W' fun r w'=>∃ vo vn vc,r=.returned (.tuple #[.slice vo vn vc,.int .i64 0])∧Row .u64 w' (.slice vo vn vc) (digs X s.nl)∧Fresh W' (.slice vo vn vc)∧Kept ae W' w'):=fun W' k=>by
  have h:=AB (.slice co cl cc) cs (s.nl:Int) W' (hc.grew k) m;rw [← hX,E,F] at h;refine h.mono ?_;rintro r w' ⟨v',rfl,h1,h2,h3⟩;obtain ⟨vo,vn,vc,rfl,-⟩:=h1.open;exact ⟨vo,vn,vc,rfl,h1,h2,h3⟩
 have JC:Hid (∀ W' vo vn vc,Kept ae w W'→Row .u64 W' (.slice vo vn vc) (digs X s.nl)→Calls Tryz.prog 64 #[.slice vo vn vc,.slice s.no s.nl s.nc] W' fun r w'=>r=.returned (.int .i64 (cS X N))∧Kept ae W' w'):=fun W' vo vn vc k h=>by
  have h:=iU _ _ _ _ W' h (hr.n.grew k) (ai (by omega) _ _) hd.n;rw [vX,← hN] at h;exact h
 have O:=bZ 0;have B:=bZ 1;have V:(cl:Int)=(z:Int):=by have:=b.out;omega
 have D:((cl:Int) != (z:Int))=false:=by simp;omega
 have g1:¬ cS X N≥0:=by rw [hX,hN];have:=fw hlt;omega
 have g2:decide (0≤cS X N)=false:=aW (by omega);have M:=aa hX;clear hr hd hc m hW k0 hg b a hlt hz h0 h1 h2 h3 h4 h5 h6 hN hX j E F vX C A i P Q R S T U Y;generalize cS X N=cm at *;go_enter Tryz.func30,Tryz.ntmps30;go_wp2_with (rw [← HW.out]);refine J1.mono ?_;rintro e w1 ⟨rfl,k1⟩;have af:=k1;have t:=aa (J.out.trans k1);obtain ⟨p0,-⟩:=aJ (aj c k1);have G:=aj c k1;clear J1 k1 af q0 q1 q2 q3 q4 q5 q6 q7 c;go_wp2_with fail;refine (O _).mono ?_;rintro e al ⟨rfl,Z⟩;obtain rfl:=Z.symm;have J2:=JS.out w1 t.out;go_wp2_with fail;refine J2.mono ?_;rintro e w2 ⟨rfl,k2⟩;have f:=aa (t.out.trans k2)
 have o:=aj G k2;obtain ⟨ah,-⟩:=aJ o;clear J2 k2 JS p0 G;go_wp2_with fail;try rw [D]
 refine (B _).mono ?_;rintro e am ⟨rfl,ab⟩;obtain rfl:=ab.symm;have J3:=JN.out w2 f.out;go_wp2_with fail;refine J3.mono ?_;rintro e w3 ⟨vo,vn,vc,rfl,r3,f3,k3⟩;have x:=aa (f.out.trans k3);have H:=aj o k3;obtain ⟨ak,-⟩:=aJ H;have g:=aa r3;have I:=aa (f3.after f.out);clear J3 k3 r3 f3 JN ah o V D;go_wp2_with fail;refine (dH vo vn vc _).mono ?_;rintro e an ⟨rfl,ac⟩;obtain rfl:=ac.symm;have J4:=JC.out w3 vo vn vc x.out g.out;go_wp2_with fail;refine J4.mono ?_;rintro e w4 ⟨rfl,k4⟩;have L:=aa (x.out.trans k4);have y:=aa (g.out.grew k4);clear J4 k4 JC ak H g;go_wp2_with fail;try rw [g2]
 refine (B _).mono ?_;rintro e w5 ⟨rfl,ad⟩;obtain rfl:=ad.symm;obtain ⟨zo,zc,ez⟩:=(show NumT w4 none (.slice vo vn vc) s.nl (X%18446744073709551616^s.nl) from ⟨RowT.none (by rw [← iL];exact y.out),Nat.mod_lt _ (Nat.pow_pos (by omega))⟩).shape;cases ez
 go_wp2_with fail;go_ret;exact ⟨_,_,rfl,by rw [← M.out];exact y.out,I.out,L.out⟩

end Go.Proofs.YtkaojflnghfmcaaGreatDoor
