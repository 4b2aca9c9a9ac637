/- Put together of: Kex8 Kgn3 WKeyNum WKgFormed WKgWalk LKeygenFormed. -/
import Derived.Test.YtcemlfokmjjiaaaGreatDoorPf35

namespace Go.Proofs.YtcemlfokmjjiaaaGreatDoor
set_option maxRecDepth 100000
set_option maxHeartbeats 4000000
open Go.RowKit

theorem kOf (ao bo:Option Addr) (L M cap c:Nat) (xs ys:List Nat) (P Q e:Nat) (w:World) (hP:P=val xs) (hQ:Q=val ys) (hu:Row .u64 w (.slice ao L cap) xs) (hv:Row .u64 w (.slice bo M c) ys) (g:Digs xs) (h:Digs ys) (hL:L≤1000) (hM:M≤1000) :
  Calls Tryz.prog 26 #[.slice ao L cap,.slice bo M c,.int .u64 (e:Nat)] w fun r w'=>∃ kv E,r=.returned (.tuple #[.agg kv,.int .i64 ((E:Nat):Int)])∧((E=0∧bw L M P Q e∧KeyAt w' P Q e kv)∨(E=190∧¬ bw L M P Q e∧kv=zeroKey))∧fB w.heap.size kv∧Kept af w w':=by
 have al:=eR;have he:∀ args w,(callFunc 47 args).run Tryz.prog w=.ok (.enter 47 args) w:=fun _ _=>by simp [go_sem]
 have X:=lQ w (.slice ao L cap) (.slice bo M c) (.int .u64 (e:Nat)) 32 32 23;obtain ⟨W0,N⟩:∃ W0,W0=((w.alloc (.cells #[.slice ao L cap] 32)).alloc (.cells #[.slice bo M c] 32)).alloc (.cells #[.int .u64 (e:Nat)] 23):=⟨_,rfl⟩
 rw [← N] at X;obtain ⟨k0,x1,x2,x3,hs⟩:=X;obtain ⟨W,hW⟩:∃ W,W=W0.alloc (.cells zeroKey 42):=⟨_,rfl⟩
 have kW:Kept af W0 W:=by rw [hW];exact (ai af W0).alloc _
 have H:W.heap.size=W0.heap.size+1:=by rw [hW];simp
 have bK:W.heap[W0.heap.size]? = some (.cells zeroKey 42 (0,0)):=by rw [hW];exact heap_alloc_new _ _
 rw [hs] at bK H;have kE:=(ai af W).alloc (.cells #[.int .i64 0] 33);have xe:Box (W.alloc (.cells #[.int .i64 0] 33)) W.heap.size (.int .i64 0) 33:=Box.new W (.int .i64 0) 33;have V:(W.alloc (.cells #[.int .i64 0] 33)).heap.size=W.heap.size+1:=by simp
 have k1:Kept af w (W.alloc (.cells #[.int .i64 0] 33)):=(k0.trans kW).trans kE;have A:(W.alloc (.cells #[.int .i64 0] 33)).heap[w.heap.size+1+1+1]? = some (.cells zeroKey 42 (0,0)):=ap bK;have c0:=((x1.grew kW).grew kE).cell;have c1:=((x2.grew kW).grew kE).cell;have c2:=((x3.grew kW).grew kE).cell;have l:Calls Tryz.prog 47 #[.pointer (some ⟨w.heap.size,0,none⟩),.pointer (some ⟨w.heap.size+1,0,none⟩),.pointer (some ⟨w.heap.size+1+1,0,none⟩),.pointer (some ⟨w.heap.size+1+1+1,0,none⟩)] (W.alloc (.cells #[.int .i64 0] 33)) fun r w'=>OfEnd L M P Q e W.heap.size (w.heap.size+1+1+1) w (W.alloc (.cells #[.int .i64 0] 33)) r w':=by
  by_cases hA:L≤300∧bY P
  ·by_cases hB:M≤300∧bY Q
   ·by_cases hC:fm (aO P Q) e=0
    ·by_cases hD:Nat.gcd Q P=1
     ·by_cases hE:Nat.gcd (bZ P Q) e=1
      ·exact Bb _ _ _ _ ao bo L M cap c xs ys P Q e _ hP hQ hA hB hC hD hE _ _ (hu.grew k1) (hv.grew k1) g h c0 c1 c2 k1 (by omega) V A
      ·exact B2 _ _ _ _ ao bo L M cap c xs ys P Q e _ hP hQ hA hB hC hD hE _ _ (hu.grew k1) (hv.grew k1) g h c0 c1 c2
     ·exact BO _ _ _ _ ao bo L M cap c xs ys P Q e _ hP hQ hA hB hC hD _ _ (hu.grew k1) (hv.grew k1) g h c0 c1 c2
    ·exact Bt _ _ _ _ ao bo L M cap c xs ys P Q e _ hP hQ hA hB hC _ _ (hu.grew k1) (hv.grew k1) g h c0 c1 c2
   ·exact Br _ _ _ _ ao bo L M cap c xs ys P Q e _ hP hQ hM hA hB _ _ (hu.grew k1) (hv.grew k1) g h c0 c1
  ·exact Ca _ _ _ _ ao bo L M cap c xs P Q e _ hP hL hA _ _ (hu.grew k1) g c0 c1
 have U:=iF 47 _ W (fun n W'=>(n=0∧bw L M P Q e∧∃ kv,W'.heap[w.heap.size+1+1+1]? = some (.cells kv 42 (0,0))∧KeyAt W' P Q e kv∧fB W.heap.size kv∧Kept af w W')∨(n=190∧¬ bw L M P Q e∧W'.heap[w.heap.size+1+1+1]? = some (.cells zeroKey 42 (0,0))∧Kept af w W')) he (l.mono (by
  rintro r w' (⟨C,rfl,kv,h1,h2,h3,h4,h5⟩ | ⟨B,rfl,h1⟩)
  ·exact ⟨xe.kept h4 (by omega),.inl ⟨rfl,.inl ⟨rfl,C,kv,h1,h2,h3,h5⟩⟩⟩
  ·exact ⟨xe.grew h1,.inr ⟨_,rfl,.inr ⟨rfl,B,(h1.block _ (lt_of_block A) (fun f=>f)).trans A,k1.trans h1⟩⟩⟩))
 have ae:=aa N;have HW:=aa hW;have i:=aa H;have ac:=aa hs;clear hu hv g h hP hQ hL hM k0 kW kE k1 x1 x2 x3 xe hs V N hW H bK A c0 c1 c2 he l;unfold zeroKey at HW;go_enter Tryz.func26,Tryz.ntmps26;go_wp2_with (first | rw [← ae.out] | rw [← HW.out]);rw [ac.out];refine U.mono ?_;rintro r w' ⟨n,w1,rfl,⟨hq,T⟩,rfl⟩;clear U;rcases hq with ⟨rfl,C,kv,hx,q,hfar,hk⟩ | ⟨rfl,B,hx,hk⟩
 ·obtain ⟨vn,vd,vp,vq,an,am,ak,d,u,rfl,rn,Z,S,rd,rp,rq,J,O,Y,ab,I⟩:=q;obtain ⟨no,nl,nc,rfl,-,-,-,-,-⟩:=rn.open;obtain ⟨dO,dl,dc,rfl,-,-,-,-,-⟩:=rd.open;obtain ⟨po,pl,pc,rfl,-,-,-,-,-⟩:=rp.open;obtain ⟨qo,ql,qc,rfl,-,-,-,-,-⟩:=rq.open;obtain ⟨m,s,D,rfl,-,-,-,-,-⟩:=J.open;obtain ⟨z,F,t,rfl,-,-,-,-,-⟩:=O.open;obtain ⟨o,y,p,rfl,-,-,-,-,-⟩:=I.open;have q:KeyAt w1 P Q e #[.slice no nl nc,.int .u64 (e:Nat),.slice dO dl dc,.slice po pl pc,.slice qo ql qc,.slice m s D,.slice z F t,.slice o y p]:=⟨_,_,_,_,_,_,_,d,u,rfl,rn,Z,S,rd,rp,rq,J,O,Y,ab,I⟩
  have kb:=ar w1 W.heap.size (.int .i64 0);have k:=q.kept kb (fun v hv x hx aj=>by have:=hfar v hv x hx;omega);have b:=dj hx (a:=⟨W.heap.size,0,none⟩) (by show _≠W.heap.size;have:=i.out;omega) (.int .i64 0);have j:=hk.next kb (fun x hx e=>by have:=i.out;omega)
  obtain ⟨z1,z2,z3⟩:=dm j (by omega:w.heap.size≤w.heap.size+1+1+1) b (.slice no nl nc) (.int .u64 (e:Nat)) (.slice dO dl dc) (.slice po pl pc) (.slice qo ql qc) (.slice m s D) (.slice z F t) (.slice o y p);unfold dh at z1 z2 z3;have ag:=aa (k.kept z3 (fun v hv x hx aj=>by have h1:=hfar v hv x hx;have h2:=i.out;omega));have R:Hid (fB w.heap.size #[.slice no nl nc,.int .u64 (e:Nat),.slice dO dl dc,.slice po pl pc,.slice qo ql qc,.slice m s D,.slice z F t,.slice o y p]):=fun v hv x hx=>by have h1:=hfar v hv x hx;have h2:=i.out;omega
  have G:=aa z2;obtain ⟨r0,r1,r2,r3,r4,r5,r6,r7⟩:=aL z1;obtain ⟨c0,c1,c2,c3,c4,c5,c6,c7⟩:=aL b;have f0:=aM b 0;have f1:=aM b 1;have f2:=aM b 2;have f3:=aM b 3;have f4:=aM b 4;have f5:=aM b 5;have f6:=aM b 6;have f7:=aM b 7;have ad:=aa C;clear rn rd rp rq J O I q kb k hx hk j hfar b z1 z2 z3 T C Z S Y ab;generalize w1.setCell ⟨W.heap.size,0,none⟩ (.int .i64 0)=W2 at *;go_wp2_with fail
  exact bodyPost_ret (v:=.tuple #[.agg #[.slice no nl nc,.int .u64 (e:Nat),.slice dO dl dc,.slice po pl pc,.slice qo ql qc,.slice m s D,.slice z F t,.slice o y p],.int .i64 0]) (by simp [results,Tryz.results26,go_sem,r0,r1,r2,r3,r4,r5,r6,r7]) rfl ⟨_,0,rfl,.inl ⟨rfl,ad.out,ag.out⟩,R.out,G.out⟩
 ·have kb:=ar w1 W.heap.size (.int .i64 190);have b:=dj hx (a:=⟨W.heap.size,0,none⟩) (by show _≠W.heap.size;have:=i.out;omega) (.int .i64 190);have j:=hk.next kb (fun x hx e=>by have:=i.out;omega)
  obtain ⟨z1,z2,-⟩:=dm j (by omega:w.heap.size≤w.heap.size+1+1+1) b (.slice none 0 0) (.int .u64 0) (.slice none 0 0) (.slice none 0 0) (.slice none 0 0) (.slice none 0 0) (.slice none 0 0) (.slice none 0 0);unfold dh at z1 z2;have G:=aa z2;obtain ⟨r0,r1,r2,r3,r4,r5,r6,r7⟩:=aL z1;obtain ⟨c0,c1,c2,c3,c4,c5,c6,c7⟩:=aL b;have f0:=aM b 0;have f1:=aM b 1;have f2:=aM b 2;have f3:=aM b 3;have f4:=aM b 4;have f5:=aM b 5;have f6:=aM b 6;have f7:=aM b 7;have ah:=aa B;clear kb hx hk j b z1 z2 T B;generalize w1.setCell ⟨W.heap.size,0,none⟩ (.int .i64 190)=W2 at *;go_wp2_with fail
  exact bodyPost_ret (v:=.tuple #[.agg zeroKey,.int .i64 190]) (by simp [results,Tryz.results26,go_sem,r0,r1,r2,r3,r4,r5,r6,r7]) rfl ⟨_,190,rfl,.inr ⟨rfl,ah.out,rfl⟩,aX _,G.out⟩

def yt (w:World) (p:Option Addr) (B n e r:Nat) (bs:List Nat) (q:Ending) (w':World):Prop:=∃ kv P Q E1 R E,q=.returned (.tuple #[.agg kv,.int .i64 ((E:Nat):Int)])∧PairR n e r bs (P,Q,E1,R) ∧
 ((E1≠0∧E=E1∧kv=zeroKey)∨(E1=0∧E=0∧bw P.length Q.length (val P) (val Q) e∧KeyAt w' (val P) (val Q) e kv)∨(E1=0∧E=190∧¬ bw P.length Q.length (val P) (val Q) e∧kv=zeroKey)) ∧
 fB w.heap.size kv∧Lsc w' p B R∧Kept (ofP p) w w'

theorem vX (p:Option Addr) (n r:Int) (e:Nat) (w:World) (a:cV n r e) :
  Calls Tryz.prog 13 #[.pointer p,.int .i64 n,.int .u64 (e:Nat),.int .i64 r] w fun q w'=>q=.returned (.tuple #[.agg zeroKey,.int .i64 1])∧Kept af w w':=by
 obtain ⟨W0,b⟩:∃ W0,W0=w.alloc (.cells #[.slice none 0 0,.int .u64 0,.slice none 0 0,.slice none 0 0,.slice none 0 0,.slice none 0 0,.slice none 0 0,.slice none 0 0] 42):=⟨_,rfl⟩
 have k0:Kept af w W0:=by rw [b];exact (ai af w).alloc _
 have d:W0.heap[w.heap.size]? = some (.cells #[.slice none 0 0,.int .u64 0,.slice none 0 0,.slice none 0 0,.slice none 0 0,.slice none 0 0,.slice none 0 0,.slice none 0 0] 42 (0,0)):=by rw [b];exact heap_alloc_new _ _
 have h:Hid (∀ W,Kept af W0 W→W.heap[w.heap.size]? = some (.cells #[.slice none 0 0,.int .u64 0,.slice none 0 0,.slice none 0 0,.slice none 0 0,.slice none 0 0,.slice none 0 0,.slice none 0 0] 42 (0,0))):=fun W k=>(k.block _ (lt_of_block d) (fun f=>f)).trans d
 have hP:=vh p n r e W0 a;have j:=aa b;have i:=aa k0;clear b k0 d a;go_enter Tryz.func13,Tryz.ntmps13;go_wp2_with (rw [← j.out]);refine hP.mono ?_;rintro q w1 ⟨rfl,k1⟩;have g:=aa k1;have c:=h.out _ k1;clear hP k1;obtain ⟨c0,c1,c2,c3,c4,c5,c6,c7⟩:=aL c;have f:=aM c;go_wp2_with fail;obtain ⟨z1,z3⟩:=iL c (.slice none 0 0) (.int .u64 0) (.slice none 0 0) (.slice none 0 0) (.slice none 0 0) (.slice none 0 0) (.slice none 0 0) (.slice none 0 0);unfold dh at z1 z3
 generalize ((((((((w1.setCell ⟨w.heap.size,0,none⟩ (.slice none 0 0)).setCell ⟨w.heap.size,1,none⟩ (.int .u64 0)).setCell ⟨w.heap.size,2,none⟩ (.slice none 0 0)).setCell ⟨w.heap.size,3,none⟩ (.slice none 0 0)).setCell ⟨w.heap.size,4,none⟩ (.slice none 0 0)).setCell ⟨w.heap.size,5,none⟩ (.slice none 0 0)).setCell ⟨w.heap.size,6,none⟩ (.slice none 0 0)).setCell ⟨w.heap.size,7,none⟩ (.slice none 0 0))=Wf at *;obtain ⟨r0,r1,r2,r3,r4,r5,r6,r7⟩:=aL z1;exact bodyPost_ret (v:=.tuple #[.agg zeroKey,.int .i64 1]) (by simp [results,Tryz.results13,go_sem,r0,r1,r2,r3,r4,r5,r6,r7]) rfl ⟨rfl,(i.out.trans g.out).next z3 (fun x hx (ex:x=w.heap.size)=>by omega)⟩

theorem se (p:Option Addr) (B n e r:Nat) (bs:List Nat) (a:¬ cV (n:Int) (r:Int) e) (w:World) (h:Lsc w p B bs) (hB:B≤w.heap.size) (V:Digs bs 256) :
  Calls Tryz.prog 13 #[.pointer p,.int .i64 (n:Nat),.int .u64 (e:Nat),.int .i64 (r:Nat)] w fun q w'=>yt w p B n e r bs q w':=by
 obtain ⟨W0,o⟩:∃ W0,W0=w.alloc (.cells #[.slice none 0 0,.int .u64 0,.slice none 0 0,.slice none 0 0,.slice none 0 0,.slice none 0 0,.slice none 0 0,.slice none 0 0] 42):=⟨_,rfl⟩
 have k0:Kept af w W0:=by rw [o];exact (ai af w).alloc _
 have O:W0.heap[w.heap.size]? = some (.cells #[.slice none 0 0,.int .u64 0,.slice none 0 0,.slice none 0 0,.slice none 0 0,.slice none 0 0,.slice none 0 0,.slice none 0 0] 42 (0,0)):=by rw [o];exact heap_alloc_new _ _
 have T:W0.heap.size=w.heap.size+1:=by rw [o];simp
 have ae:Hid (∀ x,ofP p x→x<w.heap.size):=fun x hx=>(h.inP hx).2
 have HN:Hid (n≤8192):=by unfold cV at a;unfold Hid;omega
 have C:Hid (∀ W,Kept (ofP p) W0 W→W.heap[w.heap.size]? = some (.cells #[.slice none 0 0,.int .u64 0,.slice none 0 0,.slice none 0 0,.slice none 0 0,.slice none 0 0,.slice none 0 0,.slice none 0 0] 42 (0,0))):=fun W k=>(k.block _ (lt_of_block O) (fun f=>absurd (ae.out _ f) (Nat.lt_irrefl _))).trans O
 have hP:=rf p B n e r bs a W0 (h.grew k0) (by omega) V;have ac:=aa o;have H:=aa k0;have Z:=aa T;have F:=aa hB;clear o k0 O T h V hB a;go_enter Tryz.func13,Tryz.ntmps13;go_wp2_with (rw [← ac.out]);refine hP.mono ?_;rintro q w1 ⟨u,v,P,Q,E1,R,rfl,Y,⟨ru,rv⟩,hs,k1⟩;have j:=aa k1;have y:=aa Y;have J:=aa hs;obtain ⟨uo,ul,uc,rfl,m,-,-,-,-⟩:=ru.open;obtain ⟨vo,vl,vc,rfl,s,-,-,-,-⟩:=rv.open;clear hP Y hs k1;by_cases hE1:E1=0
 ·subst hE1;obtain ⟨⟨cs,D⟩,⟨ds,G⟩⟩:=y.out.shape;have A:=kOf uo vo ul vl uc vc P Q _ _ e w1 rfl rfl ru rv (by rw [D];exact kn _ _) (by rw [G];exact kn _ _) (by have:=m.out;have:=HN.out;rw [D,lh] at *;omega) (by have:=s.out;have:=HN.out;rw [G,lh] at *;omega);rw [← m.out,← s.out] at A;have HU:Hid (P.length=ul∧Q.length=vl):=⟨m.out,s.out⟩
  clear D G ru rv m s;generalize hVP:val P=VP at *;generalize hVQ:val Q=VQ at *;have g:Hid (val P=VP∧val Q=VQ):=⟨hVP,hVQ⟩
  clear hVP hVQ;rw [HU.out.1,HU.out.2] at A;go_wp2_with fail;refine A.mono ?_;rintro q w2 ⟨kv,E,rfl,i,l,k2⟩;have z:Hid (Kept (ofP p) W0 w2):=j.out.next k2 (fun _ _ f=>f.elim)
  have U:=aa (J.out.grew k2);have c:Hid (fB w.heap.size kv):=fun v hv x hx=>by
   have:=l v hv x hx;have:=j.out.size;have:=Z.out;omega
  clear A k2 l J j;rcases i with ⟨rfl,hok,hkey⟩ | ⟨rfl,hno,rfl⟩
  ·have ab:=aa hok;have N:=aa hkey;obtain ⟨vn,vd,vp,vq,aj,ah,ag,d,u2,rfl,h0,_,_,h3,h4,h5,h6,h7,_,_,X⟩:=hkey;obtain ⟨no,nl,nc,rfl,-,-,-,-,-⟩:=h0.open;obtain ⟨M,L,I,rfl,-,-,-,-,-⟩:=h3.open;obtain ⟨po,pl,pc,rfl,-,-,-,-,-⟩:=h4.open;obtain ⟨qo,ql,qc,rfl,-,-,-,-,-⟩:=h5.open;obtain ⟨xo,xl,xc,rfl,-,-,-,-,-⟩:=h6.open;obtain ⟨yo,yl,yc,rfl,-,-,-,-,-⟩:=h7.open;obtain ⟨zo,zl,zc,rfl,-,-,-,-,-⟩:=X.open;clear hok h0 h3 h4 h5 h6 h7 X;have b:=C.out _ z.out;obtain ⟨c0,c1,c2,c3,c4,c5,c6,c7⟩:=aL b;have f:=aM b;go_wp2_with fail
   obtain ⟨z1,z3⟩:=iL b (.slice no nl nc) (.int .u64 (e:Nat)) (.slice M L I) (.slice po pl pc) (.slice qo ql qc) (.slice xo xl xc) (.slice yo yl yc) (.slice zo zl zc);unfold dh at z1 z3;generalize ((((((((w2.setCell ⟨w.heap.size,0,none⟩ (.slice no nl nc)).setCell ⟨w.heap.size,1,none⟩ (.int .u64 (e:Nat))).setCell ⟨w.heap.size,2,none⟩ (.slice M L I)).setCell ⟨w.heap.size,3,none⟩ (.slice po pl pc)).setCell ⟨w.heap.size,4,none⟩ (.slice qo ql qc)).setCell ⟨w.heap.size,5,none⟩ (.slice xo xl xc)).setCell ⟨w.heap.size,6,none⟩ (.slice yo yl yc)).setCell ⟨w.heap.size,7,none⟩ (.slice zo zl zc))=Wf at *;obtain ⟨r0,r1,r2,r3,r4,r5,r6,r7⟩:=aL z1
   exact bodyPost_ret (v:=.tuple #[.agg #[.slice no nl nc,.int .u64 (e:Nat),.slice M L I,.slice po pl pc,.slice qo ql qc,.slice xo xl xc,.slice yo yl yc,.slice zo zl zc],.int .i64 0]) (by simp [results,Tryz.results13,go_sem,r0,r1,r2,r3,r4,r5,r6,r7]) rfl ⟨_,P,Q,0,R,0,rfl,y.out,.inr (.inl ⟨rfl,rfl,by rw [HU.out.1,HU.out.2,g.out.1,g.out.2];exact ab.out,by rw [g.out.1,g.out.2];exact N.out.kept9 c.out z3 (fun x hx (ex:x=w.heap.size)=>by omega)⟩),c.out,U.out.kept z3 (fun x hx (ex:x=w.heap.size)=>by have:=F.out;omega),(H.out.any (S:=ofP p)).next (z.out.trans2 z3) (fun x hx t=>t.elim (fun h=>h) (fun h=>absurd h (Nat.ne_of_lt hx)))⟩
  ·have ad:=aa hno;clear hno;have b:=C.out _ z.out;obtain ⟨c0,c1,c2,c3,c4,c5,c6,c7⟩:=aL b;have f:=aM b;go_wp2_with fail;obtain ⟨z1,z3⟩:=iL b (.slice none 0 0) (.int .u64 0) (.slice none 0 0) (.slice none 0 0) (.slice none 0 0) (.slice none 0 0) (.slice none 0 0) (.slice none 0 0);unfold dh at z1 z3
   generalize ((((((((w2.setCell ⟨w.heap.size,0,none⟩ (.slice none 0 0)).setCell ⟨w.heap.size,1,none⟩ (.int .u64 0)).setCell ⟨w.heap.size,2,none⟩ (.slice none 0 0)).setCell ⟨w.heap.size,3,none⟩ (.slice none 0 0)).setCell ⟨w.heap.size,4,none⟩ (.slice none 0 0)).setCell ⟨w.heap.size,5,none⟩ (.slice none 0 0)).setCell ⟨w.heap.size,6,none⟩ (.slice none 0 0)).setCell ⟨w.heap.size,7,none⟩ (.slice none 0 0))=Wf at *;obtain ⟨r0,r1,r2,r3,r4,r5,r6,r7⟩:=aL z1
   exact bodyPost_ret (v:=.tuple #[.agg zeroKey,.int .i64 190]) (by simp [results,Tryz.results13,go_sem,r0,r1,r2,r3,r4,r5,r6,r7]) rfl ⟨_,P,Q,0,R,190,rfl,y.out,.inr (.inr ⟨rfl,rfl,by rw [HU.out.1,HU.out.2,g.out.1,g.out.2];exact ad.out,rfl⟩),c.out,U.out.kept z3 (fun x hx (ex:x=w.heap.size)=>by have:=F.out;omega),(H.out.any (S:=ofP p)).next (z.out.trans2 z3) (fun x hx t=>t.elim (fun h=>h) (fun h=>absurd h (Nat.ne_of_lt hx)))⟩
 ·have g1:¬ (E1:Int)=0:=by omega
  clear ru rv m s;have b:=C.out _ j.out;obtain ⟨c0,c1,c2,c3,c4,c5,c6,c7⟩:=aL b;have f:=aM b;go_wp2_with fail;obtain ⟨z1,z3⟩:=iL b (.slice none 0 0) (.int .u64 0) (.slice none 0 0) (.slice none 0 0) (.slice none 0 0) (.slice none 0 0) (.slice none 0 0) (.slice none 0 0);unfold dh at z1 z3
  generalize ((((((((w1.setCell ⟨w.heap.size,0,none⟩ (.slice none 0 0)).setCell ⟨w.heap.size,1,none⟩ (.int .u64 0)).setCell ⟨w.heap.size,2,none⟩ (.slice none 0 0)).setCell ⟨w.heap.size,3,none⟩ (.slice none 0 0)).setCell ⟨w.heap.size,4,none⟩ (.slice none 0 0)).setCell ⟨w.heap.size,5,none⟩ (.slice none 0 0)).setCell ⟨w.heap.size,6,none⟩ (.slice none 0 0)).setCell ⟨w.heap.size,7,none⟩ (.slice none 0 0))=Wf at *;obtain ⟨r0,r1,r2,r3,r4,r5,r6,r7⟩:=aL z1
  exact bodyPost_ret (v:=.tuple #[.agg zeroKey,.int .i64 (E1:Int)]) (by simp [results,Tryz.results13,go_sem,r0,r1,r2,r3,r4,r5,r6,r7]) rfl ⟨_,P,Q,E1,R,E1,rfl,y.out,.inl ⟨hE1,rfl,rfl⟩,aX _,J.out.kept z3 (fun x hx (ex:x=w.heap.size)=>by have:=F.out;omega),(H.out.any (S:=ofP p)).next (j.out.trans2 z3) (fun x hx t=>t.elim (fun h=>h) (fun h=>absurd h (Nat.ne_of_lt hx)))⟩

theorem CI:AN:=by
 intro p B n r e bs w he hs hB c d;obtain ⟨z,hz,a,b⟩:=xD;by_cases hbad:cV n r e
 ·refine (vX p n r e w hbad).mono ?_;rintro q w' ⟨rfl,k⟩;exact ⟨z,1,by rw [hz];rfl,KL.none,bs,b _,.inl ⟨hbad,rfl,a,rfl,rfl⟩,hs.grew k,k.any⟩
 ·have f:¬ (n<32∨8192<n∨n%128≠0∨e<3∨e%2=0∨4294967296≤e∨r<1∨100<r):=hbad;obtain ⟨n',rfl⟩:∃ n':Nat,n=(n':Int):=⟨n.toNat,by omega⟩
  obtain ⟨r',rfl⟩:∃ r':Nat,r=(r':Int):=⟨r.toNat,by omega⟩
  refine (se p B n' e r' bs hbad w hs hB c).mono ?_;rintro q w' ⟨kv,P,Q,E1,R,E,rfl,h1,h2,_,h3,k⟩;rcases h2 with ⟨a1,rfl,rfl⟩ | ⟨a1,rfl,a2,a3⟩ | ⟨a1,rfl,a2,rfl⟩
  ·exact ⟨z,E,by rw [hz],KL.none,R,b _,.inr ⟨hbad,P,Q,E,h1,.inl ⟨a1,rfl,a,rfl⟩⟩,h3,k⟩
  ·obtain ⟨t,l,rfl,h4,h5⟩:=BK a2 a3;exact ⟨t,0,rfl,l,R,h4,.inr ⟨hbad,P,Q,E1,h1,.inr ⟨a1,h5⟩⟩,h3,k⟩
  ·exact ⟨z,190,by rw [hz],KL.none,R,b _,.inr ⟨hbad,P,Q,E1,h1,.inr ⟨a1,.inr ⟨rfl,a2,a,rfl⟩⟩⟩,h3,k⟩

theorem pX (P Q:Nat):(P-1) ∣ bZ P Q∧(Q-1) ∣ bZ P Q:=by
 unfold bZ;generalize P-1=a;generalize Q-1=b;refine ⟨?_,Nat.dvd_mul_left _ _⟩;rcases Nat.eq_zero_or_pos (Nat.gcd a b) with h | h
 ·rw [Nat.gcd_eq_zero_iff] at h;rw [h.1,h.2];exact ⟨0,rfl⟩
 ·obtain ⟨x,hx⟩:=Nat.gcd_dvd_left a b;obtain ⟨y,hy⟩:=Nat.gcd_dvd_right a b;generalize Nat.gcd a b=g at *;subst hx;subst hy;rw [Nat.mul_div_cancel_left _ h];exact ⟨y,by rw [Nat.mul_left_comm,Nat.mul_assoc]⟩

theorem zr (P Q:Nat):bZ P Q≤P*Q:=by
 unfold bZ;exact Nat.mul_le_mul (Nat.le_trans (Nat.div_le_self _ _) (Nat.sub_le _ _)) (Nat.sub_le _ _)

theorem fZ {X n:Nat} (h:aj X≤n):val (digs X n)=X:=by
 rw [ak,al ((am X n).1 h)]

theorem fT {X Y:Nat} (h:X≤Y):aj X≤aj Y:=(am X _).2 (Nat.lt_of_le_of_lt h ((am Y _).1 (leR _)))

structure KeyNums (P Q e d u:Nat) (l:KL):Prop where
 vn:val l.n=P*Q
 vd:val l.d=d
 vp:val l.p=P
 vq:val l.q=Q
 vdp:val l.dp=d%(P-1)
 vdq:val l.dq=d%(Q-1)
 vqi:val l.qi=u
 p3:3≤P
 q3:3≤Q
 ed:1≤d*e
 e1:(d*e-1)%(P-1)=0
 e2:(d*e-1)%(Q-1)=0
 u1:u*Q%P=1
 lp:aF P≤256
 lq:aF Q≤256
 ld:aF d≤512
 lu:aF u≤256
 lde:aF (d*e)≤514
 lde1:aF (d*e-1)≤514
 luq:aF (u*Q)≤512

theorem jB {X Y n:Nat} (h:X≤Y) (hY:aF Y≤n):aF X≤n:=(aN X n).2 (Nat.lt_of_le_of_lt h ((aN Y n).1 hY))

theorem jx {X Y n m:Nat} (hX:aF X≤n) (hY:aF Y≤m):aF (X*Y)≤n+m:=(aN _ _).2 (by
 rw [Nat.pow_add];exact Nat.mul_lt_mul'' ((aN X n).1 hX) ((aN Y m).1 hY))

theorem pB {L M P Q e d u:Nat} {l:KL} (he:e<18446744073709551616) (r:bw L M P Q e) (h:ib P Q e d u l.n l.d l.p l.q l.dp l.dq l.qi):KeyNums P Q e d u l:=by
 obtain ⟨h1,h2,h3,h4,a1,a2,a3,a4,a5,a6,a7⟩:=h;obtain ⟨_,⟨p3,_,pb⟩,⟨q3,_,qb⟩,_,_,_⟩:=r;have c:aF P≤256:=eN (by omega);have f:aF Q≤256:=eN (by omega);have s:=jx c f;have b:d≤P*Q:=Nat.le_trans (Nat.le_of_lt h1) (zr P Q);have i:aF d≤512:=jB b s;have k:aF e≤2:=(aN e 2).2 he;have a:=jx i k;have g:(aO P Q).length=max (aj (P*Q)) 1:=ag _ _ _;have o:1≤d*e:=by
  rcases Nat.eq_zero_or_pos (d*e) with h0 | h0
  ·rw [Nat.mul_comm,h0,Nat.zero_mod] at h2;omega
  ·exact h0
 have j:∀ m,m ∣ bZ P Q→(d*e-1)%m=0:=fun m hm=>by
  have h5:bZ P Q ∣ d*e-1:=by
   rw [Nat.mul_comm e d] at h2;exact ⟨d*e/bZ P Q,by have:=Nat.div_add_mod (d*e) (bZ P Q);omega⟩
  exact Nat.mod_eq_zero_of_dvd (Nat.dvd_trans hm h5)
 have hu:u≤P:=Nat.le_of_lt h3;refine ⟨?_,?_,?_,?_,?_,?_,?_,p3,q3,o,j _ (pX P Q).1,j _ (pX P Q).2,by rw [Nat.mul_comm];exact h4,c,f,i,jB hu c,a,jB (Nat.sub_le _ _) a,jx (jB hu c) f⟩
 ·rw [a1];exact fZ (by omega)
 ·rw [a2,g];exact fZ (Nat.le_trans (fT b) (by omega))
 ·rw [a3];exact fZ (by omega)
 ·rw [a4];exact fZ (by omega)
 ·rw [a5];exact fZ (Nat.le_trans (fT (Y:=P) (by have:=Nat.mod_lt d (show P-1 > 0 by omega);omega)) (by omega))
 ·rw [a6];exact fZ (Nat.le_trans (fT (Y:=Q) (by have:=Nat.mod_lt d (show Q-1 > 0 by omega);omega)) (by omega))
 ·rw [a7];exact fZ (Nat.le_trans (fT hu) (by omega))

theorem oV {L M P Q e d u:Nat} {l:KL} (he:e<18446744073709551616) (b:bw L M P Q e) (h:ib P Q e d u l.n l.d l.p l.q l.dp l.dq l.qi):eO l.n l.d l.p l.q l.dp l.dq l.qi e:=by
 have hN:=pB he b h;have a:∀ X,au X≤8192→aj X≤128:=fun X hX=>aJ (by omega)
 have w1:=a P b.2.1.2.2;have w2:=a Q b.2.2.1.2.2;have l1:l.p.length=max (aj P) (aj Q):=by rw [h.2.2.2.2.2.2.1];exact ag _ _ _
 have l2:l.q.length=max (aj P) (aj Q):=by rw [h.2.2.2.2.2.2.2.1];exact ag _ _ _
 unfold eO;rw [hN.vp,hN.vq];exact ⟨⟨⟨by rw [l1];omega,by rw [l2];omega⟩,b.2⟩,d,u,h⟩

theorem SecR.tells {n e r:Nat} {P:List Nat}:∀ {f:Nat} {bs P' Q R:List Nat},SecR n e r P f bs (P',Q,0,R)→P'=P∧P≠Q∧∃ cs,Q=cC cs n∧fd (dr (cs.take ((n+7)/8)) n) e
 | 0,_,_,_,_,h=>h.elim
 | f+1,bs,P',Q,R,h=>by
  obtain ⟨Q0,K,E,R0,h1,h2⟩:=h;rcases h2 with ⟨a1,a2⟩ | ⟨a1,a2,a3⟩ | ⟨a1,a2,a3⟩
  ·simp only [Prod.mk.injEq] at a2;exact absurd a2.2.2.1.symm a1
  ·simp only [Prod.mk.injEq] at a3;obtain ⟨rfl,rfl,_,rfl⟩:=a3;subst a1;rcases h1.tells with ⟨b1,_⟩ | ⟨_,_,b3⟩
   ·exact absurd rfl b1
   ·exact ⟨rfl,a2,b3⟩
  ·exact SecR.tells a3

theorem PairR.tells {n e r:Nat} {bs P Q R:List Nat} (h:PairR n e r bs (P,Q,0,R)):P≠Q∧(∃ cs,P=cC cs (n/2)∧fd (dr (cs.take ((n/2+7)/8)) (n/2)) e)∧∃ cs,Q=cC cs (n/2)∧fd (dr (cs.take ((n/2+7)/8)) (n/2)) e:=by
 obtain ⟨P0,K,E,R0,h1,h2⟩:=h;rcases h2 with ⟨a1,a2⟩ | ⟨a1,a2⟩
 ·simp only [Prod.mk.injEq] at a2;exact absurd a2.2.2.1.symm a1
 ·obtain ⟨rfl,b1,b2⟩:=a2.tells;subst a1;rcases h1.tells with ⟨c1,_⟩ | ⟨_,_,c3⟩
  ·exact absurd rfl c1
  ·exact ⟨b1,c3,b2⟩

theorem tL (bs cs:List Nat) {m:Nat} (hm:16≤m):au (dr bs m*dr cs m)=2*m:=by
 obtain ⟨k,s,rfl,h1,h2,_,_⟩:=jS bs hm;obtain ⟨k',s',a,g1,g2,_,_⟩:=jS cs hm;obtain rfl:k'=k:=by omega
 rw [h1,g1];have e0:2^(2*k'+3)=8*(2^k'*2^k'):=by rw [Nat.pow_add,Nat.mul_comm 2 k',Nat.pow_mul,Nat.pow_two];omega
 have e1:2^(2*k'+3+1)=16*(2^k'*2^k'):=by rw [Nat.pow_succ,e0];omega
 generalize 2^k'=T at *;have l1:3*T*(3*T)≤(3*T+s)*(3*T+s'):=Nat.mul_le_mul (by omega) (by omega);have l2:(3*T+s)*(3*T+s')<4*T*(4*T):=Nat.mul_lt_mul'' (by omega) (by omega);have e2:3*T*(3*T)=9*(T*T):=by rw [Nat.mul_mul_mul_comm]
 have e3:4*T*(4*T)=16*(T*T):=by rw [Nat.mul_mul_mul_comm]
 have hT:0<T*T:=by
  rcases Nat.eq_zero_or_pos T with h | h
  ·omega
  ·exact Nat.mul_pos h h
 generalize (3*T+s)*(3*T+s')=V at *;rw [show 2*(k'+2)=2*k'+3+1 by omega];refine nm (by rw [e1];omega) ?_;have:V/2^(2*k'+3)=1:=by
  rw [e0];exact Nat.div_eq_of_lt_le (by omega) (by omega)
 rw [this]
 decide

structure GenGood (n:Int) (e en:Nat) (l:KL):Prop where
 en:en=e
 n0:n=(n.toNat:Int)
 bits:au (val l.n)=n.toNat
 good:eO l.n l.d l.p l.q l.dp l.dq l.qi e
 ne:l.p≠l.q
 gp:fd (val l.p) e
 gq:fd (val l.q) e
 ln:l.n.length≤1000
 lp:l.p.length≤1000
 lq:l.q.length≤1000

theorem uU {n r:Int} {e:Nat} (he:e<18446744073709551616) {bs:List Nat} {en:Nat} {l:KL} {R:List Nat} (h:genSays n r e bs 0 en l R):GenGood n e en l:=by
 rcases h with ⟨_,h1,_⟩ | ⟨h0,P,Q,E1,h1,⟨h2,h3,_⟩ | ⟨h2,h3⟩⟩
 ·omega
 ·exact absurd h3.symm h2
 ·subst h2;rcases h3 with ⟨_,hok,hen,d,u,hkr⟩ | ⟨h4,_⟩
  ·have c:¬ (n<32∨8192<n∨n%128≠0∨e<3∨e%2=0∨4294967296≤e∨r<1∨100<r):=h0;have hN:=pB he hok hkr;obtain ⟨t1,⟨cs,t2,t3⟩,⟨ds,t4,t5⟩⟩:=h1.tells;have hm:16≤n.toNat/2:=by omega
   have vp:val P=dr (cs.take ((n.toNat/2+7)/8)) (n.toNat/2):=by rw [t2];exact i9 cs hm
   have vq:val Q=dr (ds.take ((n.toNat/2+7)/8)) (n.toNat/2):=by rw [t4];exact i9 ds hm
   have w1:aj (val P)≤128:=aJ (by have:=hok.2.1.2.2;omega);have w2:aj (val Q)≤128:=aJ (by have:=hok.2.2.1.2.2;omega);have a:(aO (val P) (val Q)).length=max (aj (val P*val Q)) 1:=ag _ _ _;have b:aj (val P*val Q)≤512:=fz (jx hN.lp hN.lq);refine ⟨hen,by omega,?_,oV he hok hkr,?_,?_,?_,?_,?_,?_⟩
   ·rw [hN.vn,vp,vq,tL _ _ hm];omega
   ·intro heq;have h5:val P=val Q:=by rw [← hN.vp,← hN.vq,heq]
    refine t1 ?_;rw [t2,t4];unfold cC;rw [← vp,← vq,h5]
   ·rw [hN.vp,vp];exact t3
   ·rw [hN.vq,vq];exact t5
   ·rw [hkr.2.2.2.2.1,a];omega
   ·rw [hkr.2.2.2.2.2.2.1,ag];omega
   ·rw [hkr.2.2.2.2.2.2.2.1,ag];omega
  ·omega

theorem ud {n r:Int} {e:Nat} {bs:List Nat} {E en:Nat} {l:KL} {R:List Nat} (h:genSays n r e bs E en l R) (hE:E≠0):en=0∧l=KL.none:=by
 rcases h with ⟨_,_,h1,h2,_⟩ | ⟨_,P,Q,E1,_,⟨_,_,h1,h2⟩ | ⟨_,h3⟩⟩
 ·exact ⟨h1,h2⟩
 ·exact ⟨h1,h2⟩
 ·rcases h3 with ⟨h4,_⟩ | ⟨_,_,h1,h2⟩
  ·exact absurd h4 hE
  ·exact ⟨h1,h2⟩

theorem kC (hG:AN) (u:Value) (bs:List Nat) (n e r:Int) (w:World) (hu:Row .u8 w u bs) (db:Digs bs 256) (he:(Lit.int .u64 e).wf=true) :
  Calls Tryz.prog 5 #[u,.int .i64 n,.int .u64 e,.int .i64 r] w fun e w'=>e=.returned (.bool true)∧Below w.heap.size w w':=by
 obtain ⟨S,ad⟩:=bounds_u64 he;obtain ⟨ee,rfl⟩:=Int.eq_ofNat_of_zero_le S;have D:Hid (ee<18446744073709551616):=by unfold Hid;omega
 have HU:=aa hu;obtain ⟨uo,un,uc,rfl,Y,_⟩:=hu.open;have Z:=aa Y.out;have ae:=aa db;have J0:=sq hG w;have z:=aa hG;clear hu Y db he S ad hG;by_cases hf:un≤3000∧(n≤128∨8192<n)
 ·have j:=aa fun W=>uE uo un uc n true (iff_of_true rfl hf) W
  have V:Hid (un≤3000):=hf.1;clear hf;go_enter Tryz.func5,Tryz.ntmps5;go_wp2_with fail;refine J0.mono ?_;rintro e w1 ⟨rfl,k1⟩;have C:=aa k1;have J1:=j.out w1;clear J0 k1;go_wp2_with fail;refine J1.mono ?_;rintro e w2 ⟨rfl,rfl⟩;have J2:=yk _ _ w2 (HU.out.grew C.out) (by have:=Z.out;have:=V.out;omega);clear J1;go_wp2_with fail;refine J2.mono ?_;rintro e w3 ⟨g,rfl,hg,X,k3⟩;have T:=aa (C.out.trans k3);have J3:=z.out (some ⟨g,0,none⟩) w3.heap.size n r ee bs w3 D.out X (leR _) ae.out (by have:=Z.out;have:=V.out;omega);have HG:Hid (w.heap.size≤g∧w.heap.size≤w3.heap.size):=⟨Nat.le_trans C.out.size hg,T.out.size⟩
  clear J2 k3 X;go_wp2_with fail;refine J3.mono ?_;rintro e w5 ⟨t,E,rfl,l,R,O,a,_,k5⟩;have K5:Hid (Kept af w w5):=T.out.next k5 (fun y hy f=>by have h1:=jW f;have h2:=HG.out;omega)
  obtain ⟨W5,A⟩:∃ W5,W5=w5.alloc (.cells t.v 42):=⟨_,rfl⟩
  have H:Kept af w5 W5:=by rw [A];exact (ai af w5).alloc _
  have J:W5.heap[w5.heap.size]? = some (.cells t.v 42 (0,0)):=by rw [A];exact heap_alloc_new _ _
  have JC:Hid (∀ W,Kept af W5 W→W.cell? ⟨w5.heap.size,0,none⟩=some (.slice t.no t.nl t.nc)∧W.cell? ⟨w5.heap.size,1,none⟩=some (.int .u64 ((t.en:Nat):Int))∧W.cell? ⟨w5.heap.size,2,none⟩=some (.slice t.dO t.dl t.dc)∧W.cell? ⟨w5.heap.size,3,none⟩=some (.slice t.po t.pl t.pc)∧W.cell? ⟨w5.heap.size,4,none⟩=some (.slice t.qo t.ql t.qc)∧W.cell? ⟨w5.heap.size,5,none⟩=some (.slice t.dpo t.dpl t.dpc)∧W.cell? ⟨w5.heap.size,6,none⟩=some (.slice t.dqo t.dql t.dqc)∧W.cell? ⟨w5.heap.size,7,none⟩=some (.slice t.qio t.qil t.qic)):=fun W k=>aL ((k.block _ (lt_of_block J) (fun f=>f)).trans J)
  have b:=aa (O.grew H);have x:=aa a.digs;have s:=aa A;have U:=aa (K5.out.trans H);obtain ⟨c0,c1,c2,c3,c4,c5,c6,c7⟩:=JC.out _ (ai _ _);by_cases hE:E=0
  ·subst hE;have G:=aa (uU D.out a);obtain ⟨m,rfl⟩:∃ m:Nat,n=(m:Int):=⟨n.toNat,G.out.n0⟩
   have hb:au (val l.n)=m:=by rw [G.out.bits];exact Int.toNat_natCast m
   have i:=G.out.en;have M:∀ (o:Option Addr) (n c:Nat) (zs:List Nat),Row .u64 W5 (.slice o n c) zs→zs.length≤1000→n≤1000:=fun o n c zs hr hz=>by
    obtain ⟨_,_,_,e1,h1,_⟩:=hr.open;cases e1
    rw [← h1.out];exact hz
   have L:Hid (t.pl≤1000∧t.ql≤1000):=⟨M _ _ _ _ b.out.p G.out.lp,M _ _ _ _ b.out.q G.out.lq⟩
   have h1:=rOf (.slice t.no t.nl t.nc) l.n W5 b.out.n x.out.n (by have:=G.out.ln;omega);rw [i] at c1;clear J3 O a k5 H J A M;unfold KS.v at s ⊢;rw [i] at s ⊢;have I:=aa i;clear i;go_wp2_with (rw [← s.out]);refine h1.mono ?_;rintro e w6 ⟨v6,rfl,b6,_,k6⟩;have h2:=iH v6 _ w6 b6;rw [hb] at h2;clear h1 b6 hb;go_wp2_with fail;refine h2.mono ?_;rintro e w7 ⟨rfl,rfl⟩;clear c0 c1 c2 c3 c4 c5 c6 c7 h2;obtain ⟨c0,c1,c2,c3,c4,c5,c6,c7⟩:=JC.out _ k6;rw [I.out] at c1
   have h3:=sV t.no t.dO t.po t.qo t.dpo t.dqo t.qio t.nl t.nc t.dl t.dc t.pl t.pc t.ql t.qc t.dpl t.dpc t.dql t.dqc t.qil t.qic ee l.n l.d l.p l.q l.dp l.dq l.qi D.out 0 (.inl ⟨rfl,G.out.good⟩) w7 (b.out.n.grew k6) (b.out.d.grew k6) (b.out.p.grew k6) (b.out.q.grew k6) (b.out.dp.grew k6) (b.out.dq.grew k6) (b.out.qi.grew k6) x.out.p x.out.q (by have:=L.out;omega) (by have:=L.out;omega);go_wp2_with fail;refine h3.mono ?_;rintro e w8 ⟨rfl,k8⟩;have F:=k6.trans k8;clear c0 c1 c2 c3 c4 c5 c6 c7 h3;obtain ⟨c0,c1,c2,c3,c4,c5,c6,c7⟩:=JC.out _ F;rw [I.out] at c1;have h4:=jk _ _ _ _ w8 (b.out.p.grew F) (b.out.q.grew F);rw [aC G.out.ne] at h4;clear k6 k8
   go_wp2_with fail;refine h4.mono ?_;rintro e aj ⟨rfl,nq,rfl⟩;have B:=F.drewN nq;obtain ⟨w9,ac⟩:∃ w9,w9=w8.drewN nq:=⟨_,rfl⟩
   rw [← ac] at B ⊢;clear c0 c1 c2 c3 c4 c5 c6 c7 h4 ac F;obtain ⟨c0,c1,c2,c3,c4,c5,c6,c7⟩:=JC.out _ B;rw [I.out] at c1;have h5:=qm t.po t.pl t.pc l.p ee D.out true (iff_of_true rfl G.out.gp) w9 (b.out.p.grew B) x.out.p (by have:=L.out;omega);go_wp2_with fail;refine h5.mono ?_;rintro e ag ⟨rfl,Q⟩;have h:=B.trans Q;clear c0 c1 c2 c3 c4 c5 c6 c7 h5 B Q;obtain ⟨c0,c1,c2,c3,c4,c5,c6,c7⟩:=JC.out _ h;rw [I.out] at c1;have h6:=qm t.qo t.ql t.qc l.q ee D.out true (iff_of_true rfl G.out.gq) ag (b.out.q.grew h) x.out.q (by have:=L.out;omega);go_wp2_with fail;refine h6.mono ?_;rintro e ah ⟨rfl,ab⟩
   have N:=aa (U.out.trans (h.trans ab));clear c0 c1 c2 c3 c4 c5 c6 c7 h6 h ab;go_wp2_with fail;go_ret;exact ⟨by first | rfl | simp,fi N.out (leR _)⟩
  ·obtain ⟨i,P⟩:=ud a hE;have JM:=zW t ⟨none,0,0,0,none,0,0,none,0,0,none,0,0,none,0,0,none,0,0,none,0,0⟩ l ⟨[],[],[],[],[],[],[]⟩ true (iff_of_true rfl ⟨i,P⟩) W5 b.out ⟨Row.nil _ _,Row.nil _ _,Row.nil _ _,Row.nil _ _,Row.nil _ _,Row.nil _ _,Row.nil _ _⟩;have ak:¬ (E:Int)=0:=by omega
   have al:((E:Int) != 0)=true:=by simp;omega
   rw [i,show ((0:Nat):Int)=0 from rfl] at c1;clear J3 O a k5 H J A b x JC P hE;unfold KS.v at s JM ⊢;rw [i,show ((0:Nat):Int)=0 from rfl] at s JM ⊢;clear i;go_wp2_with (rw [← s.out]);refine JM.mono ?_;rintro e w6 ⟨rfl,k6⟩;have N:=aa (U.out.trans k6);clear JM k6;go_wp2_with fail;go_ret;exact ⟨by first | rfl | simp,fi N.out (leR _)⟩
 ·have j:=aa fun W=>uE uo un uc n false (iff_of_false (by decide) hf) W
  go_enter Tryz.func5,Tryz.ntmps5;go_wp2_with fail;refine J0.mono ?_;rintro e w1 ⟨rfl,k1⟩;have C:=aa k1;have J1:=j.out w1;clear J0 k1 hf;go_wp2_with fail;refine J1.mono ?_;rintro e w2 ⟨rfl,rfl⟩;clear J1;go_wp2_with fail;go_ret;exact ⟨rfl,fi C.out (leR _)⟩

theorem walkKeygenFormed (u:Value) (bs:List Nat) (n e r:Int) (w:World) (hu:Row .u8 w u bs) (db:Digs bs 256) (_:(Lit.int .i64 n).wf=true) (he:(Lit.int .u64 e).wf=true) (_:(Lit.int .i64 r).wf=true) (_:NoTab w) :
  Calls Tryz.prog 5 #[u,.int .i64 n,.int .u64 e,.int .i64 r] w fun e w'=>e=.returned (.bool true)∧Below w.heap.size w w':=
 kC CI u bs n e r w hu db he

end Go.Proofs.YtcemlfokmjjiaaaGreatDoor
