/- Put together of: Kex8 Kgn3 WKgMakes LKeygenMakes. -/
import Derived.Test.YtcemlfokmjjiaaaGreatDoorPm38

namespace Go.Proofs.YtcemlfokmjjiaaaGreatDoor
set_option maxRecDepth 100000
set_option maxHeartbeats 4000000
open Go.RowKit

theorem kOf (ao bo:Option Addr) (L M cap c:Nat) (xs ys:List Nat) (P Q e:Nat) (w:World) (hP:P=val xs) (hQ:Q=val ys) (hu:Row .u64 w (.slice ao L cap) xs) (hv:Row .u64 w (.slice bo M c) ys) (g:Digs xs) (h:Digs ys) (hL:L≤1000) (hM:M≤1000) :
  Calls Tryz.prog 26 #[.slice ao L cap,.slice bo M c,.int .u64 (e:Nat)] w fun r w'=>∃ kv E,r=.returned (.tuple #[.agg kv,.int .i64 ((E:Nat):Int)])∧((E=0∧cl L M P Q e∧KeyAt w' P Q e kv)∨(E=190∧¬ cl L M P Q e∧kv=zeroKey))∧eW w.heap.size kv∧Kept af w w':=by
 have ak:=fd;have he:∀ args w,(callFunc 47 args).run Tryz.prog w=.ok (.enter 47 args) w:=fun _ _=>by simp [go_sem]
 have V:=mI w (.slice ao L cap) (.slice bo M c) (.int .u64 (e:Nat)) 32 32 23;obtain ⟨W0,J⟩:∃ W0,W0=((w.alloc (.cells #[.slice ao L cap] 32)).alloc (.cells #[.slice bo M c] 32)).alloc (.cells #[.int .u64 (e:Nat)] 23):=⟨_,rfl⟩
 rw [← J] at V;obtain ⟨k0,x1,x2,x3,hs⟩:=V;obtain ⟨W,hW⟩:∃ W,W=W0.alloc (.cells zeroKey 42):=⟨_,rfl⟩
 have kW:Kept af W0 W:=by rw [hW];exact (ah af W0).alloc _
 have H:W.heap.size=W0.heap.size+1:=by rw [hW];simp
 have bK:W.heap[W0.heap.size]? = some (.cells zeroKey 42 (0,0)):=by rw [hW];exact heap_alloc_new _ _
 rw [hs] at bK H;have kE:=(ah af W).alloc (.cells #[.int .i64 0] 33);have xe:Box (W.alloc (.cells #[.int .i64 0] 33)) W.heap.size (.int .i64 0) 33:=Box.new W (.int .i64 0) 33;have ab:(W.alloc (.cells #[.int .i64 0] 33)).heap.size=W.heap.size+1:=by simp
 have k1:Kept af w (W.alloc (.cells #[.int .i64 0] 33)):=(k0.trans kW).trans kE;have y:(W.alloc (.cells #[.int .i64 0] 33)).heap[w.heap.size+1+1+1]? = some (.cells zeroKey 42 (0,0)):=aq bK;have c0:=((x1.grew kW).grew kE).cell;have c1:=((x2.grew kW).grew kE).cell;have c2:=((x3.grew kW).grew kE).cell;have j:Calls Tryz.prog 47 #[.pointer (some ⟨w.heap.size,0,none⟩),.pointer (some ⟨w.heap.size+1,0,none⟩),.pointer (some ⟨w.heap.size+1+1,0,none⟩),.pointer (some ⟨w.heap.size+1+1+1,0,none⟩)] (W.alloc (.cells #[.int .i64 0] 33)) fun r w'=>OfEnd L M P Q e W.heap.size (w.heap.size+1+1+1) w (W.alloc (.cells #[.int .i64 0] 33)) r w':=by
  by_cases hA:L≤300∧cH P
  ·by_cases hB:M≤300∧cH Q
   ·by_cases hC:fA (aT P Q) e=0
    ·by_cases hD:Nat.gcd Q P=1
     ·by_cases hE:Nat.gcd (dh P Q) e=1
      ·exact BV _ _ _ _ ao bo L M cap c xs ys P Q e _ hP hQ hA hB hC hD hE _ _ (hu.grew k1) (hv.grew k1) g h c0 c1 c2 k1 (by omega) ab y
      ·exact Ce _ _ _ _ ao bo L M cap c xs ys P Q e _ hP hQ hA hB hC hD hE _ _ (hu.grew k1) (hv.grew k1) g h c0 c1 c2
     ·exact Cy _ _ _ _ ao bo L M cap c xs ys P Q e _ hP hQ hA hB hC hD _ _ (hu.grew k1) (hv.grew k1) g h c0 c1 c2
    ·exact Cu _ _ _ _ ao bo L M cap c xs ys P Q e _ hP hQ hA hB hC _ _ (hu.grew k1) (hv.grew k1) g h c0 c1 c2
   ·exact BT _ _ _ _ ao bo L M cap c xs ys P Q e _ hP hQ hM hA hB _ _ (hu.grew k1) (hv.grew k1) g h c0 c1
  ·exact Cb _ _ _ _ ao bo L M cap c xs P Q e _ hP hL hA _ _ (hu.grew k1) g c0 c1
 have Y:=iS 47 _ W (fun n W'=>(n=0∧cl L M P Q e∧∃ kv,W'.heap[w.heap.size+1+1+1]? = some (.cells kv 42 (0,0))∧KeyAt W' P Q e kv∧eW W.heap.size kv∧Kept af w W')∨(n=190∧¬ cl L M P Q e∧W'.heap[w.heap.size+1+1+1]? = some (.cells zeroKey 42 (0,0))∧Kept af w W')) he (j.mono (by
  rintro r w' (⟨C,rfl,kv,h1,h2,h3,h4,h5⟩ | ⟨t,rfl,h1⟩)
  ·exact ⟨xe.kept h4 (by omega),.inl ⟨rfl,.inl ⟨rfl,C,kv,h1,h2,h3,h5⟩⟩⟩
  ·exact ⟨xe.grew h1,.inr ⟨_,rfl,.inr ⟨rfl,t,(h1.block _ (lt_of_block y) (fun f=>f)).trans y,k1.trans h1⟩⟩⟩))
 have ad:=aa J;have HW:=aa hW;have i:=aa H;have ae:=aa hs;clear hu hv g h hP hQ hL hM k0 kW kE k1 x1 x2 x3 xe hs ab J hW H bK y c0 c1 c2 he j;unfold zeroKey at HW;go_enter Tryz.func26,Tryz.ntmps26;go_wp2_with (first | rw [← ad.out] | rw [← HW.out]);rw [ae.out];refine Y.mono ?_;rintro r w' ⟨n,w1,rfl,⟨hq,X⟩,rfl⟩;clear Y;rcases hq with ⟨rfl,C,kv,hx,z,hfar,hk⟩ | ⟨rfl,t,hx,hk⟩
 ·obtain ⟨vn,vd,vp,vq,an,am,al,d,u,rfl,rn,U,T,rd,rp,rq,N,I,S,Z,R⟩:=z;obtain ⟨no,nl,nc,rfl,-,-,-,-,-⟩:=rn.open;obtain ⟨dO,dl,dc,rfl,-,-,-,-,-⟩:=rd.open;obtain ⟨po,pl,pc,rfl,-,-,-,-,-⟩:=rp.open;obtain ⟨qo,ql,qc,rfl,-,-,-,-,-⟩:=rq.open;obtain ⟨m,B,D,rfl,-,-,-,-,-⟩:=N.open;obtain ⟨o,q,A,rfl,-,-,-,-,-⟩:=I.open;obtain ⟨s,p,F,rfl,-,-,-,-,-⟩:=R.open;have z:KeyAt w1 P Q e #[.slice no nl nc,.int .u64 (e:Nat),.slice dO dl dc,.slice po pl pc,.slice qo ql qc,.slice m B D,.slice o q A,.slice s p F]:=⟨_,_,_,_,_,_,_,d,u,rfl,rn,U,T,rd,rp,rq,N,I,S,Z,R⟩
  have kb:=au w1 W.heap.size (.int .i64 0);have l:=z.kept kb (fun v hv x hx ai=>by have:=hfar v hv x hx;omega);have b:=dF hx (a:=⟨W.heap.size,0,none⟩) (by show _≠W.heap.size;have:=i.out;omega) (.int .i64 0);have k:=hk.next kb (fun x hx e=>by have:=i.out;omega)
  obtain ⟨z1,z2,z3⟩:=dI k (by omega:w.heap.size≤w.heap.size+1+1+1) b (.slice no nl nc) (.int .u64 (e:Nat)) (.slice dO dl dc) (.slice po pl pc) (.slice qo ql qc) (.slice m B D) (.slice o q A) (.slice s p F);unfold cV at z1 z2 z3;have ag:=aa (l.kept z3 (fun v hv x hx ai=>by have h1:=hfar v hv x hx;have h2:=i.out;omega));have O:Hid (eW w.heap.size #[.slice no nl nc,.int .u64 (e:Nat),.slice dO dl dc,.slice po pl pc,.slice qo ql qc,.slice m B D,.slice o q A,.slice s p F]):=fun v hv x hx=>by have h1:=hfar v hv x hx;have h2:=i.out;omega
  have G:=aa z2;obtain ⟨r0,r1,r2,r3,r4,r5,r6,r7⟩:=aK z1;obtain ⟨c0,c1,c2,c3,c4,c5,c6,c7⟩:=aK b;have f0:=aM b 0;have f1:=aM b 1;have f2:=aM b 2;have f3:=aM b 3;have f4:=aM b 4;have f5:=aM b 5;have f6:=aM b 6;have f7:=aM b 7;have ac:=aa C;clear rn rd rp rq N I R z kb l hx hk k hfar b z1 z2 z3 X C U T S Z;generalize w1.setCell ⟨W.heap.size,0,none⟩ (.int .i64 0)=W2 at *;go_wp2_with fail
  exact bodyPost_ret (v:=.tuple #[.agg #[.slice no nl nc,.int .u64 (e:Nat),.slice dO dl dc,.slice po pl pc,.slice qo ql qc,.slice m B D,.slice o q A,.slice s p F],.int .i64 0]) (by simp [results,Tryz.results26,go_sem,r0,r1,r2,r3,r4,r5,r6,r7]) rfl ⟨_,0,rfl,.inl ⟨rfl,ac.out,ag.out⟩,O.out,G.out⟩
 ·have kb:=au w1 W.heap.size (.int .i64 190);have b:=dF hx (a:=⟨W.heap.size,0,none⟩) (by show _≠W.heap.size;have:=i.out;omega) (.int .i64 190);have k:=hk.next kb (fun x hx e=>by have:=i.out;omega)
  obtain ⟨z1,z2,-⟩:=dI k (by omega:w.heap.size≤w.heap.size+1+1+1) b (.slice none 0 0) (.int .u64 0) (.slice none 0 0) (.slice none 0 0) (.slice none 0 0) (.slice none 0 0) (.slice none 0 0) (.slice none 0 0);unfold cV at z1 z2;have G:=aa z2;obtain ⟨r0,r1,r2,r3,r4,r5,r6,r7⟩:=aK z1;obtain ⟨c0,c1,c2,c3,c4,c5,c6,c7⟩:=aK b;have f0:=aM b 0;have f1:=aM b 1;have f2:=aM b 2;have f3:=aM b 3;have f4:=aM b 4;have f5:=aM b 5;have f6:=aM b 6;have f7:=aM b 7;have aj:=aa t;clear kb hx hk k b z1 z2 X t;generalize w1.setCell ⟨W.heap.size,0,none⟩ (.int .i64 190)=W2 at *;go_wp2_with fail
  exact bodyPost_ret (v:=.tuple #[.agg zeroKey,.int .i64 190]) (by simp [results,Tryz.results26,go_sem,r0,r1,r2,r3,r4,r5,r6,r7]) rfl ⟨_,190,rfl,.inr ⟨rfl,aj.out,rfl⟩,aU _,G.out⟩

def xu (w:World) (p:Option Addr) (B n e r:Nat) (bs:List Nat) (q:Ending) (w':World):Prop:=∃ kv P Q E1 R E,q=.returned (.tuple #[.agg kv,.int .i64 ((E:Nat):Int)])∧PairR n e r bs (P,Q,E1,R) ∧
 ((E1≠0∧E=E1∧kv=zeroKey)∨(E1=0∧E=0∧cl P.length Q.length (val P) (val Q) e∧KeyAt w' (val P) (val Q) e kv)∨(E1=0∧E=190∧¬ cl P.length Q.length (val P) (val Q) e∧kv=zeroKey)) ∧
 eW w.heap.size kv∧Lsc w' p B R∧Kept (ofP p) w w'

theorem xj (p:Option Addr) (n r:Int) (e:Nat) (w:World) (a:cW n r e) :
  Calls Tryz.prog 13 #[.pointer p,.int .i64 n,.int .u64 (e:Nat),.int .i64 r] w fun q w'=>q=.returned (.tuple #[.agg zeroKey,.int .i64 1])∧Kept af w w':=by
 obtain ⟨W0,b⟩:∃ W0,W0=w.alloc (.cells #[.slice none 0 0,.int .u64 0,.slice none 0 0,.slice none 0 0,.slice none 0 0,.slice none 0 0,.slice none 0 0,.slice none 0 0] 42):=⟨_,rfl⟩
 have k0:Kept af w W0:=by rw [b];exact (ah af w).alloc _
 have c:W0.heap[w.heap.size]? = some (.cells #[.slice none 0 0,.int .u64 0,.slice none 0 0,.slice none 0 0,.slice none 0 0,.slice none 0 0,.slice none 0 0,.slice none 0 0] 42 (0,0)):=by rw [b];exact heap_alloc_new _ _
 have g:Hid (∀ W,Kept af W0 W→W.heap[w.heap.size]? = some (.cells #[.slice none 0 0,.int .u64 0,.slice none 0 0,.slice none 0 0,.slice none 0 0,.slice none 0 0,.slice none 0 0,.slice none 0 0] 42 (0,0))):=fun W k=>(k.block _ (lt_of_block c) (fun f=>f)).trans c
 have hP:=vv p n r e W0 a;have j:=aa b;have i:=aa k0;clear b k0 c a;go_enter Tryz.func13,Tryz.ntmps13;go_wp2_with (rw [← j.out]);refine hP.mono ?_;rintro q w1 ⟨rfl,k1⟩;have h:=aa k1;have d:=g.out _ k1;clear hP k1;obtain ⟨c0,c1,c2,c3,c4,c5,c6,c7⟩:=aK d;have f:=aM d;go_wp2_with fail;obtain ⟨z1,z3⟩:=eN d (.slice none 0 0) (.int .u64 0) (.slice none 0 0) (.slice none 0 0) (.slice none 0 0) (.slice none 0 0) (.slice none 0 0) (.slice none 0 0);unfold cV at z1 z3
 generalize ((((((((w1.setCell ⟨w.heap.size,0,none⟩ (.slice none 0 0)).setCell ⟨w.heap.size,1,none⟩ (.int .u64 0)).setCell ⟨w.heap.size,2,none⟩ (.slice none 0 0)).setCell ⟨w.heap.size,3,none⟩ (.slice none 0 0)).setCell ⟨w.heap.size,4,none⟩ (.slice none 0 0)).setCell ⟨w.heap.size,5,none⟩ (.slice none 0 0)).setCell ⟨w.heap.size,6,none⟩ (.slice none 0 0)).setCell ⟨w.heap.size,7,none⟩ (.slice none 0 0))=Wf at *;obtain ⟨r0,r1,r2,r3,r4,r5,r6,r7⟩:=aK z1;exact bodyPost_ret (v:=.tuple #[.agg zeroKey,.int .i64 1]) (by simp [results,Tryz.results13,go_sem,r0,r1,r2,r3,r4,r5,r6,r7]) rfl ⟨rfl,(i.out.trans h.out).next z3 (fun x hx (ex:x=w.heap.size)=>by omega)⟩

theorem sU (p:Option Addr) (B n e r:Nat) (bs:List Nat) (b:¬ cW (n:Int) (r:Int) e) (w:World) (h:Lsc w p B bs) (hB:B≤w.heap.size) (U:Digs bs 256) :
  Calls Tryz.prog 13 #[.pointer p,.int .i64 (n:Nat),.int .u64 (e:Nat),.int .i64 (r:Nat)] w fun q w'=>xu w p B n e r bs q w':=by
 obtain ⟨W0,l⟩:∃ W0,W0=w.alloc (.cells #[.slice none 0 0,.int .u64 0,.slice none 0 0,.slice none 0 0,.slice none 0 0,.slice none 0 0,.slice none 0 0,.slice none 0 0] 42):=⟨_,rfl⟩
 have k0:Kept af w W0:=by rw [l];exact (ah af w).alloc _
 have D:W0.heap[w.heap.size]? = some (.cells #[.slice none 0 0,.int .u64 0,.slice none 0 0,.slice none 0 0,.slice none 0 0,.slice none 0 0,.slice none 0 0,.slice none 0 0] 42 (0,0)):=by rw [l];exact heap_alloc_new _ _
 have Y:W0.heap.size=w.heap.size+1:=by rw [l];simp
 have ad:Hid (∀ x,ofP p x→x<w.heap.size):=fun x hx=>(h.inP hx).2
 have HN:Hid (n≤8192):=by unfold cW at b;unfold Hid;omega
 have H:Hid (∀ W,Kept (ofP p) W0 W→W.heap[w.heap.size]? = some (.cells #[.slice none 0 0,.int .u64 0,.slice none 0 0,.slice none 0 0,.slice none 0 0,.slice none 0 0,.slice none 0 0,.slice none 0 0] 42 (0,0))):=fun W k=>(k.block _ (lt_of_block D) (fun f=>absurd (ad.out _ f) (Nat.lt_irrefl _))).trans D
 have hP:=qV p B n e r bs b W0 (h.grew k0) (by omega) U;have ac:=aa l;have N:=aa k0;have ab:=aa Y;have J:=aa hB;clear l k0 D Y h U hB b;go_enter Tryz.func13,Tryz.ntmps13;go_wp2_with (rw [← ac.out]);refine hP.mono ?_;rintro q w1 ⟨u,v,P,Q,E1,R,rfl,T,⟨ru,rv⟩,hs,k1⟩;have i:=aa k1;have z:=aa T;have F:=aa hs;obtain ⟨uo,ul,uc,rfl,m,-,-,-,-⟩:=ru.open;obtain ⟨vo,vl,vc,rfl,o,-,-,-,-⟩:=rv.open;clear hP T hs k1;by_cases hE1:E1=0
 ·subst hE1;obtain ⟨⟨cs,I⟩,⟨ds,C⟩⟩:=z.out.shape;have y:=kOf uo vo ul vl uc vc P Q _ _ e w1 rfl rfl ru rv (by rw [I];exact gI _ _) (by rw [C];exact gI _ _) (by have:=m.out;have:=HN.out;rw [I,iq] at *;omega) (by have:=o.out;have:=HN.out;rw [C,iq] at *;omega);rw [← m.out,← o.out] at y;have HU:Hid (P.length=ul∧Q.length=vl):=⟨m.out,o.out⟩
  clear I C ru rv m o;generalize hVP:val P=VP at *;generalize hVQ:val Q=VQ at *;have g:Hid (val P=VP∧val Q=VQ):=⟨hVP,hVQ⟩
  clear hVP hVQ;rw [HU.out.1,HU.out.2] at y;go_wp2_with fail;refine y.mono ?_;rintro q w2 ⟨kv,E,rfl,j,t,k2⟩;have A:Hid (Kept (ofP p) W0 w2):=i.out.next k2 (fun _ _ f=>f.elim)
  have X:=aa (F.out.grew k2);have c:Hid (eW w.heap.size kv):=fun v hv x hx=>by
   have:=t v hv x hx;have:=i.out.size;have:=ab.out;omega
  clear y k2 t F i;rcases j with ⟨rfl,hok,hkey⟩ | ⟨rfl,hno,rfl⟩
  ·have Z:=aa hok;have M:=aa hkey;obtain ⟨vn,vd,vp,vq,aj,ai,ag,d,u2,rfl,h0,_,_,h3,h4,h5,h6,h7,_,_,V⟩:=hkey;obtain ⟨no,nl,nc,rfl,-,-,-,-,-⟩:=h0.open;obtain ⟨L,O,G,rfl,-,-,-,-,-⟩:=h3.open;obtain ⟨po,pl,pc,rfl,-,-,-,-,-⟩:=h4.open;obtain ⟨qo,ql,qc,rfl,-,-,-,-,-⟩:=h5.open;obtain ⟨xo,xl,xc,rfl,-,-,-,-,-⟩:=h6.open;obtain ⟨yo,yl,yc,rfl,-,-,-,-,-⟩:=h7.open;obtain ⟨zo,zl,zc,rfl,-,-,-,-,-⟩:=V.open;clear hok h0 h3 h4 h5 h6 h7 V;have a:=H.out _ A.out;obtain ⟨c0,c1,c2,c3,c4,c5,c6,c7⟩:=aK a;have f:=aM a;go_wp2_with fail
   obtain ⟨z1,z3⟩:=eN a (.slice no nl nc) (.int .u64 (e:Nat)) (.slice L O G) (.slice po pl pc) (.slice qo ql qc) (.slice xo xl xc) (.slice yo yl yc) (.slice zo zl zc);unfold cV at z1 z3;generalize ((((((((w2.setCell ⟨w.heap.size,0,none⟩ (.slice no nl nc)).setCell ⟨w.heap.size,1,none⟩ (.int .u64 (e:Nat))).setCell ⟨w.heap.size,2,none⟩ (.slice L O G)).setCell ⟨w.heap.size,3,none⟩ (.slice po pl pc)).setCell ⟨w.heap.size,4,none⟩ (.slice qo ql qc)).setCell ⟨w.heap.size,5,none⟩ (.slice xo xl xc)).setCell ⟨w.heap.size,6,none⟩ (.slice yo yl yc)).setCell ⟨w.heap.size,7,none⟩ (.slice zo zl zc))=Wf at *;obtain ⟨r0,r1,r2,r3,r4,r5,r6,r7⟩:=aK z1
   exact bodyPost_ret (v:=.tuple #[.agg #[.slice no nl nc,.int .u64 (e:Nat),.slice L O G,.slice po pl pc,.slice qo ql qc,.slice xo xl xc,.slice yo yl yc,.slice zo zl zc],.int .i64 0]) (by simp [results,Tryz.results13,go_sem,r0,r1,r2,r3,r4,r5,r6,r7]) rfl ⟨_,P,Q,0,R,0,rfl,z.out,.inr (.inl ⟨rfl,rfl,by rw [HU.out.1,HU.out.2,g.out.1,g.out.2];exact Z.out,by rw [g.out.1,g.out.2];exact M.out.kept9 c.out z3 (fun x hx (ex:x=w.heap.size)=>by omega)⟩),c.out,X.out.kept z3 (fun x hx (ex:x=w.heap.size)=>by have:=J.out;omega),(N.out.any (S:=ofP p)).next (A.out.trans2 z3) (fun x hx s=>s.elim (fun h=>h) (fun h=>absurd h (Nat.ne_of_lt hx)))⟩
  ·have ae:=aa hno;clear hno;have a:=H.out _ A.out;obtain ⟨c0,c1,c2,c3,c4,c5,c6,c7⟩:=aK a;have f:=aM a;go_wp2_with fail;obtain ⟨z1,z3⟩:=eN a (.slice none 0 0) (.int .u64 0) (.slice none 0 0) (.slice none 0 0) (.slice none 0 0) (.slice none 0 0) (.slice none 0 0) (.slice none 0 0);unfold cV at z1 z3
   generalize ((((((((w2.setCell ⟨w.heap.size,0,none⟩ (.slice none 0 0)).setCell ⟨w.heap.size,1,none⟩ (.int .u64 0)).setCell ⟨w.heap.size,2,none⟩ (.slice none 0 0)).setCell ⟨w.heap.size,3,none⟩ (.slice none 0 0)).setCell ⟨w.heap.size,4,none⟩ (.slice none 0 0)).setCell ⟨w.heap.size,5,none⟩ (.slice none 0 0)).setCell ⟨w.heap.size,6,none⟩ (.slice none 0 0)).setCell ⟨w.heap.size,7,none⟩ (.slice none 0 0))=Wf at *;obtain ⟨r0,r1,r2,r3,r4,r5,r6,r7⟩:=aK z1
   exact bodyPost_ret (v:=.tuple #[.agg zeroKey,.int .i64 190]) (by simp [results,Tryz.results13,go_sem,r0,r1,r2,r3,r4,r5,r6,r7]) rfl ⟨_,P,Q,0,R,190,rfl,z.out,.inr (.inr ⟨rfl,rfl,by rw [HU.out.1,HU.out.2,g.out.1,g.out.2];exact ae.out,rfl⟩),c.out,X.out.kept z3 (fun x hx (ex:x=w.heap.size)=>by have:=J.out;omega),(N.out.any (S:=ofP p)).next (A.out.trans2 z3) (fun x hx s=>s.elim (fun h=>h) (fun h=>absurd h (Nat.ne_of_lt hx)))⟩
 ·have g1:¬ (E1:Int)=0:=by omega
  clear ru rv m o;have a:=H.out _ i.out;obtain ⟨c0,c1,c2,c3,c4,c5,c6,c7⟩:=aK a;have f:=aM a;go_wp2_with fail;obtain ⟨z1,z3⟩:=eN a (.slice none 0 0) (.int .u64 0) (.slice none 0 0) (.slice none 0 0) (.slice none 0 0) (.slice none 0 0) (.slice none 0 0) (.slice none 0 0);unfold cV at z1 z3
  generalize ((((((((w1.setCell ⟨w.heap.size,0,none⟩ (.slice none 0 0)).setCell ⟨w.heap.size,1,none⟩ (.int .u64 0)).setCell ⟨w.heap.size,2,none⟩ (.slice none 0 0)).setCell ⟨w.heap.size,3,none⟩ (.slice none 0 0)).setCell ⟨w.heap.size,4,none⟩ (.slice none 0 0)).setCell ⟨w.heap.size,5,none⟩ (.slice none 0 0)).setCell ⟨w.heap.size,6,none⟩ (.slice none 0 0)).setCell ⟨w.heap.size,7,none⟩ (.slice none 0 0))=Wf at *;obtain ⟨r0,r1,r2,r3,r4,r5,r6,r7⟩:=aK z1
  exact bodyPost_ret (v:=.tuple #[.agg zeroKey,.int .i64 (E1:Int)]) (by simp [results,Tryz.results13,go_sem,r0,r1,r2,r3,r4,r5,r6,r7]) rfl ⟨_,P,Q,E1,R,E1,rfl,z.out,.inl ⟨hE1,rfl,rfl⟩,aU _,F.out.kept z3 (fun x hx (ex:x=w.heap.size)=>by have:=J.out;omega),(N.out.any (S:=ofP p)).next (i.out.trans2 z3) (fun x hx s=>s.elim (fun h=>h) (fun h=>absurd h (Nat.ne_of_lt hx)))⟩

theorem CE:Ar:=by
 intro p B n r e bs w he hs hB c f;obtain ⟨z,hz,b,a⟩:=qz;by_cases hbad:cW n r e
 ·refine (xj p n r e w hbad).mono ?_;rintro q w' ⟨rfl,k⟩;exact ⟨z,1,by rw [hz];rfl,KL.none,bs,a _,.inl ⟨hbad,rfl,b,rfl,rfl⟩,hs.grew k,k.any⟩
 ·have d:¬ (n<32∨8192<n∨n%128≠0∨e<3∨e%2=0∨4294967296≤e∨r<1∨100<r):=hbad;obtain ⟨n',rfl⟩:∃ n':Nat,n=(n':Int):=⟨n.toNat,by omega⟩
  obtain ⟨r',rfl⟩:∃ r':Nat,r=(r':Int):=⟨r.toNat,by omega⟩
  refine (sU p B n' e r' bs hbad w hs hB c).mono ?_;rintro q w' ⟨kv,P,Q,E1,R,E,rfl,h1,h2,_,h3,k⟩;rcases h2 with ⟨a1,rfl,rfl⟩ | ⟨a1,rfl,a2,a3⟩ | ⟨a1,rfl,a2,rfl⟩
  ·exact ⟨z,E,by rw [hz],KL.none,R,a _,.inr ⟨hbad,P,Q,E,h1,.inl ⟨a1,rfl,b,rfl⟩⟩,h3,k⟩
  ·obtain ⟨t,l,rfl,h4,h5⟩:=zw a2 a3;exact ⟨t,0,rfl,l,R,h4,.inr ⟨hbad,P,Q,E1,h1,.inr ⟨a1,h5⟩⟩,h3,k⟩
  ·exact ⟨z,190,by rw [hz],KL.none,R,a _,.inr ⟨hbad,P,Q,E1,h1,.inr ⟨a1,.inr ⟨rfl,a2,b,rfl⟩⟩⟩,h3,k⟩

theorem lW (hG:Ar) (u:Value) (bs:List Nat) (n e r:Int) (w:World) (hu:Row .u8 w u bs) (db:Digs bs 256) (he:(Lit.int .u64 e).wf=true) :
  Calls Tryz.prog 4 #[u,.int .i64 n,.int .u64 e,.int .i64 r] w fun e w'=>e=.returned (.bool true)∧Below w.heap.size w w':=by
 obtain ⟨aj,al⟩:=bounds_u64 he;obtain ⟨ee,rfl⟩:=Int.eq_ofNat_of_zero_le aj;have ai:Hid (ee<18446744073709551616):=by unfold Hid;omega
 have HU:=aa hu;obtain ⟨uo,un,uc,rfl,ad,_⟩:=hu.open;have F:=aa ad.out;have ae:=aa db;have J0:=vJ hG w;have o:=aa hG;clear hu ad db he aj al hG;by_cases hf:un≤3000∧(n≤128∨8192<n)
 ·have i:=aa fun W=>vw uo un uc n true (iff_of_true rfl hf) W
  have M:Hid (un≤3000):=hf.1;clear hf;go_enter Tryz.func4,Tryz.ntmps4;go_wp2_with fail;refine J0.mono ?_;rintro e w1 ⟨rfl,k1⟩;have x:=aa k1;have J1:=i.out w1;clear J0 k1;go_wp2_with fail;refine J1.mono ?_;rintro e w2 ⟨rfl,rfl⟩;have J2:=yF _ _ w2 (HU.out.grew x.out) (by have:=F.out;have:=M.out;omega);clear J1;go_wp2_with fail;refine J2.mono ?_;rintro e w3 ⟨g,rfl,hg,S,k3⟩;have I:=aa (x.out.trans k3);obtain ⟨W4,z⟩:∃ W4,W4=w3.alloc (.cells #[.slice uo un uc] 30):=⟨_,rfl⟩
  have k4:Kept af w3 W4:=by rw [z];exact (ah af w3).alloc _
  have ab:ScrAt W4 w3.heap.size (w3.heap.size+1) bs:=by rw [z];exact zR (HU.out.grew I.out)
  have A:W4.heap.size=w3.heap.size+1:=by rw [z];simp
  have an:=aa (I.out.trans k4);have G:=S.grew k4;have Q:w3.heap.size≤W4.heap.size:=by omega
  have ar:=aa z;have J3:=o.out (some ⟨g,0,none⟩) w3.heap.size n r ee bs W4 ai.out G Q ae.out (by have:=F.out;have:=M.out;omega);have HG:Hid (w.heap.size≤g∧w.heap.size≤w3.heap.size):=⟨Nat.le_trans x.out.size hg,I.out.size⟩
  have P:=aa G;have ak:=aa ab;have k:=aa A;clear J2 k3 k4 S G ab Q z A;go_wp2_with (rw [← ar.out]);refine J3.mono ?_;rintro e w5 ⟨t,E,rfl,l,R,X,h,aq,k5⟩;have J:=ak.out.other P.out k5;have K5:Hid (Kept af w w5):=an.out.next k5 (fun y hy f=>by have h1:=jT f;have h2:=HG.out;omega)
  obtain ⟨W5,C⟩:∃ W5,W5=w5.alloc (.cells t.v 42):=⟨_,rfl⟩
  have j:Kept af w5 W5:=by rw [C];exact (ah af w5).alloc _
  have Y:W5.heap[w5.heap.size]? = some (.cells t.v 42 (0,0)):=by rw [C];exact heap_alloc_new _ _
  have J4:=xy w3.heap.size (w3.heap.size+1) bs n r ee ai.out W5 (J.grew j) (by have h1:=k5.size;have h2:=k.out;have h3:=j.size;omega) ae.out (by have:=F.out;have:=M.out;omega);have c:=aa (J.grew j);have ac:=aa (X.grew j);have H:=aa Y;have Z:=aa C;have T:=aa h;have L:Hid (w3.heap.size<w5.heap.size):=by have h1:=k5.size;have h2:=k.out;unfold Hid;omega
  have ap:=aa (K5.out.trans j);clear J3 X aq J k5 j h Y C;unfold KS.v at Z ⊢;go_wp2_with (rw [← Z.out]);refine J4.mono ?_;rintro e w6 ⟨s,E',rfl,m,R',V,b,k6⟩;obtain ⟨rfl,N,rfl,rfl⟩:=T.out.uniq b;have hT:=ac.out
  have O:t.Rows w6 m:=⟨hT.n.kept' k6 (fun a y hy e=>dJ c.out hT.n a y hy e),hT.d.kept' k6 (fun a y hy e=>dJ c.out hT.d a y hy e),hT.p.kept' k6 (fun a y hy e=>dJ c.out hT.p a y hy e),hT.q.kept' k6 (fun a y hy e=>dJ c.out hT.q a y hy e),hT.dp.kept' k6 (fun a y hy e=>dJ c.out hT.dp a y hy e),hT.dq.kept' k6 (fun a y hy e=>dJ c.out hT.dq a y hy e),hT.qi.kept' k6 (fun a y hy e=>dJ c.out hT.qi a y hy e)⟩
  have D:w6.heap[w5.heap.size]? = some (.cells t.v 42 (0,0)):=(k6.block _ (lt_of_block H.out) (fun e=>by have e':w5.heap.size=w3.heap.size:=e;have:=L.out;omega)).trans H.out;have K6:Hid (Kept af w w6):=ap.out.next k6 (fun y hy f=>by have f':y=w3.heap.size:=f;have h2:=HG.out;omega)
  obtain ⟨W7,B⟩:∃ W7,W7=w6.alloc (.cells s.v 42):=⟨_,rfl⟩
  have k7:Kept af w6 W7:=by rw [B];exact (ah af w6).alloc _
  have U:W7.heap[w6.heap.size]? = some (.cells s.v 42 (0,0)):=by rw [B];exact heap_alloc_new _ _
  obtain ⟨c0,c1,c2,c3,c4,c5,c6,c7⟩:=aK ((k7.block _ (lt_of_block D) (fun f=>f)).trans D);obtain ⟨d0,d1,d2,d3,d4,d5,d6,d7⟩:=aK U;have JM:=AD t s m m true (iff_of_true rfl ⟨N.symm,rfl⟩) W7 (O.grew k7) (V.grew k7);have am:=aa (K6.out.trans k7);have ag:=aa B;clear J4 V b k6 hT O D k7 U B N ac H T c P ak;unfold KS.v at ag JM ⊢;go_wp2_with (rw [← ag.out]);refine JM.mono ?_;rintro e w8 ⟨rfl,k8⟩;have ao:=aa (am.out.trans k8);clear JM k8;go_wp2_with fail;go_ret;exact ⟨by first | rfl | simp,gd ao.out (leR _)⟩
 ·have i:=aa fun W=>vw uo un uc n false (iff_of_false (by decide) hf) W
  go_enter Tryz.func4,Tryz.ntmps4;go_wp2_with fail;refine J0.mono ?_;rintro e w1 ⟨rfl,k1⟩;have x:=aa k1;have J1:=i.out w1;clear J0 k1 hf;go_wp2_with fail;refine J1.mono ?_;rintro e w2 ⟨rfl,rfl⟩;clear J1;go_wp2_with fail;go_ret;exact ⟨rfl,gd x.out (leR _)⟩

theorem walkKeygenMakes (u:Value) (bs:List Nat) (n e r:Int) (w:World) (hu:Row .u8 w u bs) (db:Digs bs 256) (_:(Lit.int .i64 n).wf=true) (he:(Lit.int .u64 e).wf=true) (_:(Lit.int .i64 r).wf=true) (_:NoTab w) :
  Calls Tryz.prog 4 #[u,.int .i64 n,.int .u64 e,.int .i64 r] w fun e w'=>e=.returned (.bool true)∧Below w.heap.size w w':=
 lW CE u bs n e r w hu db he

end Go.Proofs.YtcemlfokmjjiaaaGreatDoor
