/- Put together of: Kex8 Kgn3 WKgPairs LKeygenPairs. -/
import Derived.Test.YtcemlfokmjjiaaaGreatDoorPp34

namespace Go.Proofs.YtcemlfokmjjiaaaGreatDoor
set_option maxRecDepth 100000
set_option maxHeartbeats 4000000
open Go.RowKit

theorem kOf (ao bo:Option Addr) (L M cap c:Nat) (xs ys:List Nat) (P Q e:Nat) (w:World) (hP:P=val xs) (hQ:Q=val ys) (hu:Row .u64 w (.slice ao L cap) xs) (hv:Row .u64 w (.slice bo M c) ys) (g:Digs xs) (h:Digs ys) (hL:L≤1000) (hM:M≤1000) :
  Calls Tryz.prog 26 #[.slice ao L cap,.slice bo M c,.int .u64 (e:Nat)] w fun r w'=>∃ kv E,r=.returned (.tuple #[.agg kv,.int .i64 ((E:Nat):Int)])∧((E=0∧dX L M P Q e∧KeyAt w' P Q e kv)∨(E=190∧¬ dX L M P Q e∧kv=zeroKey))∧fL w.heap.size kv∧Kept ae w w':=by
 have an:=eI;have he:∀ args w,(callFunc 47 args).run Tryz.prog w=.ok (.enter 47 args) w:=fun _ _=>by simp [go_sem]
 have V:=me w (.slice ao L cap) (.slice bo M c) (.int .u64 (e:Nat)) 32 32 23;obtain ⟨W0,O⟩:∃ W0,W0=((w.alloc (.cells #[.slice ao L cap] 32)).alloc (.cells #[.slice bo M c] 32)).alloc (.cells #[.int .u64 (e:Nat)] 23):=⟨_,rfl⟩
 rw [← O] at V;obtain ⟨k0,x1,x2,x3,hs⟩:=V;obtain ⟨W,hW⟩:∃ W,W=W0.alloc (.cells zeroKey 42):=⟨_,rfl⟩
 have kW:Kept ae W0 W:=by rw [hW];exact (ah ae W0).alloc _
 have I:W.heap.size=W0.heap.size+1:=by rw [hW];simp
 have bK:W.heap[W0.heap.size]? = some (.cells zeroKey 42 (0,0)):=by rw [hW];exact heap_alloc_new _ _
 rw [hs] at bK I;have kE:=(ah ae W).alloc (.cells #[.int .i64 0] 33);have xe:Box (W.alloc (.cells #[.int .i64 0] 33)) W.heap.size (.int .i64 0) 33:=Box.new W (.int .i64 0) 33;have U:(W.alloc (.cells #[.int .i64 0] 33)).heap.size=W.heap.size+1:=by simp
 have k1:Kept ae w (W.alloc (.cells #[.int .i64 0] 33)):=(k0.trans kW).trans kE;have D:(W.alloc (.cells #[.int .i64 0] 33)).heap[w.heap.size+1+1+1]? = some (.cells zeroKey 42 (0,0)):=am bK;have c0:=((x1.grew kW).grew kE).cell;have c1:=((x2.grew kW).grew kE).cell;have c2:=((x3.grew kW).grew kE).cell;have l:Calls Tryz.prog 47 #[.pointer (some ⟨w.heap.size,0,none⟩),.pointer (some ⟨w.heap.size+1,0,none⟩),.pointer (some ⟨w.heap.size+1+1,0,none⟩),.pointer (some ⟨w.heap.size+1+1+1,0,none⟩)] (W.alloc (.cells #[.int .i64 0] 33)) fun r w'=>OfEnd L M P Q e W.heap.size (w.heap.size+1+1+1) w (W.alloc (.cells #[.int .i64 0] 33)) r w':=by
  by_cases hA:L≤300∧cK P
  ·by_cases hB:M≤300∧cK Q
   ·by_cases hC:fN (bw P Q) e=0
    ·by_cases hD:Nat.gcd Q P=1
     ·by_cases hE:Nat.gcd (fq P Q) e=1
      ·exact A4 _ _ _ _ ao bo L M cap c xs ys P Q e _ hP hQ hA hB hC hD hE _ _ (hu.grew k1) (hv.grew k1) g h c0 c1 c2 k1 (by omega) U D
      ·exact A0 _ _ _ _ ao bo L M cap c xs ys P Q e _ hP hQ hA hB hC hD hE _ _ (hu.grew k1) (hv.grew k1) g h c0 c1 c2
     ·exact AL _ _ _ _ ao bo L M cap c xs ys P Q e _ hP hQ hA hB hC hD _ _ (hu.grew k1) (hv.grew k1) g h c0 c1 c2
    ·exact Bt _ _ _ _ ao bo L M cap c xs ys P Q e _ hP hQ hA hB hC _ _ (hu.grew k1) (hv.grew k1) g h c0 c1 c2
   ·exact Bx _ _ _ _ ao bo L M cap c xs ys P Q e _ hP hQ hM hA hB _ _ (hu.grew k1) (hv.grew k1) g h c0 c1
  ·exact AK _ _ _ _ ao bo L M cap c xs P Q e _ hP hL hA _ _ (hu.grew k1) g c0 c1
 have Y:=iG 47 _ W (fun n W'=>(n=0∧dX L M P Q e∧∃ kv,W'.heap[w.heap.size+1+1+1]? = some (.cells kv 42 (0,0))∧KeyAt W' P Q e kv∧fL W.heap.size kv∧Kept ae w W')∨(n=190∧¬ dX L M P Q e∧W'.heap[w.heap.size+1+1+1]? = some (.cells zeroKey 42 (0,0))∧Kept ae w W')) he (l.mono (by
  rintro r w' (⟨s,rfl,kv,h1,h2,h3,h4,h5⟩ | ⟨y,rfl,h1⟩)
  ·exact ⟨xe.kept h4 (by omega),.inl ⟨rfl,.inl ⟨rfl,s,kv,h1,h2,h3,h5⟩⟩⟩
  ·exact ⟨xe.grew h1,.inr ⟨_,rfl,.inr ⟨rfl,y,(h1.block _ (lt_of_block D) (fun f=>f)).trans D,k1.trans h1⟩⟩⟩))
 have aj:=aa O;have HW:=aa hW;have i:=aa I;have ac:=aa hs;clear hu hv g h hP hQ hL hM k0 kW kE k1 x1 x2 x3 xe hs U O hW I bK D c0 c1 c2 he l;unfold zeroKey at HW;go_enter Tryz.func26,Tryz.ntmps26;go_wp2_with (first | rw [← aj.out] | rw [← HW.out]);rw [ac.out];refine Y.mono ?_;rintro r w' ⟨n,w1,rfl,⟨hq,T⟩,rfl⟩;clear Y;rcases hq with ⟨rfl,s,kv,hx,z,hfar,hk⟩ | ⟨rfl,y,hx,hk⟩
 ·obtain ⟨vn,vd,vp,vq,al,ak,ap,d,u,rfl,rn,S,Z,rd,rp,rq,N,J,ab,X,H⟩:=z;obtain ⟨no,nl,nc,rfl,-,-,-,-,-⟩:=rn.open;obtain ⟨dO,dl,dc,rfl,-,-,-,-,-⟩:=rd.open;obtain ⟨po,pl,pc,rfl,-,-,-,-,-⟩:=rp.open;obtain ⟨qo,ql,qc,rfl,-,-,-,-,-⟩:=rq.open;obtain ⟨t,m,q,rfl,-,-,-,-,-⟩:=N.open;obtain ⟨p,F,o,rfl,-,-,-,-,-⟩:=J.open;obtain ⟨C,B,A,rfl,-,-,-,-,-⟩:=H.open;have z:KeyAt w1 P Q e #[.slice no nl nc,.int .u64 (e:Nat),.slice dO dl dc,.slice po pl pc,.slice qo ql qc,.slice t m q,.slice p F o,.slice C B A]:=⟨_,_,_,_,_,_,_,d,u,rfl,rn,S,Z,rd,rp,rq,N,J,ab,X,H⟩
  have kb:=ar w1 W.heap.size (.int .i64 0);have k:=z.kept kb (fun v hv x hx ad=>by have:=hfar v hv x hx;omega);have b:=di hx (a:=⟨W.heap.size,0,none⟩) (by show _≠W.heap.size;have:=i.out;omega) (.int .i64 0);have j:=hk.next kb (fun x hx e=>by have:=i.out;omega)
  obtain ⟨z1,z2,z3⟩:=lY j (by omega:w.heap.size≤w.heap.size+1+1+1) b (.slice no nl nc) (.int .u64 (e:Nat)) (.slice dO dl dc) (.slice po pl pc) (.slice qo ql qc) (.slice t m q) (.slice p F o) (.slice C B A);unfold ff at z1 z2 z3;have ag:=aa (k.kept z3 (fun v hv x hx ad=>by have h1:=hfar v hv x hx;have h2:=i.out;omega));have R:Hid (fL w.heap.size #[.slice no nl nc,.int .u64 (e:Nat),.slice dO dl dc,.slice po pl pc,.slice qo ql qc,.slice t m q,.slice p F o,.slice C B A]):=fun v hv x hx=>by have h1:=hfar v hv x hx;have h2:=i.out;omega
  have G:=aa z2;obtain ⟨r0,r1,r2,r3,r4,r5,r6,r7⟩:=dV z1;obtain ⟨c0,c1,c2,c3,c4,c5,c6,c7⟩:=dV b;have f0:=aY b 0;have f1:=aY b 1;have f2:=aY b 2;have f3:=aY b 3;have f4:=aY b 4;have f5:=aY b 5;have f6:=aY b 6;have f7:=aY b 7;have ai:=aa s;clear rn rd rp rq N J H z kb k hx hk j hfar b z1 z2 z3 T s S Z ab X;generalize w1.setCell ⟨W.heap.size,0,none⟩ (.int .i64 0)=W2 at *;go_wp2_with fail
  exact bodyPost_ret (v:=.tuple #[.agg #[.slice no nl nc,.int .u64 (e:Nat),.slice dO dl dc,.slice po pl pc,.slice qo ql qc,.slice t m q,.slice p F o,.slice C B A],.int .i64 0]) (by simp [results,Tryz.results26,go_sem,r0,r1,r2,r3,r4,r5,r6,r7]) rfl ⟨_,0,rfl,.inl ⟨rfl,ai.out,ag.out⟩,R.out,G.out⟩
 ·have kb:=ar w1 W.heap.size (.int .i64 190);have b:=di hx (a:=⟨W.heap.size,0,none⟩) (by show _≠W.heap.size;have:=i.out;omega) (.int .i64 190);have j:=hk.next kb (fun x hx e=>by have:=i.out;omega)
  obtain ⟨z1,z2,-⟩:=lY j (by omega:w.heap.size≤w.heap.size+1+1+1) b (.slice none 0 0) (.int .u64 0) (.slice none 0 0) (.slice none 0 0) (.slice none 0 0) (.slice none 0 0) (.slice none 0 0) (.slice none 0 0);unfold ff at z1 z2;have G:=aa z2;obtain ⟨r0,r1,r2,r3,r4,r5,r6,r7⟩:=dV z1;obtain ⟨c0,c1,c2,c3,c4,c5,c6,c7⟩:=dV b;have f0:=aY b 0;have f1:=aY b 1;have f2:=aY b 2;have f3:=aY b 3;have f4:=aY b 4;have f5:=aY b 5;have f6:=aY b 6;have f7:=aY b 7;have af:=aa y;clear kb hx hk j b z1 z2 T y;generalize w1.setCell ⟨W.heap.size,0,none⟩ (.int .i64 190)=W2 at *;go_wp2_with fail
  exact bodyPost_ret (v:=.tuple #[.agg zeroKey,.int .i64 190]) (by simp [results,Tryz.results26,go_sem,r0,r1,r2,r3,r4,r5,r6,r7]) rfl ⟨_,190,rfl,.inr ⟨rfl,af.out,rfl⟩,jh _,G.out⟩

def xO (w:World) (p:Option Addr) (B n e r:Nat) (bs:List Nat) (q:Ending) (w':World):Prop:=∃ kv P Q E1 R E,q=.returned (.tuple #[.agg kv,.int .i64 ((E:Nat):Int)])∧PairR n e r bs (P,Q,E1,R) ∧
 ((E1≠0∧E=E1∧kv=zeroKey)∨(E1=0∧E=0∧dX P.length Q.length (val P) (val Q) e∧KeyAt w' (val P) (val Q) e kv)∨(E1=0∧E=190∧¬ dX P.length Q.length (val P) (val Q) e∧kv=zeroKey)) ∧
 fL w.heap.size kv∧Lsc w' p B R∧Kept (ofP p) w w'

theorem xB (p:Option Addr) (n r:Int) (e:Nat) (w:World) (a:bH n r e) :
  Calls Tryz.prog 13 #[.pointer p,.int .i64 n,.int .u64 (e:Nat),.int .i64 r] w fun q w'=>q=.returned (.tuple #[.agg zeroKey,.int .i64 1])∧Kept ae w w':=by
 obtain ⟨W0,b⟩:∃ W0,W0=w.alloc (.cells #[.slice none 0 0,.int .u64 0,.slice none 0 0,.slice none 0 0,.slice none 0 0,.slice none 0 0,.slice none 0 0,.slice none 0 0] 42):=⟨_,rfl⟩
 have k0:Kept ae w W0:=by rw [b];exact (ah ae w).alloc _
 have d:W0.heap[w.heap.size]? = some (.cells #[.slice none 0 0,.int .u64 0,.slice none 0 0,.slice none 0 0,.slice none 0 0,.slice none 0 0,.slice none 0 0,.slice none 0 0] 42 (0,0)):=by rw [b];exact heap_alloc_new _ _
 have h:Hid (∀ W,Kept ae W0 W→W.heap[w.heap.size]? = some (.cells #[.slice none 0 0,.int .u64 0,.slice none 0 0,.slice none 0 0,.slice none 0 0,.slice none 0 0,.slice none 0 0,.slice none 0 0] 42 (0,0))):=fun W k=>(k.block _ (lt_of_block d) (fun f=>f)).trans d
 have hP:=nI p n r e W0 a;have j:=aa b;have i:=aa k0;clear b k0 d a;go_enter Tryz.func13,Tryz.ntmps13;go_wp2_with (rw [← j.out]);refine hP.mono ?_;rintro q w1 ⟨rfl,k1⟩;have g:=aa k1;have c:=h.out _ k1;clear hP k1;obtain ⟨c0,c1,c2,c3,c4,c5,c6,c7⟩:=dV c;have f:=aY c;go_wp2_with fail;obtain ⟨z1,z3⟩:=iB c (.slice none 0 0) (.int .u64 0) (.slice none 0 0) (.slice none 0 0) (.slice none 0 0) (.slice none 0 0) (.slice none 0 0) (.slice none 0 0);unfold ff at z1 z3
 generalize ((((((((w1.setCell ⟨w.heap.size,0,none⟩ (.slice none 0 0)).setCell ⟨w.heap.size,1,none⟩ (.int .u64 0)).setCell ⟨w.heap.size,2,none⟩ (.slice none 0 0)).setCell ⟨w.heap.size,3,none⟩ (.slice none 0 0)).setCell ⟨w.heap.size,4,none⟩ (.slice none 0 0)).setCell ⟨w.heap.size,5,none⟩ (.slice none 0 0)).setCell ⟨w.heap.size,6,none⟩ (.slice none 0 0)).setCell ⟨w.heap.size,7,none⟩ (.slice none 0 0))=Wf at *;obtain ⟨r0,r1,r2,r3,r4,r5,r6,r7⟩:=dV z1;exact bodyPost_ret (v:=.tuple #[.agg zeroKey,.int .i64 1]) (by simp [results,Tryz.results13,go_sem,r0,r1,r2,r3,r4,r5,r6,r7]) rfl ⟨rfl,(i.out.trans g.out).next z3 (fun x hx (ex:x=w.heap.size)=>by omega)⟩

theorem tL (p:Option Addr) (B n e r:Nat) (bs:List Nat) (a:¬ bH (n:Int) (r:Int) e) (w:World) (h:Lsc w p B bs) (hB:B≤w.heap.size) (U:Digs bs 256) :
  Calls Tryz.prog 13 #[.pointer p,.int .i64 (n:Nat),.int .u64 (e:Nat),.int .i64 (r:Nat)] w fun q w'=>xO w p B n e r bs q w':=by
 obtain ⟨W0,m⟩:∃ W0,W0=w.alloc (.cells #[.slice none 0 0,.int .u64 0,.slice none 0 0,.slice none 0 0,.slice none 0 0,.slice none 0 0,.slice none 0 0,.slice none 0 0] 42):=⟨_,rfl⟩
 have k0:Kept ae w W0:=by rw [m];exact (ah ae w).alloc _
 have M:W0.heap[w.heap.size]? = some (.cells #[.slice none 0 0,.int .u64 0,.slice none 0 0,.slice none 0 0,.slice none 0 0,.slice none 0 0,.slice none 0 0,.slice none 0 0] 42 (0,0)):=by rw [m];exact heap_alloc_new _ _
 have Y:W0.heap.size=w.heap.size+1:=by rw [m];simp
 have ac:Hid (∀ x,ofP p x→x<w.heap.size):=fun x hx=>(h.inP hx).2
 have HN:Hid (n≤8192):=by unfold bH at a;unfold Hid;omega
 have D:Hid (∀ W,Kept (ofP p) W0 W→W.heap[w.heap.size]? = some (.cells #[.slice none 0 0,.int .u64 0,.slice none 0 0,.slice none 0 0,.slice none 0 0,.slice none 0 0,.slice none 0 0,.slice none 0 0] 42 (0,0))):=fun W k=>(k.block _ (lt_of_block M) (fun f=>absurd (ac.out _ f) (Nat.lt_irrefl _))).trans M
 have hP:=kO p B n e r bs a W0 (h.grew k0) (by omega) U;have af:=aa m;have F:=aa k0;have Z:=aa Y;have J:=aa hB;clear m k0 M Y h U hB a;go_enter Tryz.func13,Tryz.ntmps13;go_wp2_with (rw [← af.out]);refine hP.mono ?_;rintro q w1 ⟨u,v,P,Q,E1,R,rfl,T,⟨ru,rv⟩,hs,k1⟩;have i:=aa k1;have z:=aa T;have H:=aa hs;obtain ⟨uo,ul,uc,rfl,o,-,-,-,-⟩:=ru.open;obtain ⟨vo,vl,vc,rfl,s,-,-,-,-⟩:=rv.open;clear hP T hs k1;by_cases hE1:E1=0
 ·subst hE1;obtain ⟨⟨cs,L⟩,⟨ds,N⟩⟩:=z.out.shape;have y:=kOf uo vo ul vl uc vc P Q _ _ e w1 rfl rfl ru rv (by rw [L];exact jT _ _) (by rw [N];exact jT _ _) (by have:=o.out;have:=HN.out;rw [L,kD] at *;omega) (by have:=s.out;have:=HN.out;rw [N,kD] at *;omega);rw [← o.out,← s.out] at y;have HU:Hid (P.length=ul∧Q.length=vl):=⟨o.out,s.out⟩
  clear L N ru rv o s;generalize hVP:val P=VP at *;generalize hVQ:val Q=VQ at *;have g:Hid (val P=VP∧val Q=VQ):=⟨hVP,hVQ⟩
  clear hVP hVQ;rw [HU.out.1,HU.out.2] at y;go_wp2_with fail;refine y.mono ?_;rintro q w2 ⟨kv,E,rfl,t,j,k2⟩;have A:Hid (Kept (ofP p) W0 w2):=i.out.next k2 (fun _ _ f=>f.elim)
  have V:=aa (H.out.grew k2);have c:Hid (fL w.heap.size kv):=fun v hv x hx=>by
   have:=j v hv x hx;have:=i.out.size;have:=Z.out;omega
  clear y k2 j H i;rcases t with ⟨rfl,hok,hkey⟩ | ⟨rfl,hno,rfl⟩
  ·have ad:=aa hok;have O:=aa hkey;obtain ⟨vn,vd,vp,vq,ai,ag,aj,d,u2,rfl,h0,_,_,h3,h4,h5,h6,h7,_,_,X⟩:=hkey;obtain ⟨no,nl,nc,rfl,-,-,-,-,-⟩:=h0.open;obtain ⟨G,C,I,rfl,-,-,-,-,-⟩:=h3.open;obtain ⟨po,pl,pc,rfl,-,-,-,-,-⟩:=h4.open;obtain ⟨qo,ql,qc,rfl,-,-,-,-,-⟩:=h5.open;obtain ⟨xo,xl,xc,rfl,-,-,-,-,-⟩:=h6.open;obtain ⟨yo,yl,yc,rfl,-,-,-,-,-⟩:=h7.open;obtain ⟨zo,zl,zc,rfl,-,-,-,-,-⟩:=X.open;clear hok h0 h3 h4 h5 h6 h7 X;have b:=D.out _ A.out;obtain ⟨c0,c1,c2,c3,c4,c5,c6,c7⟩:=dV b;have f:=aY b;go_wp2_with fail
   obtain ⟨z1,z3⟩:=iB b (.slice no nl nc) (.int .u64 (e:Nat)) (.slice G C I) (.slice po pl pc) (.slice qo ql qc) (.slice xo xl xc) (.slice yo yl yc) (.slice zo zl zc);unfold ff at z1 z3;generalize ((((((((w2.setCell ⟨w.heap.size,0,none⟩ (.slice no nl nc)).setCell ⟨w.heap.size,1,none⟩ (.int .u64 (e:Nat))).setCell ⟨w.heap.size,2,none⟩ (.slice G C I)).setCell ⟨w.heap.size,3,none⟩ (.slice po pl pc)).setCell ⟨w.heap.size,4,none⟩ (.slice qo ql qc)).setCell ⟨w.heap.size,5,none⟩ (.slice xo xl xc)).setCell ⟨w.heap.size,6,none⟩ (.slice yo yl yc)).setCell ⟨w.heap.size,7,none⟩ (.slice zo zl zc))=Wf at *;obtain ⟨r0,r1,r2,r3,r4,r5,r6,r7⟩:=dV z1
   exact bodyPost_ret (v:=.tuple #[.agg #[.slice no nl nc,.int .u64 (e:Nat),.slice G C I,.slice po pl pc,.slice qo ql qc,.slice xo xl xc,.slice yo yl yc,.slice zo zl zc],.int .i64 0]) (by simp [results,Tryz.results13,go_sem,r0,r1,r2,r3,r4,r5,r6,r7]) rfl ⟨_,P,Q,0,R,0,rfl,z.out,.inr (.inl ⟨rfl,rfl,by rw [HU.out.1,HU.out.2,g.out.1,g.out.2];exact ad.out,by rw [g.out.1,g.out.2];exact O.out.kept9 c.out z3 (fun x hx (ex:x=w.heap.size)=>by omega)⟩),c.out,V.out.kept z3 (fun x hx (ex:x=w.heap.size)=>by have:=J.out;omega),(F.out.any (S:=ofP p)).next (A.out.trans2 z3) (fun x hx l=>l.elim (fun h=>h) (fun h=>absurd h (Nat.ne_of_lt hx)))⟩
  ·have ab:=aa hno;clear hno;have b:=D.out _ A.out;obtain ⟨c0,c1,c2,c3,c4,c5,c6,c7⟩:=dV b;have f:=aY b;go_wp2_with fail;obtain ⟨z1,z3⟩:=iB b (.slice none 0 0) (.int .u64 0) (.slice none 0 0) (.slice none 0 0) (.slice none 0 0) (.slice none 0 0) (.slice none 0 0) (.slice none 0 0);unfold ff at z1 z3
   generalize ((((((((w2.setCell ⟨w.heap.size,0,none⟩ (.slice none 0 0)).setCell ⟨w.heap.size,1,none⟩ (.int .u64 0)).setCell ⟨w.heap.size,2,none⟩ (.slice none 0 0)).setCell ⟨w.heap.size,3,none⟩ (.slice none 0 0)).setCell ⟨w.heap.size,4,none⟩ (.slice none 0 0)).setCell ⟨w.heap.size,5,none⟩ (.slice none 0 0)).setCell ⟨w.heap.size,6,none⟩ (.slice none 0 0)).setCell ⟨w.heap.size,7,none⟩ (.slice none 0 0))=Wf at *;obtain ⟨r0,r1,r2,r3,r4,r5,r6,r7⟩:=dV z1
   exact bodyPost_ret (v:=.tuple #[.agg zeroKey,.int .i64 190]) (by simp [results,Tryz.results13,go_sem,r0,r1,r2,r3,r4,r5,r6,r7]) rfl ⟨_,P,Q,0,R,190,rfl,z.out,.inr (.inr ⟨rfl,rfl,by rw [HU.out.1,HU.out.2,g.out.1,g.out.2];exact ab.out,rfl⟩),c.out,V.out.kept z3 (fun x hx (ex:x=w.heap.size)=>by have:=J.out;omega),(F.out.any (S:=ofP p)).next (A.out.trans2 z3) (fun x hx l=>l.elim (fun h=>h) (fun h=>absurd h (Nat.ne_of_lt hx)))⟩
 ·have g1:¬ (E1:Int)=0:=by omega
  clear ru rv o s;have b:=D.out _ i.out;obtain ⟨c0,c1,c2,c3,c4,c5,c6,c7⟩:=dV b;have f:=aY b;go_wp2_with fail;obtain ⟨z1,z3⟩:=iB b (.slice none 0 0) (.int .u64 0) (.slice none 0 0) (.slice none 0 0) (.slice none 0 0) (.slice none 0 0) (.slice none 0 0) (.slice none 0 0);unfold ff at z1 z3
  generalize ((((((((w1.setCell ⟨w.heap.size,0,none⟩ (.slice none 0 0)).setCell ⟨w.heap.size,1,none⟩ (.int .u64 0)).setCell ⟨w.heap.size,2,none⟩ (.slice none 0 0)).setCell ⟨w.heap.size,3,none⟩ (.slice none 0 0)).setCell ⟨w.heap.size,4,none⟩ (.slice none 0 0)).setCell ⟨w.heap.size,5,none⟩ (.slice none 0 0)).setCell ⟨w.heap.size,6,none⟩ (.slice none 0 0)).setCell ⟨w.heap.size,7,none⟩ (.slice none 0 0))=Wf at *;obtain ⟨r0,r1,r2,r3,r4,r5,r6,r7⟩:=dV z1
  exact bodyPost_ret (v:=.tuple #[.agg zeroKey,.int .i64 (E1:Int)]) (by simp [results,Tryz.results13,go_sem,r0,r1,r2,r3,r4,r5,r6,r7]) rfl ⟨_,P,Q,E1,R,E1,rfl,z.out,.inl ⟨hE1,rfl,rfl⟩,jh _,H.out.kept z3 (fun x hx (ex:x=w.heap.size)=>by have:=J.out;omega),(F.out.any (S:=ofP p)).next (i.out.trans2 z3) (fun x hx l=>l.elim (fun h=>h) (fun h=>absurd h (Nat.ne_of_lt hx)))⟩

theorem BX:zQ:=by
 intro p B n r e bs w he hs hB c f;obtain ⟨z,hz,a,b⟩:=xX;by_cases hbad:bH n r e
 ·refine (xB p n r e w hbad).mono ?_;rintro q w' ⟨rfl,k⟩;exact ⟨z,1,by rw [hz];rfl,KL.none,bs,b _,.inl ⟨hbad,rfl,a,rfl,rfl⟩,hs.grew k,k.any⟩
 ·have d:¬ (n<32∨8192<n∨n%128≠0∨e<3∨e%2=0∨4294967296≤e∨r<1∨100<r):=hbad;obtain ⟨n',rfl⟩:∃ n':Nat,n=(n':Int):=⟨n.toNat,by omega⟩
  obtain ⟨r',rfl⟩:∃ r':Nat,r=(r':Int):=⟨r.toNat,by omega⟩
  refine (tL p B n' e r' bs hbad w hs hB c).mono ?_;rintro q w' ⟨kv,P,Q,E1,R,E,rfl,h1,h2,_,h3,k⟩;rcases h2 with ⟨a1,rfl,rfl⟩ | ⟨a1,rfl,a2,a3⟩ | ⟨a1,rfl,a2,rfl⟩
  ·exact ⟨z,E,by rw [hz],KL.none,R,b _,.inr ⟨hbad,P,Q,E,h1,.inl ⟨a1,rfl,a,rfl⟩⟩,h3,k⟩
  ·obtain ⟨t,l,rfl,h4,h5⟩:=BP a2 a3;exact ⟨t,0,rfl,l,R,h4,.inr ⟨hbad,P,Q,E1,h1,.inr ⟨a1,h5⟩⟩,h3,k⟩
  ·exact ⟨z,190,by rw [hz],KL.none,R,b _,.inr ⟨hbad,P,Q,E1,h1,.inr ⟨a1,.inr ⟨rfl,a2,a,rfl⟩⟩⟩,h3,k⟩

theorem lq (hG:zQ) (hP:yC) (u:Value) (bs:List Nat) (n e r:Int) (w:World) (hu:Row .u8 w u bs) (db:Digs bs 256) (he:(Lit.int .u64 e).wf=true) :
  Calls Tryz.prog 3 #[u,.int .i64 n,.int .u64 e,.int .i64 r] w fun e w'=>e=.returned (.bool true)∧Below w.heap.size w w':=by
 obtain ⟨O,ab⟩:=bounds_u64 he;obtain ⟨ee,rfl⟩:=Int.eq_ofNat_of_zero_le O;have N:Hid (ee<18446744073709551616):=by unfold Hid;omega
 have HU:=aa hu;obtain ⟨uo,un,uc,rfl,Y,_⟩:=hu.open;have z:=aa Y.out;have V:=aa db;have J0:=uI hG w;have o:=aa hP;clear hu Y db he O ab hG hP;by_cases hf:un≤3000∧(n≤128∨8192<n)
 ·have l:=aa fun W=>te uo un uc n true (iff_of_true rfl hf) W
  have D:Hid (un≤3000):=hf.1;clear hf;go_enter Tryz.func3,Tryz.ntmps3;go_wp2_with fail;refine J0.mono ?_;rintro e w1 ⟨rfl,k1⟩;have s:=aa k1;have J1:=l.out w1;clear J0 k1;go_wp2_with fail;refine J1.mono ?_;rintro e w2 ⟨rfl,rfl⟩;have J2:=xM _ _ w2 (HU.out.grew s.out) (by have:=z.out;have:=D.out;omega);clear J1;go_wp2_with fail;refine J2.mono ?_;rintro e w3 ⟨g,rfl,hg,T,k3⟩;have A:=aa (s.out.trans k3);obtain ⟨W4,q⟩:∃ W4,W4=w3.alloc (.cells #[.slice uo un uc] 30):=⟨_,rfl⟩
  have k4:Kept ae w3 W4:=by rw [q];exact (ah ae w3).alloc _
  have I:ScrAt W4 w3.heap.size (w3.heap.size+1) bs:=by rw [q];exact Ac (HU.out.grew A.out)
  have p:W4.heap.size=w3.heap.size+1:=by rw [q];simp
  have ad:=aa (A.out.trans k4);have C:=T.grew k4;have M:w3.heap.size≤W4.heap.size:=by omega
  have Z:=aa q;have J3:=o.out (some ⟨g,0,none⟩) w3.heap.size n r ee bs W4 N.out C M V.out (by have:=z.out;have:=D.out;omega);have HG:Hid (w.heap.size≤g∧w.heap.size≤w3.heap.size):=⟨Nat.le_trans s.out.size hg,A.out.size⟩
  have X:=aa C;have G:=aa I;have v:=aa p;clear J2 k3 k4 T C I M q p;go_wp2_with (rw [← Z.out]);refine J3.mono ?_;rintro e w5 ⟨v5,x5,E,rfl,P,Q,R,k,⟨b,a⟩,S,k5⟩;have B:=G.out.other X.out k5;have J4:=si w3.heap.size (w3.heap.size+1) bs n r ee N.out w5 B (by have h1:=k5.size;have h2:=v.out;omega) V.out (by have:=z.out;have:=D.out;omega);have K5:Hid (Kept ae w w5):=ad.out.next k5 (fun y hy f=>by have h1:=jS f;have h2:=HG.out;omega)
  obtain ⟨vo,vn,vc,rfl,_⟩:=b.open;obtain ⟨xo,xn,xc,rfl,_⟩:=a.open;have c:=aa b;have i:=aa a;have L:=aa S;have t:=aa B;have H:=aa k;clear J3 b a S B k5 k;go_wp2_with fail;refine J4.mono ?_;rintro e w6 ⟨v6,x6,E',rfl,P',Q',R',d,⟨h,j⟩,ac,k6⟩;obtain ⟨rfl,rfl,rfl,rfl⟩:=H.out.uniq d;have b:=c.out.kept' k6 (fun F y hy e=>gG t.out c.out F y hy e);have a:=i.out.kept' k6 (fun F y hy e=>gG t.out i.out F y hy e);obtain ⟨zo,zn,zc,rfl,_⟩:=h.open;obtain ⟨yo,yn,yc,rfl,_⟩:=j.open;have J:=L.out.plain t.out k6
  have K6:Hid (Kept ae w w6):=K5.out.next k6 (fun y hy f=>by have f':y=w3.heap.size:=f;have h2:=HG.out;omega)
  have JL:=aa fun nq=>Ay (some ⟨g,0,none⟩) w3.heap.size R' (w6.drewN nq) (J.grew ((ah _ _).drewN nq))
  have JS:=aa fun nq=>tJ _ _ _ _ (w6.drewN nq) (b.grew ((ah _ _).drewN nq)) (h.grew ((ah _ _).drewN nq))
  have JT:=aa fun nq=>tJ _ _ _ _ (w6.drewN nq) (a.grew ((ah _ _).drewN nq)) (j.grew ((ah _ _).drewN nq))
  rw [bd rfl] at JS JT;obtain ⟨rv,x,_⟩:=ac;have cr:=x.cell;obtain ⟨ro,rn,af,rfl,U,_⟩:=x.2.1.open;have m:=U.out;rw [m] at JL;clear J4 b h a j J x U m k6 L t X G d H c i;go_wp2_with fail;go_quiet (first
   | (go_at_call 12;exact Calls.quiet_of (JL.out _))
   | (go_at_call_of 11 (Value.slice vo vn vc);exact Calls.quiet_of (JS.out _))
   | (go_at_call_of 11 (Value.slice xo xn xc);exact Calls.quiet_of (JT.out _)))
  go_wp2_with fail;go_ret;exact ⟨rfl,fG (K6.out.drewN _) (leR _)⟩
 ·have l:=aa fun W=>te uo un uc n false (iff_of_false (by decide) hf) W
  go_enter Tryz.func3,Tryz.ntmps3;go_wp2_with fail;refine J0.mono ?_;rintro e w1 ⟨rfl,k1⟩;have s:=aa k1;have J1:=l.out w1;clear J0 k1 hf;go_wp2_with fail;refine J1.mono ?_;rintro e w2 ⟨rfl,rfl⟩;clear J1;go_wp2_with fail;go_ret;exact ⟨rfl,fG s.out (leR _)⟩

theorem walkKeygenPairs (u:Value) (bs:List Nat) (n e r:Int) (w:World) (hu:Row .u8 w u bs) (db:Digs bs 256) (_:(Lit.int .i64 n).wf=true) (he:(Lit.int .u64 e).wf=true) (_:(Lit.int .i64 r).wf=true) (_:NoTab w) :
  Calls Tryz.prog 3 #[u,.int .i64 n,.int .u64 e,.int .i64 r] w fun e w'=>e=.returned (.bool true)∧Below w.heap.size w w':=
 lq BX AQ u bs n e r w hu db he

end Go.Proofs.YtcemlfokmjjiaaaGreatDoor
