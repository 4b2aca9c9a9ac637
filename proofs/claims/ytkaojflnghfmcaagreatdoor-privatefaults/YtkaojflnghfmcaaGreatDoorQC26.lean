/- Put together of: Prw2 Prw3. -/
import Derived.Test.YtkaojflnghfmcaaGreatDoorQC25

namespace Go.Proofs.YtkaojflnghfmcaaGreatDoor
open _root_.Go.Proofs.Tryz
set_option maxRecDepth 100000
set_option maxHeartbeats 4000000
open Go.RowKit

def pmV (N1 n L:Nat):List Ev:=eE N1 n ++ A4 n L

theorem Ht (o:Tr) (ao bo xo eo:Option Addr) (n K a b N1 xc L c X V:Nat) (ys:List Nat) (w:World) (ht:TrRoom w o 71000000) (hM:Md w o ao bo n K a b V) (hx:NumT w o (.slice xo N1 xc) N1 X) (i:N1<=300) (hy:RowT w o (.slice eo L c) ys) (j:Digs ys) (hL:L<=300) :
  Calls prog 145 #[aL o,.agg #[.slice ao n a,.int .u64 (K:Nat),.slice bo n b],.slice xo N1 xc,.slice eo L c] w fun e w'=>∃ zo zc o',e=.returned (.slice zo n zc)/\NumT w' o' (.slice zo n zc) n (X^val ys%V)/\Did w o (pmV N1 n L) w' o':=by
 obtain ⟨po,g⟩:=aK o;obtain ⟨f0,f1,f4,f5⟩:=hM.facts;obtain ⟨W,hW⟩:∃ W,W=w.alloc (.cells #[.slice ao n a,.int .u64 (K:Nat),.slice bo n b] 70):=⟨_,rfl⟩
 have k0:Kept af w W:=by rw [hW];exact (aj af w).alloc _
 have l:W.heap[w.heap.size]? = some (.cells #[.slice ao n a,.int .u64 (K:Nat),.slice bo n b] 70 (0,0)):=by rw [hW];exact heap_alloc_new _ _
 have kd:Kept af w W.drew:=k0.drew;have s0:Wr w o [] W.drew o (.pointer po) 71000000:=⟨Did.of_kept kd ht.1,ht.grew kd,g⟩
 have M0:=hM.grew kd;have Y0:=hy.grew kd;have hV:0<V:=by omega
 have HE:Hid (X^val ys%V=(X%V)^val ys%V):=Nat.pow_mod _ _ _;have c1:=Bg o ao bo xo n K a b N1 xc X V W.drew (s0.room.less (by omega)) M0 (hx.grew kd) i;rw [g] at c1;have HW:=aa hW;rw [g];clear hM hx hy hW k0;go_enter func145,ntmps145;go_wp2_with (rw [<- HW.out]);refine wp_region_held_drew (S:=fun w'=>w'.heap[w.heap.size]? = some (.cells #[.slice ao n a,.int .u64 (K:Nat),.slice bo n b] 70 (0,0))) (by kernel_rfl) l (fun hS=>?_);refine aT 0 (some 9) (.pointer po) hS ?_;simp only [Act.put,lsA,lsS,lsZ]
 refine aT 1 (some 10) (.agg #[.slice ao n a,.int .u64 (K:Nat),.slice bo n b]) hS ?_ (y:=.inl ⟨by rfl,fun w h=>by simp [execOp,go_sem,(aw h).1,(aw h).2.1,(aw h).2.2]⟩);simp only [Act.put,lsA,lsS,lsZ];refine aT 2 (some 11) (.pointer po) hS ?_;simp only [Act.put,lsA,lsS,lsZ];refine aT 3 (some 12) (.agg #[.slice ao n a,.int .u64 (K:Nat),.slice bo n b]) hS ?_ (y:=.inl ⟨by rfl,fun w h=>by simp [execOp,go_sem,(aw h).1,(aw h).2.1,(aw h).2.2]⟩);simp only [Act.put,lsA,lsS,lsZ];refine aT 4 (some 13) (.slice xo N1 xc) hS ?_;simp only [Act.put,lsA,lsS,lsZ];refine aT 9 (some 18) (.slice eo L c) hS ?_;simp only [Act.put,lsA,lsS,lsZ]
 refine bV 5 (some 14) 141 [.pointer po,.agg #[.slice ao n a,.int .u64 (K:Nat),.slice bo n b],.slice xo N1 xc] (c1) ?_;rintro r w1 ⟨zo,zc,o1,rfl,X1,d1⟩;have d:=d1.cells hS s0.room.1 (by decide) (by decide);have s1:=s0.next (k:=70500000) d1 (by have h:=fL N1 n;omega)
 have M1:=M0.did d1;have Y1:=Y0.did d1;refine .inl ⟨_,rfl,d,?_⟩;simp only [Act.put,lsA,lsS,lsZ];refine aT 6 (some 15) (.slice zo n zc) d ?_;simp only [Act.put,lsA,lsS,lsZ];refine aT 7 (some 16) (.int .i64 0) d ?_;simp only [Act.put,lsA,lsS,lsZ];refine bV 8 (some 17) 31 [.slice zo n zc,.int .i64 0] (gW zo n zc _) ?_;rintro r w2 ⟨rfl,rfl⟩;refine .inl ⟨_,rfl,d,?_⟩;simp only [Act.put,lsA,lsS,lsZ];have c2:=Hq o1 ao bo zo eo n K a b zc L c (X%V) V ys _ (s1.room.less (by omega)) M1 X1 (ay _ hV) Y1 j hL;rw [s1.ptr] at c2
 refine bV 10 (some 19) 201 [.pointer po,.agg #[.slice ao n a,.int .u64 (K:Nat),.slice bo n b],.slice zo n zc,.slice eo L c] (c2) ?_;rintro r w3 ⟨yo,yc,o3,rfl,X3,d3⟩;have f:=d3.cells d s1.room.1 (by decide) (by decide);have s3:=s1.next (k:=9000000) d3 (by have h:=pF f1 hL;omega)
 refine .inl ⟨_,rfl,f,?_⟩;simp only [Act.put,lsA,lsS,lsZ];refine aT 11 (some 20) (.slice yo n yc) f ?_;simp only [Act.put,lsA,lsS,lsZ];refine aT 12 (some 21) (.int .i64 0) f ?_;simp only [Act.put,lsA,lsS,lsZ];refine bV 13 (some 22) 31 [.slice yo n yc,.int .i64 0] (gW yo n yc _) ?_;rintro r w4 ⟨rfl,rfl⟩;refine .inl ⟨_,rfl,f,?_⟩;simp only [Act.put,lsA,lsS,lsZ];refine aT 14 (some 8) (.slice yo n yc) f ?_;simp only [Act.put,lsA,lsS,lsZ];refine wpAnyH_done (by kernel_rfl) ?_ _;go_wp2_with fail;go_ret;exact ⟨yo,yc,o3,rfl,by rw [HE.out];exact X3,s3.did⟩

def tG (at_ k:Int) (fs:List Nat) (X n V:Nat):Nat:=(if at_=k then val (fs.take n) else X)%V

theorem oN {at_ k:Int} {fs:List Nat} {X n V:Nat} (h:X<V):tG at_ k fs X n V=tF at_ k fs X n V:=by
 unfold tG tF
 split
 ·rfl
 ·exact ax h

def oj (n:Nat):List Ev:=[(1,((1:Nat):Int),0)] ++ [(1,(n:Int),0)] ++ eE n n

theorem iV (n:Nat):(oj n).length<=60010:=by
 have h:=fL n n;unfold oj;simp;omega

def atW (a:Int):Nat:=(a%18446744073709551616).toNat

theorem EH (a:Int):atW a<18446744073709551616:=by unfold atW;omega

theorem Ce {a:Int} {k:Nat} (h:AtOk a) (hk:k<=4) (h1:1<=k):k=atW a↔a=(k:Int):=by
 unfold AtOk at h;unfold atW;omega

theorem xj (W:World) (o:Tr) (x:Nat) (hx:x<18446744073709551616) (ht:TrIn W o):NumT (W.alloc (.cells #[.int .u64 (x:Nat)] 24)) o (.slice (some ⟨W.heap.size,0,none⟩) 1 1) 1 x:=by
 have hr:=World.ownsRow_lit (base:=W.heap.size) (e:=24) (size:=1) W #[.int .u64 (x:Nat)] 1 (leR _) (by unfold maxLen;omega) rfl;refine NumT.own (base:=W.heap.size) ?_ (by rw [jG];exact hx) (ht.grew ((aj _ _).alloc _));unfold OwnN;rw [iX x 0 hx];exact hr

theorem jc {w:World} {b:Nat} {x y:Value} (h:w.heap[b]? = some (.cells #[x,y] 31 (0,0))):w.cell? ⟨b,0,none⟩=some x/\w.cell? ⟨b,1,none⟩=some y:=⟨(cell_of_row w _ 0 _ _ _ h).trans rfl,(cell_of_row w _ 1 _ _ _ h).trans rfl⟩

theorem mY (k:Nat) (h1:1<=k) (h4:k<=4) (o:Tr) (bT bF:Nat) (at_:Int) (A:AtOk at_) (ao bo xo fo:Option Addr) (n K c d xc fl fc X V:Nat) (fs:List Nat) (w:World) (ht:TrRoom w o 100000) (hM:Md w o ao bo n K c d V) (hx:NumT w o (.slice xo n xc) n X)
  (hT:Box w bT (aL o) 53) (hF:w.heap[bF]? = some (.cells #[.int .i64 at_,.slice fo fl fc] 31 (0,0))) (hf:RowT w o (.slice fo fl fc) fs) (gf:Digs fs) :
  Calls prog 140 #[.int .i64 (k:Nat),.agg #[.slice ao n c,.int .u64 (K:Nat),.slice bo n d],.slice xo n xc,.pointer (some ⟨bT,0,none⟩),.pointer (some ⟨bF,0,none⟩)] w fun e w'=>∃ zo zc o',e=.returned (.slice zo n zc)/\NumT w' o' (.slice zo n zc) n (tG at_ k fs X n V)/\Did w o (oj n) w' o':=by
 obtain ⟨po,t⟩:=aK o;rw [t] at hT;obtain ⟨f0,f1,f4,f5⟩:=hM.facts;obtain ⟨a,ha⟩:∃ a,a=atW at_:=⟨_,rfl⟩
 have H:a<18446744073709551616:=by rw [ha];exact EH _
 have I:IntKind.u64.wrap at_=(a:Int):=by rw [ha];rw [IntKind.wrap_u64];unfold atW;omega
 have L:(k:Int)%18446744073709551616=(k:Int):=by omega
 obtain ⟨W1,p⟩:∃ W1,W1=w.alloc (.cells #[.slice ao n c,.int .u64 (K:Nat),.slice bo n d] 70):=⟨_,rfl⟩
 obtain ⟨W2,q⟩:∃ W2,W2=W1.alloc (.cells #[.int .u64 (k:Nat)] 24):=⟨_,rfl⟩
 obtain ⟨W3,s⟩:∃ W3,W3=W2.alloc (.cells #[.int .u64 (a:Nat)] 24):=⟨_,rfl⟩
 have z1:W1.heap.size=w.heap.size+1:=by rw [p];simp
 have z2:W2.heap.size=w.heap.size+1+1:=by rw [q];simp [z1]
 have k1:Kept af w W1:=by rw [p];exact (aj af w).alloc _
 have k2:Kept af W1 W2:=by rw [q];exact (aj af W1).alloc _
 have k3:Kept af W2 W3:=by rw [s];exact (aj af W2).alloc _
 have x:=k2.trans k3;have g:=k1.trans x;have v:W1.heap[w.heap.size]? = some (.cells #[.slice ao n c,.int .u64 (K:Nat),.slice bo n d] 70 (0,0)):=by rw [p];exact heap_alloc_new _ _
 have B:=(x.block _ (lt_of_block v) (fun f=>f)).trans v;have n1:NumT W2 o (.slice (some ⟨W1.heap.size,0,none⟩) 1 1) 1 k:=by rw [q];exact xj W1 o k (by omega) (ht.1.grew k1)
 have n2:NumT W3 o (.slice (some ⟨W2.heap.size,0,none⟩) 1 1) 1 a:=by rw [s];exact xj W2 o a H (ht.1.grew (k1.trans k2))
 rw [z1] at n1;rw [z2] at n2;have s0:Wr w o [] W3 o (.pointer po) 100000:=⟨Did.of_kept g ht.1,ht.grew g,t⟩
 obtain ⟨b,hb⟩:∃ b,b=cY (decide (k=a)):=⟨_,rfl⟩
 have J:b<=1:=by rw [hb];exact pB _
 have HB:Hid (cC b (val (fs.take n)) X=if at_=(k:Int) then val (fs.take n) else X):=by
  unfold Hid;have hi:=Ce A h4 h1;rw [<- ha] at hi;by_cases e:k=a
  ·rw [ah (hi.1 e),hb,dL e];rfl
  ·rw [ai (fun h=>e (hi.2 h)),hb,cP e];rfl
 have c1:=Hp o _ _ 1 1 k a W3 (s0.room.less (by omega)) (n1.grew k3) n2 (by omega) (by omega);rw [t,<- hb] at c1;have M0:=hM.grew g;have X0:=hx.grew g;have F0:=hf.grew g;have T0:=hT.grew g;have G0:=(g.block _ (lt_of_block hF) (fun f=>f)).trans hF;have G:=(hT.grew k1).cell;have F:=(jc ((k2.block _ (lt_of_block ((k1.block _ (lt_of_block hF) (fun f=>f)).trans hF)) (fun f=>f)).trans ((k1.block _ (lt_of_block hF) (fun f=>f)).trans hF))).1;have C:=aa p;have D:=aa q;have E:=aa s;have Z1:=z1;have Z2:=z2;clear hM hx hf hT hF p q s k1 k2 k3 x g z1 z2 n1 n2 hb ha v ht h1 A;go_enter func140,ntmps140
 go_wp2_with (first | rw [<- C.out] | rw [<- D.out] | rw [<- E.out]);refine c1.mono ?_;rintro e w4 ⟨rfl,o4,d4⟩;have dd:Did w4 o4 [] w4.drew o4:=Did.of_kept (aj af w4).drew (s0.next (k:=99000) d4 (by simp)).room.1;have d5:=d4.trans dd;have s5:=s0.next (k:=99000) d5 (by simp)
 have M5:=M0.did d5;have X5:=X0.did d5;have F5:=F0.did d5;have z:=And.intro (d4.cells T0 s0.room.1 (by decide) (by decide)) (And.intro (d4.cells G0 s0.room.1 (by decide) (by decide)) (d4.cells B s0.room.1 (by decide) (by decide)));clear c1 M0 X0 F0 T0 G0 B G F dd Z1 Z2;go_wp2_with fail;refine wp_region_held_drew (S:=fun w'=>w'.heap[bT]? = some (.cells #[.pointer po] 53 (0,0))/\w'.heap[bF]? = some (.cells #[.int .i64 at_,.slice fo fl fc] 31 (0,0))/\w'.heap[w.heap.size]? = some (.cells #[.slice ao n c,.int .u64 (K:Nat),.slice bo n d] 70 (0,0))) (by kernel_rfl) z (fun hS=>?_)
 refine aT 0 (some 20) (.pointer po) hS ?_ (y:=.inl ⟨by rfl,fun w h=>by simp [execOp,go_sem,Box.cell h.1]⟩);simp only [Act.put,lsA,lsS,lsZ];refine aT 1 (some 21) (.int .u64 (b:Int)) hS ?_;simp only [Act.put,lsA,lsS,lsZ];refine aT 2 (some 22) (.pointer (some ⟨bF,1,none⟩)) hS ?_;simp only [Act.put,lsA,lsS,lsZ];refine aT 3 (some 23) (.slice fo fl fc) hS ?_ (y:=.inl ⟨by rfl,fun w h=>by simp [execOp,go_sem,(jc h.2.1).2]⟩);simp only [Act.put,lsA,lsS,lsZ];refine aT 4 (some 24) (.slice xo n xc) hS ?_;simp only [Act.put,lsA,lsS,lsZ];refine aT 5 (some 25) (.int .i64 (n:Int)) hS ?_;simp only [Act.put,lsA,lsS,lsZ];refine aT 7 (some 27) (.slice xo n xc) hS ?_
 simp only [Act.put,lsA,lsS,lsZ];refine bV 6 (some 26) 83 [.slice fo fl fc,.int .i64 (n:Int)] (xu _ fs n _ F5.1 gf (by omega)) ?_;rintro r w6 ⟨rfl,i,k6⟩;have d6:Did w4.drew o4 [] w6 o4:=Did.of_kept k6 s5.room.1;have s6:=s5.next (k:=98000) d6 (by simp)
 have M6:=M5.did d6;have X6:=X5.did d6;rw [mI,<- iz (by omega) gf] at i;have F6:=NumT.own i (by rw [iz (by omega) gf];exact ay _ (aC (by omega))) s6.room.1;have l:=And.intro (d6.cells hS.1 s5.room.1 (by decide) (by decide)) (And.intro (d6.cells hS.2.1 s5.room.1 (by decide) (by decide)) (d6.cells hS.2.2 s5.room.1 (by decide) (by decide)));refine .inl ⟨_,rfl,l,?_⟩;simp only [Act.put,lsA,lsS,lsZ];have c7:=Hv o4 b n _ X (by omega) _ _ _ (s6.room.less (by omega)) F6 X6 (by omega);rw [s6.ptr,HB.out] at c7;refine bV 8 (some 28) 94 [.pointer po,.int .u64 (b:Int),.slice (some ⟨w4.drew.heap.size,0,none⟩) n n,.slice xo n xc] (c7) ?_
 rintro r w7 ⟨zo,zc,o7,rfl,X7,d7⟩;have s7:=s6.next (k:=97000) d7 (by simp)
 have M7:=M6.did d7;have m:=And.intro (d7.cells l.1 s6.room.1 (by decide) (by decide)) (And.intro (d7.cells l.2.1 s6.room.1 (by decide) (by decide)) (d7.cells l.2.2 s6.room.1 (by decide) (by decide)));refine .inl ⟨_,rfl,m,?_⟩;simp only [Act.put,lsA,lsS,lsZ];refine aT 9 (some 10) (.slice zo n zc) m ?_;simp only [Act.put,lsA,lsS,lsZ];refine wpAnyH_done (by kernel_rfl) ?_ _;have c8:=Bg o7 ao bo zo n K c d n zc _ V _ (s7.room.less (by omega)) M7 X7 (by omega);rw [s7.ptr] at c8;obtain ⟨q0,q1,q2⟩:=aw m.2.2;have q3:=Box.cell m.1;clear hS z l m c7 i F5 F6 X5 X6 M5 M6 M7 X7 d4 d6 k6;go_wp2_with fail;refine c8.mono ?_;rintro e w8 ⟨yo,yc,o8,rfl,X8,d8⟩
 have s8:=s7.next (k:=10) d8 (by have h:=fL n n;omega)
 clear c8;go_wp2_with fail;refine (gW yo n yc w8).mono ?_;rintro e w9 ⟨rfl,rfl⟩;go_wp2_with fail;go_ret;refine ⟨yo,yc,o8,rfl,X8,?_⟩;have h:=s8.did;simpa [oj] using h

theorem vF {P:Program} {md:Region.Mode} {ops:Array Oper} {Q:Exit->Act->World->Prop} {S:World->Prop} {g:Nat} {b:Array Bool} {a:Act} {w:World} {o:Oper} (i:Nat) (d:Option Tmp) (hr:Region.ready md ops b=[i]) (hi:ops[i]? = some o) (hd:o.dst=d) (hw:Region.wanted o (yielded ops a.tmps)=true) (f:Nat) (c:Tmp) (l:Array Value) (args:List Operand) (n:Array TypeId) (k:List Value)
  (ho:o.op=.call { callee:=.value (.tmp c),args:=args.toArray,argTypes:=n }) (hcv:a.tmps[c]?.getD undef=.func (.func f) #[] l) (hv:args.map a.eval=k) (he:∀ args w,(callFunc f args).run P w=.ok (.enter f args) w) {R:Ending->World->Prop} (hc:Calls P f (k.toArray ++ l) w R)
  (h:∀ e w',R e w'->∃ v,e=.returned v/\S w'/\wpAnyH P md ops Q S g (b.setIfInBounds i true) (a.put d v) w') :
  wpAnyH P md ops Q S (g+1) b a w:=by
 subst hd;refine wpAnyH_all hr (by simp) fun j hj=>?_
 obtain rfl:j=i:=by simpa using hj
 unfold wpOp;rw [hi];dsimp only;rw [ah hw];refine .inl ?_;have m:Calls P f (k.toArray ++ l) w fun
   | .returned v,w''=>S w''/\wpAnyH P md ops Q S g (b.setIfInBounds j true) (a.put o.dst v) w''
   | .panicked chain,w''=>Q (.panic chain) a w''
   | .outgrown,_=>LetsOut Q:=hc.mono (fun e w' r=>by
  obtain ⟨v,rfl,hk⟩:=h e w' r;exact hk)
 unfold Oper.wp;simp [execOp,ho,resolve,invoke,hcv,hv,he,go_sem];exact m

theorem dH {P:Program} {md:Region.Mode} {ops:Array Oper} {Q:Exit->Act->World->Prop} {S:World->Prop} {c:Nat} {b:Array Bool} {a:Act} {w:World} {o:Oper} {rs:List Nat} (i:Nat) (d:Option Tmp) (hi:ops[i]? = some o) (hd:o.dst=d) (hw:Region.wanted o (yielded ops a.tmps)=true) (f:Nat) (args:List Operand) (l:Array TypeId) (g:List Value)
  (ho:o.op=.call { callee:=.value (.func f),args:=args.toArray,argTypes:=l }) (hv:args.map a.eval=g) (he:∀ args w,(callFunc f args).run P w=.ok (.enter f args) w) {R:Ending->World->Prop} (hc:Calls P f g.toArray w R)
  (h:∀ e w',R e w'->∃ v,e=.returned v/\S w'/\wpAnyH P md ops Q S c (b.setIfInBounds i true) (a.put d v) w') (hs:AllReadyH P md ops Q S c b a w rs) :
  AllReadyH P md ops Q S c b a w (i :: rs):=fun j hj=>by
 subst hd;rcases fC.1 hj with e | hj
 case inr=>exact hs j hj
 subst e;unfold wpOp;rw [hi];dsimp only;rw [ah hw];refine .inl ?_;have k:Calls P f g.toArray w fun
   | .returned v,w''=>S w''/\wpAnyH P md ops Q S c (b.setIfInBounds j true) (a.put o.dst v) w''
   | .panicked chain,w''=>Q (.panic chain) a w''
   | .outgrown,_=>LetsOut Q:=hc.mono (fun e w' r=>by
  obtain ⟨v,rfl,hk⟩:=h e w' r;exact hk)
 unfold Oper.wp;simp [execOp,ho,resolve,invoke,hv,he,go_sem];exact k

theorem dn {md:Region.Mode} {ops:Array Oper} {Q:Exit->Act->World->Prop} {S:World->Prop} {c:Nat} {b:Array Bool} {a:Act} {w:World} {o:Oper} {rs:List Nat} (i:Nat) (d:Option Tmp) (hi:ops[i]? = some o) (hd:o.dst=d) (hw:Region.wanted o (yielded ops a.tmps)=true) (ho:o.op=.alloc 70)
  (hS:S (w.alloc (.cells #[.slice none 0 0,.int .u64 0,.slice none 0 0] 70))) (h:wpAnyH prog md ops Q S c (b.setIfInBounds i true) (a.put d (.pointer (some ⟨w.heap.size,0,none⟩))) (w.alloc (.cells #[.slice none 0 0,.int .u64 0,.slice none 0 0] 70))) (hs:AllReadyH prog md ops Q S c b a w rs) :
  AllReadyH prog md ops Q S c b a w (i :: rs):=fun j hj=>by
 subst hd;rcases fC.1 hj with e | hj
 case inr=>exact hs j hj
 subst e;unfold wpOp;rw [hi];dsimp only;rw [ah hw];refine .inl ?_;unfold Oper.wp;simp [execOp,ho,go_sem];exact ⟨hS,h⟩

theorem BE {md:Region.Mode} {ops:Array Oper} {Q:Exit->Act->World->Prop} {S:World->Prop} {d:Nat} {c:Array Bool} {a:Act} {w:World} {o:Oper} (i:Nat) (hr:Region.ready md ops c=[i]) (hi:ops[i]? = some o) (hd:o.dst=none) (hw:Region.wanted o (yielded ops a.tmps)=true) (p v:Tmp) (b:Nat) (xo zo:Option Addr) (xn xc y zn zc:Nat) (ho:o.op=.store 70 (.tmp p) (.tmp v)) (hp:a.tmps[p]?.getD undef=.pointer (some ⟨b,0,none⟩)) (hv:a.tmps[v]?.getD undef=.agg #[.slice xo xn xc,.int .u64 (y:Nat),.slice zo zn zc])
  {c0 c1 c2:Value} (hb:w.heap[b]? = some (.cells #[c0,c1,c2] 70 (0,0))) (hS:S (((w.setCell ⟨b,0,none⟩ (.slice xo xn xc)).setCell ⟨b,1,none⟩ (.int .u64 (y:Nat))).setCell ⟨b,2,none⟩ (.slice zo zn zc))) (h:wpAnyH prog md ops Q S d (c.setIfInBounds i true) a (((w.setCell ⟨b,0,none⟩ (.slice xo xn xc)).setCell ⟨b,1,none⟩ (.int .u64 (y:Nat))).setCell ⟨b,2,none⟩ (.slice zo zn zc))):wpAnyH prog md ops Q S (d+1) c a w:=by
 obtain ⟨f0,f1,f2⟩:=jO hb;obtain ⟨q0,q1,q2⟩:=aw hb;refine wpAnyH_all hr (by simp) fun j hj=>?_
 obtain rfl:j=i:=by simpa using hj
 unfold wpOp;rw [hi];dsimp only;rw [ah hw];refine .inl ?_;unfold Oper.wp;simp [execOp,ho,hd,hp,hv,go_sem,f0,f1,f2,q0,q1,q2];exact ⟨hS,h⟩

theorem rN {P:Program} {md:Region.Mode} {ops:Array Oper} {Q:Exit->Act->World->Prop} {S:World->Prop} {c:Nat} {b:Array Bool} {a:Act} {w:World} (h:∀ G:Nat->Array Bool->Act->World->Prop,(∀ f l a w,G f l a w↔wpAnyH P md ops Q S f l a w)->G c b a w):wpAnyH P md ops Q S c b a w:=
 h (fun f l a w=>wpAnyH P md ops Q S f l a w) (fun _ _ _ _=>Iff.rfl)

theorem mM {P:Program} {md:Region.Mode} {ops:Array Oper} {Q:Exit->Act->World->Prop} {S:World->Prop} {e:Nat} {b:Array Bool} {a:Act} {w:World} (hp:∀ c a d v w,Q (.panic c) (a.put d v) w->Q (.panic c) a w) (h:∀ Q':Exit->Act->World->Prop,(∀ c a d v w,Q' (.panic c) (a.put d v) w->Q' (.panic c) a w)->Shut (∀ a w,Q .normal a w->Q' .normal a w)->wpAnyH P md ops Q' S e b a w):wpAnyH P md ops Q S e b a w:=
 h Q hp (fun _ _ h=>h)

structure KRows (w:World) (o:Tr) (s:KS) (l:KL) (fo:Option Addr) (fl fc:Nat) (fs:List Nat):Prop where
 n:RowT w o (.slice s.no s.nl s.nc) l.n
 d:RowT w o (.slice s.dO s.dl s.dc) l.d
 p:RowT w o (.slice s.po s.pl s.pc) l.p
 q:RowT w o (.slice s.qo s.ql s.qc) l.q
 dp:RowT w o (.slice s.dpo s.dpl s.dpc) l.dp
 dq:RowT w o (.slice s.dqo s.dql s.dqc) l.dq
 qi:RowT w o (.slice s.qio s.qil s.qic) l.qi
 f:RowT w o (.slice fo fl fc) fs

theorem KRows.did {w w':World} {o o':Tr} {m:List Ev} {s:KS} {l:KL} {fo:Option Addr} {fl fc:Nat} {fs:List Nat} (h:KRows w o s l fo fl fc fs) (d:Did w o m w' o'):KRows w' o' s l fo fl fc fs:=⟨h.n.did d,h.d.did d,h.p.did d,h.q.did d,h.dp.did d,h.dq.did d,h.qi.did d,h.f.did d⟩

theorem KRows.grew {w w':World} {o:Tr} {s:KS} {l:KL} {fo:Option Addr} {fl fc:Nat} {fs:List Nat} (h:KRows w o s l fo fl fc fs) (k:Kept af w w'):KRows w' o s l fo fl fc fs:=⟨h.n.grew k,h.d.grew k,h.p.grew k,h.q.grew k,h.dp.grew k,h.dq.grew k,h.qi.grew k,h.f.grew k⟩

structure Clo (w:World) (bT bF:Nat) (tp:Value) (at_:Int) (fo:Option Addr) (fl fc:Nat):Prop where
 t:Box w bT tp 53
 f:w.heap[bF]? = some (.cells #[.int .i64 at_,.slice fo fl fc] 31 (0,0))

theorem Clo.did {w w':World} {o o':Tr} {m:List Ev} {bT bF:Nat} {tp:Value} {at_:Int} {fo:Option Addr} {fl fc:Nat} (h:Clo w bT bF tp at_ fo fl fc) (d:Did w o m w' o') (ht:TrIn w o):Clo w' bT bF tp at_ fo fl fc:=⟨d.cells h.t ht (by decide) (by decide),d.cells h.f ht (by decide) (by decide)⟩

theorem Clo.grew {w w':World} {bT bF:Nat} {tp:Value} {at_:Int} {fo:Option Addr} {fl fc:Nat} (h:Clo w bT bF tp at_ fo fl fc) (k:Kept af w w'):Clo w' bT bF tp at_ fo fl fc:=⟨h.t.grew k,(k.block _ (lt_of_block h.f) (fun f=>f)).trans h.f⟩

theorem am {w w':World} {b:Nat} {cs:Array Value} {t:TypeId} {fr:Nat × Nat} (h:w.heap[b]? = some (.cells cs t fr)) (k:Kept af w w'):w'.heap[b]? = some (.cells cs t fr):=(k.block _ (lt_of_block h) (fun f=>f)).trans h

theorem IG (o:Tr) (at_:Int) (fo:Option Addr) (fl fc:Nat) (w:World) :
  Calls prog 89 #[aL o,.agg #[.int .i64 at_,.slice fo fl fc]] w fun e w'=>∃ bT bF,e=.returned (.func (.func 140) #[] #[.pointer (some ⟨bT,0,none⟩),.pointer (some ⟨bF,0,none⟩)])/\Clo w' bT bF (aL o) at_ fo fl fc/\Kept af w w':=by
 have c:=im;obtain ⟨po,b⟩:=aK o;rw [b];obtain ⟨W,hW⟩:∃ W,W=(w.alloc (.cells #[.pointer po] 53)).alloc (.cells #[.int .i64 at_,.slice fo fl fc] 31):=⟨_,rfl⟩
 have k0:Kept af w W:=by rw [hW];exact ((aj af w).alloc _).alloc _
 have h1:Box W w.heap.size (.pointer po) 53:=by rw [hW];exact (Box.new w _ _).alloc _
 have h2:W.heap[w.heap.size+1]? = some (.cells #[.int .i64 at_,.slice fo fl fc] 31 (0,0)):=by
  rw [hW];have:=heap_alloc_new (w.alloc (.cells #[.pointer po] 53)) (.cells #[.int .i64 at_,.slice fo fl fc] 31)
  rwa [World.size_alloc] at this
 have HW:=aa hW;have HF:=aa (And.intro h1 (And.intro h2 k0));clear hW k0 h1 h2;go_enter func89,ntmps89;go_wp2_with (rw [<- HW.out]);go_ret;exact ⟨w.heap.size,w.heap.size+1,rfl,⟨HF.out.1,HF.out.2.1⟩,HF.out.2.2⟩

end Go.Proofs.YtkaojflnghfmcaaGreatDoor
