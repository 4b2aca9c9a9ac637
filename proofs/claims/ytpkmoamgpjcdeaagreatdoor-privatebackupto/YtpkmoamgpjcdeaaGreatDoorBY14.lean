/- Put together of: Prw5 Div1 PrF Quo1. -/
import Derived.Test.YtpkmoamgpjcdeaaGreatDoorBY13

namespace Go.Proofs.YtpkmoamgpjcdeaaGreatDoor
open _root_.Go.Proofs.Tryz
set_option maxRecDepth 100000
set_option maxHeartbeats 4000000
open Go.RowKit
variable {B N Q U V Y Z j n q r u vl y0 y1:Nat} {os qs zs:LN}

def xY (at_:Int) (fs:LN) (b T N P Q DP DQ QI n nP nQ:Nat):Nat:=xw at_ 4 fs (xw at_ 3 fs (yj (ES at_ fs b DP P nP) (ET at_ fs b DQ Q nQ) QI P Q) n N*T%N) n N

theorem B9 {at_:Int} {fs:LN} {b T P DP DQ QI nP nQ:Nat} (hP:0<P) (hQ:0<Q) (hN:P*Q=N):xY at_ fs b T N P Q DP DQ QI n nP nQ=ni at_ fs b T N P Q DP DQ QI n nP nQ:=by
 have a:0<N:=by rw [<- hN];exact gI hP hQ
 have h1:ES at_ fs b DP P nP=yL at_ fs b P DP nP:=p8 (aY _ hP);have h2:ET at_ fs b DQ Q nQ=tD at_ fs b Q DQ nQ:=p8 (aY _ hQ);have hV:tD at_ fs b Q DQ nQ<Q:=by rw [<- h2];exact mE hQ
 have hz:=zH (X:=yL at_ fs b P DP nP) (QI:=QI) hP hV;have e:yj (yL at_ fs b P DP nP) (tD at_ fs b Q DQ nQ) QI P Q=(tD at_ fs b Q DQ nQ+Q*vM (yL at_ fs b P DP nP) (tD at_ fs b Q DQ nQ) P QI)%N:=by
  rw [<- hN,aB]
  ·unfold yj vM;rw [aD _ Q,lf];rfl
  ·unfold yj at hz;unfold vM;rw [aD Q,lf];exact hz
 unfold xY ni Fs Ft;rw [h1,h2,e,p8 (aY _ a),p8 (aY _ a)]

def qj (n nP nQ LP LQ:Nat):List Ev:=vv n ++ (uN n nP nQ LP LQ ++ (pB n ++ (vD n ++ (vv n ++ (pB n ++ ([(1,((max n n:Nat):Int),0)] ++ [(1,((n:Nat):Int),0)]))))))

theorem sk {nP nQ LP LQ:Nat} (hP:nP<=130) (hQ:nQ<=130) (h1:LP<=300:=by omega) (h2:LQ<=300:=by omega):(uN n nP nQ LP LQ).length<=130000000:=by
 have a1:=pY (N1:=n) hP h1;have a2:=pY (N1:=n) hQ h2;have a3:=jr nP;have a4:=jr nQ;have a5:=gX nQ nP;have a6:=kJ hP;have a7:=qU (L:=nP) (M:=nQ);unfold uN FO;simp only [bk,bw,dh,fB];omega

theorem Lf (o:Tr) (at_:Int) (ao:rJ at_) (s:KS) (l:KL) (fo:OA) (fl fc:Nat) (fs:LN) (xo yo:OA) (n xc yc Cn Rn N P Q nP nQ:Nat) (w:World) (ht:TrRoom w o 500000000) (hR:KRows w o s l fo fl fc fs) (gf:Digs fs) (hd:l.Digs) (bk:s.en<18446744073709551616)
  (hN:N=val l.n) (Z:eS N=0) (aE:n=am N) (bq:s.nl=n) (hP:P=val l.p) (hQ:Q=val l.q) (al:eS P=0) (an:eS Q=0) (aF:nP=am P) (aH:nQ=am Q) (br:s.pl<=300) (bv:s.ql<=300) (J:s.dpl<=300) (L:s.dql<=300) (bt:val l.qi<P) (bh:P*Q=N)
  (hx:NumT w o (.slice xo n xc) n Cn) (hC:Cn<N) (hy:NumT w o (.slice yo n yc) n Rn) (bi:Rn<N) (hg:Nat.gcd Rn N=1) :
  ClZ 25 #[aP o,.agg #[.slice s.no s.nl s.nc,.int .u64 (s.en:Nat),.slice s.dO s.dl s.dc,.slice s.po s.pl s.pc,.slice s.qo s.ql s.qc,.slice s.dpo s.dpl s.dpc,.slice s.dqo s.dql s.dqc,.slice s.qio s.qil s.qic],.slice xo n xc,.slice yo n yc,.agg #[.int .i64 at_,.slice fo fl fc]] w fun e w'=>∃ zo zc Tn b M o',e=.returned (.tuple #[.slice zo n zc,.int .u64 ((b:Nat):Int)])/\(Tn<N/\Rn*Tn%N=1)/\M=xY at_ fs (Cn*(Rn^s.en%N)%N) Tn N P Q (val l.dp) (val l.dq) (val l.qi) n nP nQ/\b=dF (decide (M^s.en%N=Cn))/\NumT w' o' (.slice zo n zc) n (cZ b M 0)/\Did w o (qj n nP nQ s.dpl s.dql) w' o':=by
 obtain ⟨po,bs⟩:=aM o;obtain ⟨W,hW⟩:=aj ((w.alloc (.cells #[.slice s.no s.nl s.nc,.int .u64 (s.en:Nat),.slice s.dO s.dl s.dc,.slice s.po s.pl s.pc,.slice s.qo s.ql s.qc,.slice s.dpo s.dpl s.dpc,.slice s.dqo s.dql s.dqc,.slice s.qio s.qil s.qic] 26)).alloc (.cells #[.int .i64 at_,.slice fo fl fc] 32))
 have k0:Kept af w W:=by rw [hW];exact ((ah af w).alloc _).alloc _
 have aJ:W.heap[w.heap.size]? = some (.cells #[.slice s.no s.nl s.nc,.int .u64 (s.en:Nat),.slice s.dO s.dl s.dc,.slice s.po s.pl s.pc,.slice s.qo s.ql s.qc,.slice s.dpo s.dpl s.dpc,.slice s.dqo s.dql s.dqc,.slice s.qio s.qil s.qic] 26 (0,0)):=by rw [hW];exact aw (heap_alloc_new _ _)
 have bw:W.heap[w.heap.size+1]? = some (.cells #[.int .i64 at_,.slice fo fl fc] 32 (0,0)):=by
  rw [hW];have:=heap_alloc_new (w.alloc (.cells #[.slice s.no s.nl s.nc,.int .u64 (s.en:Nat),.slice s.dO s.dl s.dc,.slice s.po s.pl s.pc,.slice s.qo s.ql s.qc,.slice s.dpo s.dpl s.dpc,.slice s.dqo s.dql s.dqc,.slice s.qio s.qil s.qic] 26)) (.cells #[.int .i64 at_,.slice fo fl fc] 32)
  rwa [World.size_alloc] at this
 have c:n<=130:=by rw [aE];exact (eu Z).1
 have aG:nP<=130:=by rw [aF];exact (eu al).1
 have aI:nQ<=130:=by rw [aH];exact (eu an).1
 have b4:=(eu Z).2.1;have c0:=vT o s.no s.nl s.nc l.n N n W (ht.1.g k0) (hR.n.1.g k0) hd.n (by omega) hN Z aE;have JS:=aa fun W (k:Kept af w W)=>L8 o at_ fo fl fc W
 rw [bs] at JS ⊢;have ae:=aa fun (o':Tr) (bT bF:Nat) (bo:OA) (bc Bv:Nat) W' (t':TrRoom W' o' 300000000) (r':KRows W' o' s l fo fl fc fs) (c':Clo W' bT bF (aP o') at_ fo fl fc) (y':NumT W' o' (.slice bo n bc) n Bv) (hpq:P*Q<18446744073709551616^n)=>Li o' bT bF at_ ao s l fo fl fc fs bo n bc Bv P Q nP nQ W' t' r' c' gf hd hP hQ al an aF aH br bv J L bq c bt hpq y'
 have bO:=aa bh;have bP:=aa (hR.g k0);have HX:=aa (hx.g k0);have HY:=aa (hy.g k0);have HT:=aa (ht.g k0);have bQ:=aa ht.1;have a9:=aa k0;have HG:=aa hg;have HW:=aa hW;obtain ⟨q0,-⟩:=aZ aJ;clear hR hx hy hd hP hQ hN Z al an aF aH aE br bv bt bh hW k0 ht bq hg;delta ClZ;go_in;go_wp2_with (rw [<- HW.o]);refine c0.mono ?_;rintro e w1 ⟨na,nb,nK,nm,nr,rfl,mN,-,k1⟩;clear c0 q0;go_wp2_with fail;refine (jB na nb n nm nK n nr w1).mono ?_;rintro e w2 ⟨rfl,k2⟩;have bz:=k1.trans k2;obtain ⟨W3,ab⟩:=aj (w2.alloc (.cells #[.slice na n nm,.int .u64 (nK:Nat),.slice nb n nr] 71))
 have k3:Kept af w2 W3:=by rw [ab];exact (ah af w2).alloc _
 have z:W3.heap[w2.heap.size]? = some (.cells #[.slice na n nm,.int .u64 (nK:Nat),.slice nb n nr] 71 (0,0)):=by rw [ab];exact heap_alloc_new _ _
 have R:=bz.trans k3;have aK:=au bw R;have q1:=(jD aK).1;have q2:=(jD aK).2;have T:=(mN.g k2).g k3;have x:=au aJ R;have J3:=JS.o W3 (a9.o.trans R);have ag:=aa R;have bR:=aa ab;clear ab aJ bw aK k1 k2 k3 bz R mN JS;go_wp2_with (rw [<- bR.o]);refine J3.mono ?_;rintro e w4 ⟨bT,bF,rfl,C4,k4⟩;clear J3 q1 q2;have KW:=ag.o.trans k4;have s0:Wr w o [] w4 o (.pointer po) 500000000:=⟨Did.of_kept (a9.o.trans KW) bQ.o,HT.o.g KW,bs⟩
 have R0:=bP.o.g KW;have X0:=HX.o.g KW;have Y0:=HY.o.g KW;have C0:=C4;have aL:=T.g k4;have bl:=au x k4;have bn:=au z k4;have bN:HzD (N<18446744073709551616^n):=aL.a.2.2.2;clear C4 KW k4 T x z;go_wp2_with fail;have d1:Did w4 o [] w4.drew o:=Did.of_kept (ah af w4).drew s0.room.1;have s1:=s0.next (k:=499000000) d1 (by simp)
 have R1:=R0.did d1;have C1:=C0.did d1 s0.room.1;have X1:=X0.did d1;have Y1:=Y0.did d1;have aN:=aL.did d1;have ap:=d1.cells bl s0.room.1;have az:=d1.cells bn s0.room.1;clear R0 C0 X0 Y0 aL bl bn s0 d1;refine wp_region_held_drew (S:=fun w'=>w'.heap[w.heap.size]? = some (.cells #[.slice s.no s.nl s.nc,.int .u64 (s.en:Nat),.slice s.dO s.dl s.dc,.slice s.po s.pl s.pc,.slice s.qo s.ql s.qc,.slice s.dpo s.dpl s.dpc,.slice s.dqo s.dql s.dqc,.slice s.qio s.qil s.qic] 26 (0,0))/\w'.heap[w2.heap.size]? = some (.cells #[.slice na n nm,.int .u64 (nK:Nat),.slice nb n nr] 71 (0,0))) (by kernel_rfl) (And.intro ap (az)) (fun hS=>?_)
 refine mM (fun _ _ d _ _ h=>by cases d <;> exact h) fun Q1 a B=>?_
 refine aT a 0 (some 30) (.pointer po) hS ?_;refine aT a 1 (some 31) (.agg #[.slice na n nm,.int .u64 (nK:Nat),.slice nb n nr]) hS ?_ (y:=dL fun w h=>by simp [execOp,go_sem,(ax h.2).1,(ax h.2).2.1,(ax h.2).2.2]);refine aT a 2 (some 32) (.slice xo n xc) hS ?_;refine aT a 3 (some 33) (.agg #[.slice na n nm,.int .u64 (nK:Nat),.slice nb n nr]) hS ?_ (y:=dL fun w h=>by simp [execOp,go_sem,(ax h.2).1,(ax h.2).2.1,(ax h.2).2.2]);refine aT a 4 (some 34) (.slice yo n yc) hS ?_;refine aT a 5 (some 35) (.pointer (some ⟨w.heap.size,1,none⟩)) hS ?_
 refine aT a 6 (some 36) (.int .u64 (s.en:Int)) hS ?_ (y:=dL fun w h=>by simp [execOp,go_sem,(aZ h.1).2.1]);simp only [aU];have c2:=Ac o na nb yo n nK nm nr yc s.en Rn N _ s1.room.1 aN Y1 bi bk;refine cD 7 (some 37) 63 [.agg #[.slice na n nm,.int .u64 (nK:Nat),.slice nb n nr],.slice yo n yc,.int .u64 (s.en:Int)] (c2) ?_;rintro r b2 ⟨ue,ve,rfl,a4,k2⟩;have d2:Did w4.drew o [] b2 o:=Did.of_kept k2 s1.room.1;have s2:=s1.next (k:=498000000) d2 (by simp)
 have R2:=R1.did d2;have C2:=C1.did d2 s1.room.1;have X2:=X1.did d2;have Y2:=Y1.did d2;have aQ:=aN.did d2;have E:=d2.cells ap s1.room.1;have G:=d2.cells az s1.room.1;refine .inl ⟨_,rfl,(And.intro E (G)),?_⟩;simp only [aU];clear R1 C1 X1 Y1 aN ap az c2 s1 d2 k2;refine aT a 8 (some 38) (.slice ue n ve) (And.intro E (G)) ?_;refine aT a 9 (some 39) (.int .i64 0) (And.intro E (G)) ?_;simp only [aU];refine cD 10 (some 40) 29 [.slice ue n ve,.int .i64 0] (gO ue n ve _) ?_;rintro r wz ⟨rfl,A⟩;obtain rfl:=A.symm;refine .inl ⟨_,rfl,(And.intro E (G)),?_⟩
 simp only [aU];have c3:=Dt o na nb xo ue n nK nm nr xc ve Cn _ N _ (s2.room.l (by omega)) aQ X2 hC a4 (bu);rw [s2.ptr] at c3;refine cD 11 (some 41) 62 [.pointer po,.agg #[.slice na n nm,.int .u64 (nK:Nat),.slice nb n nr],.slice xo n xc,.slice ue n ve] (c3) ?_;rintro r a6 ⟨ub,vb,o3,rfl,bC,d3⟩;have s3:=s2.next (k:=497000000) d3 (by have h:=kJ c;omega)
 have R3:=R2.did d3;have C3:=C2.did d3 s2.room.1;have X3:=X2.did d3;have Y3:=Y2.did d3;have T:=aQ.did d3;have x:=d3.cells E s2.room.1;have z:=d3.cells G s2.room.1;have bY:=a4.did d3;refine .inl ⟨_,rfl,(And.intro x (z)),?_⟩;simp only [aU];clear R2 C2 X2 Y2 aQ E G a4 c3 s2 d3;clear bY;refine aT a 12 (some 42) (.slice ub n vb) (And.intro x (z)) ?_;refine aT a 13 (some 43) (.int .i64 0) (And.intro x (z)) ?_;simp only [aU];refine cD 14 (some 44) 29 [.slice ub n vb,.int .i64 0] (gO ub n vb _) ?_;rintro r wz ⟨rfl,A⟩;obtain rfl:=A.symm
 refine .inl ⟨_,rfl,(And.intro x (z)),?_⟩;refine aT a 15 (some 14) (.slice ub n vb) (And.intro x (z)) ?_;simp only [aU];refine wpAnyH_done (by kernel_rfl) ?_ _;refine B.out _ _ ?_;go_wp2_with fail;have d4:Did a6 o3 [] a6.drew o3:=Did.of_kept (ah af a6).drew s3.room.1;have s4:=s3.next (k:=496000000) d4 (by simp)
 have R4:=R3.did d4;have C4:=C3.did d4 s3.room.1;have X4:=X3.did d4;have Y4:=Y3.did d4;have bA:=T.did d4;have ar:=d4.cells x s3.room.1;have aB:=d4.cells z s3.room.1;have aX:=bC.did d4;clear R3 C3 X3 Y3 T x z bC s3 d4
 refine wp_region_held_drew (S:=fun w'=>w'.heap[w.heap.size]? = some (.cells #[.slice s.no s.nl s.nc,.int .u64 (s.en:Nat),.slice s.dO s.dl s.dc,.slice s.po s.pl s.pc,.slice s.qo s.ql s.qc,.slice s.dpo s.dpl s.dpc,.slice s.dqo s.dql s.dqc,.slice s.qio s.qil s.qic] 26 (0,0))/\w'.heap[w2.heap.size]? = some (.cells #[.slice na n nm,.int .u64 (nK:Nat),.slice nb n nr] 71 (0,0))) (by kernel_rfl) (And.intro ar (aB)) (fun hS=>?_);clear a B;refine mM (fun _ _ d _ _ h=>by cases d <;> exact h) fun Q1 a B=>?_
 refine aT a 0 (some 45) (.func (.func 101) #[] #[.pointer (some ⟨bT,0,none⟩),.pointer (some ⟨bF,0,none⟩)]) hS ?_;refine aT a 1 (some 46) (.agg #[.slice na n nm,.int .u64 (nK:Nat),.slice nb n nr]) hS ?_ (y:=dL fun w h=>by simp [execOp,go_sem,(ax h.2).1,(ax h.2).2.1,(ax h.2).2.2]);refine aT a 2 (some 47) (.pointer po) hS ?_
 refine aT a 3 (some 48) (.agg #[.slice s.no s.nl s.nc,.int .u64 (s.en:Nat),.slice s.dO s.dl s.dc,.slice s.po s.pl s.pc,.slice s.qo s.ql s.qc,.slice s.dpo s.dpl s.dpc,.slice s.dqo s.dql s.dqc,.slice s.qio s.qil s.qic]) hS ?_ (y:=dL fun w h=>by simp [execOp,go_sem,(aZ h.1).1,(aZ h.1).2.1,(aZ h.1).2.2.1,(aZ h.1).2.2.2.1,(aZ h.1).2.2.2.2.1,(aZ h.1).2.2.2.2.2.1,(aZ h.1).2.2.2.2.2.2.1,(aZ h.1).2.2.2.2.2.2.2]);refine aT a 4 (some 49) (.slice ub n vb) hS ?_;refine aT a 5 (some 50) (.func (.func 101) #[] #[.pointer (some ⟨bT,0,none⟩),.pointer (some ⟨bF,0,none⟩)]) hS ?_;simp only [aU]
 have c5:=ae.o o3 bT bF ub vb _ _ (s4.room.l (by omega)) R4 (by rw [s4.ptr];exact C4) aX (by rw [bO.o];exact bN.o);rw [s4.ptr] at c5;refine cD 6 (some 51) 64 [.pointer po,.agg #[.slice s.no s.nl s.nc,.int .u64 (s.en:Nat),.slice s.dO s.dl s.dc,.slice s.po s.pl s.pc,.slice s.qo s.ql s.qc,.slice s.dpo s.dpl s.dpc,.slice s.dqo s.dql s.dqc,.slice s.qio s.qil s.qic],.slice ub n vb,.func (.func 101) #[] #[.pointer (some ⟨bT,0,none⟩),.pointer (some ⟨bF,0,none⟩)]] (c5) ?_;rintro r b6 ⟨uh,vh,o5,rfl,aY,d5⟩;have s5:=s4.next (k:=360000000) d5 (by have h:=sk (n:=n) aG aI J L;omega)
 have R5:=R4.did d5;have C5:=C4.did d5 s4.room.1;have X5:=X4.did d5;have Y5:=Y4.did d5;have aR:=bA.did d5;have av:=d5.cells ar s4.room.1;have aC:=d5.cells aB s4.room.1;have bW:=aX.did d5;refine .inl ⟨_,rfl,(And.intro av (aC)),?_⟩;simp only [aU];clear R4 C4 X4 Y4 bA ar aB aX c5 s4 d5;clear bW;have c6:=ox 3 (by omega) (by omega) o5 bT bF at_ ao na nb uh fo n nK nm nr vh fl fc _ N fs _ (s5.room.l (by omega)) aR aY (by rw [s5.ptr];exact C5.t) C5.f R5.f gf
 refine zx 7 (some 52) (by kernel_rfl) rfl rfl (by rfl) 101 45 _ _ _ [.int .i64 (3:Nat),.agg #[.slice na n nm,.int .u64 (nK:Nat),.slice nb n nr],.slice uh n vh] rfl rfl rfl (fun _ _=>by simp [go_sem]) c6 ?_;rintro r b7 ⟨uz,vz,o6,rfl,bG,d6⟩;have s6:=s5.next (k:=359000000) d6 (by have h:=jr n;omega)
 have R6:=R5.did d6;have C6:=C5.did d6 s5.room.1;have X6:=X5.did d6;have Y6:=Y5.did d6;have aS:=aR.did d6;have ac:=d6.cells av s5.room.1;have O:=d6.cells aC s5.room.1;have bX:=aY.did d6;refine ⟨_,rfl,(And.intro ac (O)),?_⟩;simp only [aU];clear R5 C5 X5 Y5 aR av aC aY c6 s5 d6;clear bX;refine aT a 8 (some 15) (.slice uz n vz) (And.intro ac (O)) ?_;simp only [aU];refine wpAnyH_done (by kernel_rfl) ?_ _;refine B.out _ _ ?_;obtain ⟨p0,p1,p2⟩:=ax O;have c7:=Lj o6 na nb yo n nK nm nr yc Rn N _ (s6.room.l (by omega)) aS Y6 bi HG.o;rw [s6.ptr] at c7;go_wp2_with fail
 refine c7.mono ?_;rintro e a7 ⟨ui,vi,Tn,o7,rfl,bj,bD,d7⟩;have s7:=s6.next (k:=358000000) d7 (by have h:=oU c;omega)
 have R7:=R6.did d7;have C7:=C6.did d7 s6.room.1;have X7:=X6.did d7;have Y7:=Y6.did d7;have bB:=aS.did d7;have bm:=d7.cells ac s6.room.1;have bp:=d7.cells O s6.room.1;have bH:=bG.did d7;clear R6 C6 X6 Y6 aS ac O bG c7 s6 d7 p0 p1 p2;go_wp2_with fail;have d8:Did a7 o7 [] a7.drew o7:=Did.of_kept (ah af a7).drew s7.room.1;have s8:=s7.next (k:=357000000) d8 (by simp)
 have R8:=R7.did d8;have C8:=C7.did d8 s7.room.1;have X8:=X7.did d8;have Y8:=Y7.did d8;have aV:=bB.did d8;have ay:=d8.cells bm s7.room.1;have aD:=d8.cells bp s7.room.1;have bI:=bH.did d8;have bE:=bD.did d8;clear R7 C7 X7 Y7 bB bm bp bH bD s7 d8
 refine wp_region_held_drew (S:=fun w'=>w'.heap[w.heap.size]? = some (.cells #[.slice s.no s.nl s.nc,.int .u64 (s.en:Nat),.slice s.dO s.dl s.dc,.slice s.po s.pl s.pc,.slice s.qo s.ql s.qc,.slice s.dpo s.dpl s.dpc,.slice s.dqo s.dql s.dqc,.slice s.qio s.qil s.qic] 26 (0,0))/\w'.heap[w2.heap.size]? = some (.cells #[.slice na n nm,.int .u64 (nK:Nat),.slice nb n nr] 71 (0,0))) (by kernel_rfl) (And.intro ay (aD)) (fun hS=>?_);clear a B;refine mM (fun _ _ d _ _ h=>by cases d <;> exact h) fun Q1 a B=>?_
 refine aT a 0 (some 61) (.func (.func 101) #[] #[.pointer (some ⟨bT,0,none⟩),.pointer (some ⟨bF,0,none⟩)]) hS ?_;refine aT a 1 (some 62) (.agg #[.slice na n nm,.int .u64 (nK:Nat),.slice nb n nr]) hS ?_ (y:=dL fun w h=>by simp [execOp,go_sem,(ax h.2).1,(ax h.2).2.1,(ax h.2).2.2]);refine aT a 2 (some 63) (.pointer po) hS ?_;refine aT a 3 (some 64) (.agg #[.slice na n nm,.int .u64 (nK:Nat),.slice nb n nr]) hS ?_ (y:=dL fun w h=>by simp [execOp,go_sem,(ax h.2).1,(ax h.2).2.1,(ax h.2).2.2]);refine aT a 4 (some 65) (.slice uz n vz) hS ?_;refine aT a 5 (some 66) (.slice ui n vi) hS ?_
 refine aT a 6 (some 67) (.int .i64 0) hS ?_;simp only [aU];refine cD 7 (some 68) 29 [.slice ui n vi,.int .i64 0] (gO ui n vi _) ?_;rintro r wz ⟨rfl,A⟩;rw [A];clear A;refine .inl ⟨_,rfl,hS,?_⟩;simp only [aU];have c9:=Dt o7 na nb uz ui n nK nm nr vz vi _ Tn N _ (s8.room.l (by omega)) aV bI (mE) bE bj.1;rw [s8.ptr] at c9;refine cD 8 (some 69) 62 [.pointer po,.agg #[.slice na n nm,.int .u64 (nK:Nat),.slice nb n nr],.slice uz n vz,.slice ui n vi] (c9) ?_;rintro r b8 ⟨um,vm,o9,rfl,a1,d9⟩;have s9:=s8.next (k:=356000000) d9 (by have h:=kJ c;omega)
 have R9:=R8.did d9;have C9:=C8.did d9 s8.room.1;have X9:=X8.did d9;have Y9:=Y8.did d9;have aW:=aV.did d9;have F:=d9.cells ay s8.room.1;have H:=d9.cells aD s8.room.1;refine .inl ⟨_,rfl,(And.intro F (H)),?_⟩;simp only [aU];clear R8 C8 X8 Y8 aV ay aD bI bE c9 s8 d9;refine aT a 9 (some 70) (.slice um n vm) (And.intro F (H)) ?_;refine aT a 10 (some 71) (.int .i64 0) (And.intro F (H)) ?_;simp only [aU];refine cD 11 (some 72) 29 [.slice um n vm,.int .i64 0] (gO um n vm _) ?_;rintro r wz ⟨rfl,A⟩;obtain rfl:=A.symm;refine .inl ⟨_,rfl,(And.intro F (H)),?_⟩
 simp only [aU];have bf:=ox 4 (by omega) (by omega) o9 bT bF at_ ao na nb um fo n nK nm nr vm fl fc _ N fs _ (s9.room.l (by omega)) aW a1 (by rw [s9.ptr];exact C9.t) C9.f R9.f gf;refine zx 12 (some 73) (by kernel_rfl) rfl rfl (by rfl) 101 61 _ _ _ [.int .i64 (4:Nat),.agg #[.slice na n nm,.int .u64 (nK:Nat),.slice nb n nr],.slice um n vm] rfl rfl rfl (fun _ _=>by simp [go_sem]) bf ?_;rintro r bJ ⟨uo,vo,X,rfl,g,m⟩;have D:=s9.next (k:=355000000) m (by have h:=jr n;omega)
 have ba:=R9.did m;have a8:=C9.did m s9.room.1;have bb:=X9.did m;have be:=Y9.did m;have C:=aW.did m;have i:=m.cells F s9.room.1;have j:=m.cells H s9.room.1;have a0:=a1.did m;refine ⟨_,rfl,(And.intro i (j)),?_⟩;simp only [aU];clear R9 C9 X9 Y9 aW F H a1 bf s9 m;clear a0;refine aT a 13 (some 19) (.slice uo n vo) (And.intro i (j)) ?_;simp only [aU];refine wpAnyH_done (by kernel_rfl) ?_ _;refine B.out _ _ ?_
 replace g:NumT bJ X (.slice uo n vo) n (xY at_ fs (Cn*(Rn^s.en%N)%N) Tn N P Q (val l.dp) (val l.dq) (val l.qi) n nP nQ):=g
 have I:xY at_ fs (Cn*(Rn^s.en%N)%N) Tn N P Q (val l.dp) (val l.dq) (val l.qi) n nP nQ<N:=mE;obtain ⟨M,hM⟩:=aj (xY at_ fs (Cn*(Rn^s.en%N)%N) Tn N P Q (val l.dp) (val l.dq) (val l.qi) n nP nQ)
 rw [<- hM] at g I;have bM:=aa hM;clear hM;obtain ⟨p0,p1,p2⟩:=ax j;obtain ⟨-,r1,-⟩:=aZ i;have bg:=Ac X na nb uo n nK nm nr vo s.en M N _ D.room.1 C g I bk;go_wp2_with fail;refine bg.mono ?_;rintro e b3 ⟨uc,vc,rfl,U,bx⟩;have v:Did bJ X [] b3 X:=Did.of_kept bx D.room.1;have ad:=D.next (k:=354000000) v (by simp)
 have bS:=ba.did v;have bK:=a8.did v D.room.1;have bd:=bb.did v;have bU:=be.did v;have aO:=C.did v;have aq:=v.cells i D.room.1;have aA:=v.cells j D.room.1;have V:=g.did v;clear ba a8 bb be C i j g bg D v bx p0 p1 p2 r1;go_wp2_with fail;refine (gO uc n vc _).mono ?_;rintro e wz ⟨rfl,A⟩;obtain rfl:=A.symm;have Y:=Lg X _ _ n n _ Cn _ (ad.room.l (by omega)) U bd;rw [ad.ptr] at Y;obtain ⟨b,hb⟩:=aj (dF (decide (M^s.en%N=Cn)))
 have b5:b<=1:=by rw [hb];exact qY _
 rw [<- hb] at Y;have bL:=aa hb;clear hb;go_wp2_with fail;refine Y.mono ?_;rintro e b9 ⟨rfl,b0,ak⟩;have a5:=ad.next (k:=353000000) ak (by simp)
 have a2:=V.did ak;clear bS bK bd bU aO aq aA V U Y ad ak;have ai:=Ib b0 b n M (by omega) _ _ (a5.room.l (by omega)) a2 (by omega);rw [a5.ptr] at ai;go_wp2_with fail;refine ai.mono ?_;rintro e ca ⟨us,vs,b1,rfl,a3,bV⟩;have sz:=a5.next (k:=10) bV (by simp)
 clear ai;go_wp2_with fail;go_ret2;refine ⟨us,vs,Tn,b,M,b1,rfl,bj,bM.o,bL.o,a3,?_⟩;have h:=sz.did;simp only [qj,dX,bZ,dY] at h ⊢;exact h

structure Gss (B U u y1 y0 q r:Nat):Prop where
 eq:q*y1+r=U
 ge:(U*B+u)/(y1*B+y0)<=q
 le:q<=B+1

theorem sB (q y1 y0 B:Nat):(y1*B+y0)*q=q*y1*B+q*y0:=by
 rw [dm,aD (y1*B) q,<- bd,aD y0 q]

theorem Gss.start (hB:0<B) (hu:u<B) (h1:B<=2*y1) (h0:y0<B) (hU:U<y1*B+y0):Gss B U u y1 y0 (U/y1) (U%y1):=by
 have a:0<y1:=by omega
 refine ⟨by rw [aD];exact dD U y1,?_,?_⟩
 ·have e:(U*B+u)/(y1*B)=U/y1:=by
   rw [aD y1 B,<- di,aD U B,gH hB,bJ hu,aV]
  rw [<- e];exact Nat.div_le_div_left (by omega) (gI a hB)
 ·have h2:U/y1<B+2:=by
   rw [cW a,dm,aD B y1];omega
  omega

theorem tF (hu:u<B) (hU:U<Y:=by omega):(U*B+u)/Y<B:=by
 rw [cW (by omega)];have:(U+1)*B<=Y*B:=cF _ hU;rw [dm,iG] at this;rw [aD B Y];omega

theorem Ad {A:Nat} (hY:0<Y) (h1:A/Y<=q) (h2:Y*q<=A:=by omega):q=A/Y:=by
 have h3:q<=A/Y:=(nH hY).2 (by rw [aD];exact h2);omega

theorem Gss.stop (g:Gss B U u y1 y0 q r) (hY:0<y1*B+y0) (ht:q*y0<=B*r+u):q=(U*B+u)/(y1*B+y0):=by
 refine Ad hY g.ge ?_;rw [sB,<- g.eq,dm,aD r B];omega

theorem Gss.next (g:Gss B U u y1 y0 q r) (hu:u<B) (hU:U<y1*B+y0) (ht:B<=q\/B*r+u<q*y0):0<q/\Gss B U u y1 y0 (q-1) (r+y1):=by
 have hlt:(U*B+u)/(y1*B+y0)<q:=by
  rcases ht with h | h
  ·exact bi (tF hu hU) h
  ·rw [cW (by omega),aD q,sB,<- g.eq,dm,aD r B];omega
 have hq:0<q:=fF (aQ _) hlt;refine ⟨hq,?_,Nat.le_sub_one_of_lt hlt,by have:=g.le;omega⟩;obtain ⟨p,rfl⟩:∃ p,q=p+1:=⟨q-1,by omega⟩
 have:=g.eq;rw [dm,iG] at this;rw [gF];omega

theorem Gss.over (hq:q<=B) (h0:y0<B) (hr:B<=r):q*y0<=B*r+u:=by
 have h1:q*y0<=B*B:=aI (cF _ hq) (bG _ (by omega));have h2:B*B<=B*r:=bG _ hr;omega

theorem eh (A Y:Nat):A/Y*Y+A%Y=A:=by rw [aD];exact dD A Y

theorem fz {v q1 q0:Nat} (hY:0<Y) (h1:q1=(U*B+u)/Y) (h0:q0=((U*B+u)%Y*B+v)/Y) :
  q1*B+q0=((U*B+u)*B+v)/Y/\((U*B+u)%Y*B+v)%Y=((U*B+u)*B+v)%Y:=by
 have e:=dD (U*B+u) Y;have e2:(U*B+u)*B+v=Y*(q1*B)+((U*B+u)%Y*B+v):=by
  have:(U*B+u)*B=(Y*((U*B+u)/Y)+(U*B+u)%Y)*B:=by rw [e]
  rw [this,dm,<- h1,bd];omega
 refine ⟨?_,?_⟩
 ·rw [e2,gH hY,<- h0]
 ·rw [e2,iZ]

theorem pd {M y p:Nat} (hp:0<p):(M*p)/(y*p)=M/y/\(M*p)%(y*p)/p=M%y:=by
 refine ⟨Nat.mul_div_mul_right _ _ hp,?_⟩;rw [Nat.mul_mod_mul_right,Nat.mul_div_cancel _ hp]

theorem AW {b ul U3 V2:Nat} (hU:U=U3*b+ul) (d:ul<b) (hV:V=V2*b+vl) (g:vl<b) (f:B<=V2) (hB:0<B) (hQ:U3/V2<=B) :
  U/V<=U3/V2/\U3/V2<=U/V+1:=by
 have hb:0<b:=by omega
 have a:0<V2:=by omega
 have c:0<V:=by
  have:1*1<=V2*b:=er a hb;omega
 refine ⟨?_,?_⟩
 ·have e:U/(V2*b)=U3/V2:=by
   rw [aD V2 b,<- di,hU,aD U3 b,gH hb,bJ d,aV]
  rw [<- e];exact Nat.div_le_div_left (by omega) (gI a hb)
 ·generalize hQq:U3/V2=Q at *;rcases cE Q with h | h
  ·rw [h];exact aQ _
  ·obtain ⟨p,rfl⟩:∃ p,Q=p+1:=⟨Q-1,by omega⟩
   have h3:V2*(p+1)<=U3:=by rw [<- hQq];exact Nat.mul_div_le U3 V2
   have:p<=U/V:=by
    rw [nH c,hV,hU,aJ];have h4:p*vl<=p*b:=bG _ (by omega);have h5:p*b<=V2*b:=cF _ (by omega);have h6:V2*(p+1)*b<=U3*b:=cF _ h3;rw [aJ,bI,dm] at h6;have h7:p*(V2*b)=V2*p*b:=by rw [<- bd,aD p V2]
    omega
   exact Nat.succ_le_succ this

theorem yr {b ul U1 V1:Nat} (hU:U=U1*b+ul) (hV:V=V1*b+vl) (f:vl<b) (a:U<V*B) (e:B<=2*V1) (hB:2<=B) (h:V1*B<=U1) :
  U/V<=B-1/\B-1<=U/V+1:=by
 have d:0<V:=by
  rcases cE V with h | h
  ·rw [h] at a;omega
  ·exact h
 refine ⟨?_,?_⟩
 ·have:U/V<B:=(cW d).2 (by rw [aD];exact a);omega
 ·obtain ⟨c,rfl⟩:∃ c,B=c+2:=⟨B-2,by omega⟩
  have:c<=U/V:=by
   rw [nH d,hV,hU,aJ];have h1:V1*(c+2)*b<=U1*b:=cF _ h;have h2:c*vl<=c*b:=bG _ (by omega);have h3:(c+2)*b<=2*V1*b:=cF _ e;rw [aJ,dm] at h1;rw [dm] at h3;have h4:c*(V1*b)=V1*c*b:=by rw [<- bd,aD c V1]
   have h5:V1*2*b=2*V1*b:=by rw [aD V1 2]
   omega
  exact Nat.succ_le_succ this

theorem bLz (y:Nat) (hy:y<18446744073709551616) (w:World) :
  ClZ 252 #[.int .u64 (y:Nat)] w fun e w'=>e=.returned (.int .i64 (64-aN y:Nat))/\w'=w:=by
 have b:aN y<=64:=(bh y 64).2 hy;have a:=Any.bits_Len64 Hj (y:Int) w (by omega) (by omega);rw [show ((y:Int).toNat)=y from rfl,lQ y hy] at a;generalize aN y=M at *;delta ClZ;go_in;go_wp2_with fail;refine a.mono ?_;rintro e w' ⟨rfl,rfl⟩;go_wp2;go_ret;refine ⟨?_,rfl⟩;simp;omega

theorem zq (x:Nat) (h:x<18446744073709551616):bits .and .u64 (x:Int) 4294967295=((x%4294967296:Nat):Int):=by
 have e:=u64_and_nat x 4294967295 (by omega) (by omega);rw [show (4294967295:Nat)=2^32-1 from rfl,Nat.and_two_pow_sub_one_eq_mod] at e;exact e

theorem Dc (hi lo s:Nat) (hs:s<=64) (h1:hi*2^s<18446744073709551616) (h2:lo<18446744073709551616):bits .or .u64 (IntKind.u64.wrap ((hi:Int)*2^s)) ((lo:Int)/2^(64-s))=((hi*2^s+lo/2^(64-s):Nat):Int):=by
 have e1:(hi:Int)*2^s=((hi*2^s:Nat):Int):=by simp
 have e2:(lo:Int)/2^(64-s)=((lo/2^(64-s):Nat):Int):=by simp
 have h3:lo/2^(64-s)<2^s:=by
  rw [cW (aX),<- aL,show s+(64-s)=64 by omega];exact h2
 have h4:lo/2^(64-s)<=lo:=em _ _;rw [e1,e2,IntKind.wrap_u64];have e3:((hi*2^s:Nat):Int)%18446744073709551616=((hi*2^s:Nat):Int):=by omega
 rw [e3,u64_or_nat _ _ (by omega) (by omega),aD hi (2^s),<- lr h3]

theorem fZ {P t R:Nat} (h:P+R=U*4294967296+t) (hR:R<18446744073709551616:=by omega) :
  ∃ a1 a2 a3:Nat,IntKind.u64.wrap ((U:Int)*4294967296)=(a1:Int)/\IntKind.u64.wrap ((a1:Int)+(t:Int))=(a2:Int)/\IntKind.u64.wrap (P:Int)=(a3:Int)/\IntKind.u64.wrap ((a2:Int)-(a3:Int))=(R:Int):=by
 refine ⟨U*4294967296%18446744073709551616,(U*4294967296+t)%18446744073709551616,P%18446744073709551616,?_,?_,?_,?_⟩ <;> rw [IntKind.wrap_u64] <;> omega

theorem uX {y:Nat} (h0:0<y) (hy:y<18446744073709551616):64-aN y<=63/\y*2^(64-aN y)<18446744073709551616/\9223372036854775808<=y*2^(64-aN y):=by
 have a:aN y<=64:=(bh y 64).2 hy;have h1:¬ aN y<=0:=fun h=>by have:=(bh y 0).1 h;omega
 have h2:=(bh y (aN y)).1 (leR _);have h3:¬ y<2^(aN y-1):=fun h=>by have:=(bh y (aN y-1)).2 h;omega
 refine ⟨by omega,?_,?_⟩
 ·have:y*2^(64-aN y)<2^aN y*2^(64-aN y):=nJ h2 (aX)
  rwa [<- aL,show aN y+(64-aN y)=64 by omega] at this
 ·have:2^(aN y-1)*2^(64-aN y)<=y*2^(64-aN y):=cF _ (by omega)
  rwa [<- aL,show aN y-1+(64-aN y)=63 by omega] at this

theorem IR (lo y:Nat) (hl:lo<18446744073709551616) (h0:0<y) (w:World) :
  ClZ 261 #[.int .u64 0,.int .u64 (lo:Nat),.int .u64 (y:Nat)] w fun e w'=>e=.returned (.tuple #[.int .u64 (lo/y:Nat),.int .u64 (lo%y:Nat)])/\∃ m,w'=w.drewN m:=by
 have g1:((y:Int) == 0)=false:=by simp;omega
 have g2:¬ (y:Int)<=0:=by omega
 obtain ⟨Q,hQ⟩:=aj (lo/y)
 obtain ⟨R,hR⟩:=aj (lo%y)
 have hq:=em lo y;have e1:IntKind.u64.wrap ((lo:Int)/(y:Int))=(Q:Int):=by
  rw [show (lo:Int)/(y:Int)=((lo/y:Nat):Int) by simp,<- hQ,IntKind.wrap_u64];omega
 have e2:(lo:Int)%(y:Int)=(R:Int):=by rw [hR];simp
 rw [<- hQ,<- hR];clear hQ hR hq;delta ClZ;go_in;go_wp2;go_region
 all_goals
  go_wp2;go_ret2;refine ⟨?_,1,rfl⟩;show Ending.returned (.tuple #[.int .u64 (Q:Int),.int .u64 ((lo:Int)%(y:Int))])=_
  rw [e2]

theorem IS (hi lo y:Nat) (hl:lo<18446744073709551616) (hy:y<18446744073709551616) (h0:0<hi) (hlt:hi<y) (w:World) :
  ClZ 261 #[.int .u64 (hi:Nat),.int .u64 (lo:Nat),.int .u64 (y:Nat)] w fun e w'=>e=.returned (.tuple #[.int .u64 ((hi*18446744073709551616+lo)/y:Nat),.int .u64 ((hi*18446744073709551616+lo)%y:Nat)])/\∃ m,w'=w.drewN m:=by
 have g1:((y:Int) == 0)=false:=by simp;omega
 have g2:¬ (y:Int)<=(hi:Int):=by omega
 have g3:((hi:Int) == 0)=false:=by simp;omega
 have hZ:=bLz y hy;obtain ⟨f1,f2,f3⟩:=uX (y:=y) (by omega) hy;generalize 64-aN y=s at *;obtain ⟨Y,hY⟩:=aj (y*2^s)
 have e1:IntKind.u64.wrap ((y:Int)*2^s)=(Y:Int):=by
  rw [show (y:Int)*2^s=((y*2^s:Nat):Int) by simp,<- hY,IntKind.wrap_u64];omega
 have ab:0<2^s:=aX;have ao:hi*2^s<y*2^s:=nJ hlt ab;rw [<- hY] at f2 f3 ao;obtain ⟨U,hU⟩:=aj (hi*2^s+lo/2^(64-s))
 obtain ⟨T,hT⟩:=aj (lo*2^s%18446744073709551616)
 have eU:bits .or .u64 (IntKind.u64.wrap ((hi:Int)*2^s)) ((lo:Int)/2^(64-s))=(U:Int):=by rw [hU];exact Dc hi lo s (by omega) (by omega) hl
 have eT:IntKind.u64.wrap ((lo:Int)*2^s)=(T:Int):=by
  rw [show (lo:Int)*2^s=((lo*2^s:Nat):Int) by simp,IntKind.wrap_u64];omega
 have hN:(hi*18446744073709551616+lo)*2^s=U*18446744073709551616+T:=by
  have h5:lo/2^(64-s)=lo*2^s/18446744073709551616:=by
   rw [show (18446744073709551616:Nat)=2^(64-s)*2^s by rw [<- aL,show 64-s+s=64 by omega],Nat.mul_div_mul_right _ _ ab]
  rw [hU,h5,hT,dm,dm,Nat.mul_right_comm hi 18446744073709551616];generalize lo*2^s=z;omega
 have an:U<Y:=by
  have h6:(hi*18446744073709551616+lo)*2^s<(y*18446744073709551616)*2^s:=nJ (by omega) ab;rw [hN,Nat.mul_right_comm,<- hY] at h6;omega
 have am:T<18446744073709551616:=by rw [hT];exact bu
 obtain ⟨QQ,ac⟩:=aj ((hi*18446744073709551616+lo)/y)
 obtain ⟨RR,ai⟩:=aj ((hi*18446744073709551616+lo)%y)
 obtain ⟨d1,d2⟩:=pd (M:=hi*18446744073709551616+lo) (y:=y) ab;rw [hN,<- hY,<- ac] at d1;rw [hN,<- hY,<- ai] at d2;rw [<- ac,<- ai];have az:QQ<18446744073709551616:=by
  rw [ac,cW (by omega)];have:(hi+1)*18446744073709551616<=y*18446744073709551616:=cF _ hlt;omega
 have D1:=aa d1;obtain ⟨y1,aC⟩:=aj (Y/4294967296)
 obtain ⟨y0,aq⟩:=aj (Y%4294967296)
 obtain ⟨t1,aB⟩:=aj (T/4294967296)
 obtain ⟨t0,ap⟩:=aj (T%4294967296)
 have e2:(Y:Int)/4294967296=(y1:Int):=by omega
 have e3:bits .and .u64 (Y:Int) 4294967295=(y0:Int):=by rw [aq];exact zq Y f2
 have e4:(T:Int)/4294967296=(t1:Int):=by omega
 have e5:bits .and .u64 (T:Int) 4294967295=(t0:Int):=by rw [ap];exact zq T am
 have b1:y1<4294967296:=by omega
 have aD:2147483648<=y1:=by omega
 have b0:y0<4294967296:=by omega
 have c1:t1<4294967296:=by omega
 have c0:t0<4294967296:=by omega
 have i:HzD (y1*4294967296+y0=Y):=by unfold HzD;omega
 have P:HzD (U*18446744073709551616+T=(U*4294967296+t1)*4294967296+t0):=by unfold HzD;omega
 have ag:=aa an;have aF:U<18446744073709551616:=by omega
 obtain ⟨R1,ad⟩:=aj ((U*4294967296+t1)%Y)
 obtain ⟨R2,ae⟩:=aj ((R1*4294967296+t0)%Y)
 have t:R1<Y:=by rw [ad];exact bu
 have aA:R2<Y:=by rw [ae];exact bu
 have L:=aa ad;have Q:=aa ae;have aE:(R2:Int)/2^s=(RR:Int):=by
  have:=(fz (B:=4294967296) (U:=U) (u:=t1) (v:=t0) (Y:=Y) (by omega) rfl rfl).2;rw [<- ad,<- ae,<- P.o] at this;rw [<- this] at d2;rw [show (R2:Int)/2^s=((R2/2^s:Nat):Int) by simp,d2]
 clear aC aq aB ap hU hT hN am ao ac ai hY d1 d2 ab ad ae an;obtain ⟨Q1,Z⟩:=aj (U/y1)
 obtain ⟨M1,ah⟩:=aj (Q1*y1)
 obtain ⟨r1,af⟩:=aj (U%y1)
 have aI:IntKind.u64.wrap ((U:Int)/(y1:Int))=(Q1:Int):=by
  have:=em U y1;rw [<- Z] at this;rw [show (U:Int)/(y1:Int)=((U/y1:Nat):Int) by simp,<- Z,IntKind.wrap_u64];omega
 have av:=eh U y1;rw [<- Z,<- ah,<- af] at av;have aH:IntKind.u64.wrap ((Q1:Int)*(y1:Int))=(M1:Int):=by
  rw [show (Q1:Int)*(y1:Int)=((Q1*y1:Nat):Int) by simp,<- ah,IntKind.wrap_u64];omega
 have aJ:IntKind.u64.wrap ((U:Int)-(M1:Int))=(r1:Int):=eC
 have aG:r1<y1:=by rw [af];exact bu
 have al:HzD (Gss 4294967296 U t1 y1 y0 Q1 r1):=by
  unfold HzD;rw [Z,af];exact Gss.start (by omega) (by omega) (by omega) b0 (by rw [i.o];exact ag.o)
 clear Z af ah av;delta ClZ;go_in;go_wp2_with fail;refine (hZ _).mono ?_;rintro e w' ⟨rfl,rfl⟩;clear hZ;go_wp2_with fail;go_loop [15,16] (fun a b=>∃ q r:Nat,a=.int .u64 (q:Int)/\b=.int .u64 (r:Int)/\r<4294967296/\HzD (Gss 4294967296 U t1 y1 y0 q r)) (fun a _=>(intOf a).toNat)
 case atStart=>exact ⟨Q1,r1,rfl,rfl,by omega,al⟩
 case round=>
  clear al;obtain ⟨q,r,rfl,rfl,ak,hG⟩:=hrel;have G:=hG.o.le;by_cases hq:q<4294967296
  ·have k1:¬ (4294967296:Int)<=(q:Int):=by omega
   obtain ⟨qy,k⟩:=aj (q*y0)
   have p:qy<=4294967295*4294967295:=by rw [k];exact er (by omega) (by omega)
   have k2:IntKind.u64.wrap ((q:Int)*(y0:Int))=(qy:Int):=by
    rw [show (q:Int)*(y0:Int)=((q*y0:Nat):Int) by simp,<- k,IntKind.wrap_u64];omega
   obtain ⟨br,x⟩:=aj (4294967296*r)
   have k3:IntKind.u64.wrap (4294967296*(r:Int))=(br:Int):=eC
   obtain ⟨bt,A⟩:=aj (br+t1)
   have k4:IntKind.u64.wrap ((br:Int)+(t1:Int))=(bt:Int):=eC
   by_cases hc:bt<qy
   ·have k5:(bt:Int)<(qy:Int):=by omega
    obtain ⟨F,l⟩:=hG.o.next (by omega) (by rw [i.o];exact ag.o) (.inr (by rw [<- k,<- x,<- A];exact hc));have g:=aa l;obtain ⟨q',o⟩:∃ q',q=q'+1:=⟨q-1,by omega⟩
    rw [show q-1=q' by omega] at g;have H:q'<=4294967296:=by omega
    have k8:IntKind.u64.wrap ((q:Int)-1)=(q':Int):=eC
    have HQ:=aa o;clear o;clear hG l k x A p G F hq ;obtain ⟨r2,j⟩:=aj (r+y1)
    have k6:IntKind.u64.wrap ((r:Int)+(y1:Int))=(r2:Int):=eC
    rw [<- j] at g;by_cases hov:r2<4294967296
    ·have k7:¬ (4294967296:Int)<=(r2:Int):=by omega
     clear j;go_wp2_with fail;go_round
     case rel=>exact ⟨q',r2,rfl,rfl,hov,g⟩
     case measure=>have:=HQ.o;simp [intOf];omega
    ·have k7:(4294967296:Int)<=(r2:Int):=by omega
     have d:=g.o.stop (by rw [i.o];omega) (Gss.over (by omega) b0 (by omega));rw [i.o] at d;clear j g;have I:=eh (U*4294967296+t1) Y;rw [<- d,<- L.o] at I;obtain ⟨p1,n⟩:=aj (q'*Y)
     rw [<- n] at I;obtain ⟨a1,a2,a3,m1,m2,m3,m4⟩:=fZ I;have ar:IntKind.u64.wrap ((q':Int)*(Y:Int))=(a3:Int):=by rw [<- m3,n];try simp
     have N:=aa d;clear I n m3 d;obtain ⟨Q0,D⟩:=aj (R1/y1)
     obtain ⟨M0,O⟩:=aj (Q0*y1)
     obtain ⟨r0,J⟩:=aj (R1%y1)
     have ax:IntKind.u64.wrap ((R1:Int)/(y1:Int))=(Q0:Int):=by
      have:=em R1 y1;rw [<- D] at this;rw [show (R1:Int)/(y1:Int)=((R1/y1:Nat):Int) by simp,<- D,IntKind.wrap_u64];omega
     have X:=eh R1 y1;rw [<- D,<- O,<- J] at X;have aw:IntKind.u64.wrap ((Q0:Int)*(y1:Int))=(M0:Int):=by
      rw [show (Q0:Int)*(y1:Int)=((Q0*y1:Nat):Int) by simp,<- O,IntKind.wrap_u64];omega
     have ay:IntKind.u64.wrap ((R1:Int)-(M0:Int))=(r0:Int):=eC
     have au:r0<y1:=by rw [J];exact bu
     have R:HzD (Gss 4294967296 R1 t0 y1 y0 Q0 r0):=by
      unfold HzD;rw [D,J];exact Gss.start (by omega) (by omega) (by omega) b0 (by rw [i.o];exact t)
     clear D J O X;go_wp2_with fail;generalize q'=qa at *;go_loop [18,16] (fun a b=>∃ q r:Nat,a=.int .u64 (q:Int)/\b=.int .u64 (r:Int)/\r<4294967296/\HzD (Gss 4294967296 R1 t0 y1 y0 q r)) (fun a _=>(intOf a).toNat)
     case atStart=>exact ⟨Q0,r0,rfl,rfl,by omega,R⟩
     case round=>
      clear R;obtain ⟨q,r,rfl,rfl,ak,hG⟩:=hrel;have G:=hG.o.le;by_cases hq:q<4294967296
      ·have k1:¬ (4294967296:Int)<=(q:Int):=by omega
       obtain ⟨qy,k⟩:=aj (q*y0)
       have p:qy<=4294967295*4294967295:=by rw [k];exact er (by omega) (by omega)
       have k2:IntKind.u64.wrap ((q:Int)*(y0:Int))=(qy:Int):=by
        rw [show (q:Int)*(y0:Int)=((q*y0:Nat):Int) by simp,<- k,IntKind.wrap_u64];omega
       obtain ⟨br,x⟩:=aj (4294967296*r)
       have k3:IntKind.u64.wrap (4294967296*(r:Int))=(br:Int):=eC
       obtain ⟨bt,A⟩:=aj (br+t0)
       have k4:IntKind.u64.wrap ((br:Int)+(t0:Int))=(bt:Int):=eC
       by_cases hc:bt<qy
       ·have k5:(bt:Int)<(qy:Int):=by omega
        obtain ⟨F,l⟩:=hG.o.next (by omega) (by rw [i.o];exact t) (.inr (by rw [<- k,<- x,<- A];exact hc));have g:=aa l;obtain ⟨q',o⟩:∃ q',q=q'+1:=⟨q-1,by omega⟩
        rw [show q-1=q' by omega] at g;have H:q'<=4294967296:=by omega
        have k8:IntKind.u64.wrap ((q:Int)-1)=(q':Int):=eC
        have HQ:=aa o;clear o;clear hG l k x A p G F hq ;obtain ⟨r2,j⟩:=aj (r+y1)
        have k6:IntKind.u64.wrap ((r:Int)+(y1:Int))=(r2:Int):=eC
        rw [<- j] at g;by_cases hov:r2<4294967296
        ·have k7:¬ (4294967296:Int)<=(r2:Int):=by omega
         clear j;go_wp2_with fail;go_round
         case rel=>exact ⟨q',r2,rfl,rfl,hov,g⟩
         case measure=>have:=HQ.o;simp [intOf];omega
        ·have k7:(4294967296:Int)<=(r2:Int):=by omega
         have d:=g.o.stop (by rw [i.o];omega) (Gss.over (by omega) b0 (by omega));rw [i.o] at d;clear j g;have h:=eh (R1*4294967296+t0) Y;rw [<- d,<- Q.o] at h;obtain ⟨p0,c⟩:=aj (q'*Y)
         rw [<- c] at h;obtain ⟨S,V,C,n1,n2,n3,n4⟩:=fZ h;have W:IntKind.u64.wrap ((q':Int)*(Y:Int))=(C:Int):=by rw [<- n3,c];try simp
         have f:=(fz (B:=4294967296) (U:=U) (u:=t1) (v:=t0) (Y:=Y) (q0:=q') (by omega) N.o (by rw [<- L.o];exact d)).1;rw [<- P.o,D1.o] at f;obtain ⟨qs,E⟩:=aj (qa*4294967296)
         have n5:IntKind.u64.wrap ((qa:Int)*4294967296)=(qs:Int):=eC
         have n6:IntKind.u64.wrap ((qs:Int)+(q':Int))=(QQ:Int):=eC
         clear h c d f E n3;go_wp2_with fail;go_ret2;exact ⟨rfl,0,rfl⟩
       ·have k5:¬ (bt:Int)<(qy:Int):=by omega
        have d:=hG.o.stop (by rw [i.o];omega) (by rw [<- k,<- x,<- A];omega);rw [i.o] at d;clear hG k x A p G;have h:=eh (R1*4294967296+t0) Y;rw [<- d,<- Q.o] at h;obtain ⟨p0,c⟩:=aj (q*Y)
        rw [<- c] at h;obtain ⟨S,V,C,n1,n2,n3,n4⟩:=fZ h;have W:IntKind.u64.wrap ((q:Int)*(Y:Int))=(C:Int):=by rw [<- n3,c];try simp
        have f:=(fz (B:=4294967296) (U:=U) (u:=t1) (v:=t0) (Y:=Y) (q0:=q) (by omega) N.o (by rw [<- L.o];exact d)).1;rw [<- P.o,D1.o] at f;obtain ⟨qs,E⟩:=aj (qa*4294967296)
        have n5:IntKind.u64.wrap ((qa:Int)*4294967296)=(qs:Int):=eC
        have n6:IntKind.u64.wrap ((qs:Int)+(q:Int))=(QQ:Int):=eC
        clear h c d f E n3;go_wp2_with fail;go_ret2;exact ⟨rfl,0,rfl⟩
      ·have k1:(4294967296:Int)<=(q:Int):=by omega
       obtain ⟨F,l⟩:=hG.o.next (by omega) (by rw [i.o];exact t) (.inl (by omega));have g:=aa l;obtain ⟨q',o⟩:∃ q',q=q'+1:=⟨q-1,by omega⟩
       rw [show q-1=q' by omega] at g;have H:q'<=4294967296:=by omega
       have k8:IntKind.u64.wrap ((q:Int)-1)=(q':Int):=eC
       have HQ:=aa o;clear o;clear hG l G F;obtain ⟨r2,j⟩:=aj (r+y1)
       have k6:IntKind.u64.wrap ((r:Int)+(y1:Int))=(r2:Int):=eC
       rw [<- j] at g;by_cases hov:r2<4294967296
       ·have k7:¬ (4294967296:Int)<=(r2:Int):=by omega
        clear j;go_wp2_with fail;go_round
        case rel=>exact ⟨q',r2,rfl,rfl,hov,g⟩
        case measure=>have:=HQ.o;simp [intOf];omega
       ·have k7:(4294967296:Int)<=(r2:Int):=by omega
        have d:=g.o.stop (by rw [i.o];omega) (Gss.over (by omega) b0 (by omega));rw [i.o] at d;clear j g;have h:=eh (R1*4294967296+t0) Y;rw [<- d,<- Q.o] at h;obtain ⟨p0,c⟩:=aj (q'*Y)
        rw [<- c] at h;obtain ⟨S,V,C,n1,n2,n3,n4⟩:=fZ h;have W:IntKind.u64.wrap ((q':Int)*(Y:Int))=(C:Int):=by rw [<- n3,c];try simp
        have f:=(fz (B:=4294967296) (U:=U) (u:=t1) (v:=t0) (Y:=Y) (q0:=q') (by omega) N.o (by rw [<- L.o];exact d)).1;rw [<- P.o,D1.o] at f;obtain ⟨qs,E⟩:=aj (qa*4294967296)
        have n5:IntKind.u64.wrap ((qa:Int)*4294967296)=(qs:Int):=eC
        have n6:IntKind.u64.wrap ((qs:Int)+(q':Int))=(QQ:Int):=eC
        clear h c d f E n3;go_wp2_with fail;go_ret2;exact ⟨rfl,0,rfl⟩
   ·have k5:¬ (bt:Int)<(qy:Int):=by omega
    have d:=hG.o.stop (by rw [i.o];omega) (by rw [<- k,<- x,<- A];omega);rw [i.o] at d;clear hG k x A p G;have I:=eh (U*4294967296+t1) Y;rw [<- d,<- L.o] at I;obtain ⟨p1,n⟩:=aj (q*Y)
    rw [<- n] at I;obtain ⟨a1,a2,a3,m1,m2,m3,m4⟩:=fZ I;have ar:IntKind.u64.wrap ((q:Int)*(Y:Int))=(a3:Int):=by rw [<- m3,n];try simp
    have N:=aa d;clear I n m3 d;obtain ⟨Q0,D⟩:=aj (R1/y1)
    obtain ⟨M0,O⟩:=aj (Q0*y1)
    obtain ⟨r0,J⟩:=aj (R1%y1)
    have ax:IntKind.u64.wrap ((R1:Int)/(y1:Int))=(Q0:Int):=by
     have:=em R1 y1;rw [<- D] at this;rw [show (R1:Int)/(y1:Int)=((R1/y1:Nat):Int) by simp,<- D,IntKind.wrap_u64];omega
    have X:=eh R1 y1;rw [<- D,<- O,<- J] at X;have aw:IntKind.u64.wrap ((Q0:Int)*(y1:Int))=(M0:Int):=by
     rw [show (Q0:Int)*(y1:Int)=((Q0*y1:Nat):Int) by simp,<- O,IntKind.wrap_u64];omega
    have ay:IntKind.u64.wrap ((R1:Int)-(M0:Int))=(r0:Int):=eC
    have au:r0<y1:=by rw [J];exact bu
    have R:HzD (Gss 4294967296 R1 t0 y1 y0 Q0 r0):=by
     unfold HzD;rw [D,J];exact Gss.start (by omega) (by omega) (by omega) b0 (by rw [i.o];exact t)
    clear D J O X;go_wp2_with fail;generalize q=qa at *;go_loop [18,16] (fun a b=>∃ q r:Nat,a=.int .u64 (q:Int)/\b=.int .u64 (r:Int)/\r<4294967296/\HzD (Gss 4294967296 R1 t0 y1 y0 q r)) (fun a _=>(intOf a).toNat)
    case atStart=>exact ⟨Q0,r0,rfl,rfl,by omega,R⟩
    case round=>
     clear R;obtain ⟨q,r,rfl,rfl,ak,hG⟩:=hrel;have G:=hG.o.le;by_cases hq:q<4294967296
     ·have k1:¬ (4294967296:Int)<=(q:Int):=by omega
      obtain ⟨qy,k⟩:=aj (q*y0)
      have p:qy<=4294967295*4294967295:=by rw [k];exact er (by omega) (by omega)
      have k2:IntKind.u64.wrap ((q:Int)*(y0:Int))=(qy:Int):=by
       rw [show (q:Int)*(y0:Int)=((q*y0:Nat):Int) by simp,<- k,IntKind.wrap_u64];omega
      obtain ⟨br,x⟩:=aj (4294967296*r)
      have k3:IntKind.u64.wrap (4294967296*(r:Int))=(br:Int):=eC
      obtain ⟨bt,A⟩:=aj (br+t0)
      have k4:IntKind.u64.wrap ((br:Int)+(t0:Int))=(bt:Int):=eC
      by_cases hc:bt<qy
      ·have k5:(bt:Int)<(qy:Int):=by omega
       obtain ⟨F,l⟩:=hG.o.next (by omega) (by rw [i.o];exact t) (.inr (by rw [<- k,<- x,<- A];exact hc));have g:=aa l;obtain ⟨q',o⟩:∃ q',q=q'+1:=⟨q-1,by omega⟩
       rw [show q-1=q' by omega] at g;have H:q'<=4294967296:=by omega
       have k8:IntKind.u64.wrap ((q:Int)-1)=(q':Int):=eC
       have HQ:=aa o;clear o;clear hG l k x A p G F hq ;obtain ⟨r2,j⟩:=aj (r+y1)
       have k6:IntKind.u64.wrap ((r:Int)+(y1:Int))=(r2:Int):=eC
       rw [<- j] at g;by_cases hov:r2<4294967296
       ·have k7:¬ (4294967296:Int)<=(r2:Int):=by omega
        clear j;go_wp2_with fail;go_round
        case rel=>exact ⟨q',r2,rfl,rfl,hov,g⟩
        case measure=>have:=HQ.o;simp [intOf];omega
       ·have k7:(4294967296:Int)<=(r2:Int):=by omega
        have d:=g.o.stop (by rw [i.o];omega) (Gss.over (by omega) b0 (by omega));rw [i.o] at d;clear j g;have h:=eh (R1*4294967296+t0) Y;rw [<- d,<- Q.o] at h;obtain ⟨p0,c⟩:=aj (q'*Y)
        rw [<- c] at h;obtain ⟨S,V,C,n1,n2,n3,n4⟩:=fZ h;have W:IntKind.u64.wrap ((q':Int)*(Y:Int))=(C:Int):=by rw [<- n3,c];try simp
        have f:=(fz (B:=4294967296) (U:=U) (u:=t1) (v:=t0) (Y:=Y) (q0:=q') (by omega) N.o (by rw [<- L.o];exact d)).1;rw [<- P.o,D1.o] at f;obtain ⟨qs,E⟩:=aj (qa*4294967296)
        have n5:IntKind.u64.wrap ((qa:Int)*4294967296)=(qs:Int):=eC
        have n6:IntKind.u64.wrap ((qs:Int)+(q':Int))=(QQ:Int):=eC
        clear h c d f E n3;go_wp2_with fail;go_ret2;exact ⟨rfl,0,rfl⟩
      ·have k5:¬ (bt:Int)<(qy:Int):=by omega
       have d:=hG.o.stop (by rw [i.o];omega) (by rw [<- k,<- x,<- A];omega);rw [i.o] at d;clear hG k x A p G;have h:=eh (R1*4294967296+t0) Y;rw [<- d,<- Q.o] at h;obtain ⟨p0,c⟩:=aj (q*Y)
       rw [<- c] at h;obtain ⟨S,V,C,n1,n2,n3,n4⟩:=fZ h;have W:IntKind.u64.wrap ((q:Int)*(Y:Int))=(C:Int):=by rw [<- n3,c];try simp
       have f:=(fz (B:=4294967296) (U:=U) (u:=t1) (v:=t0) (Y:=Y) (q0:=q) (by omega) N.o (by rw [<- L.o];exact d)).1;rw [<- P.o,D1.o] at f;obtain ⟨qs,E⟩:=aj (qa*4294967296)
       have n5:IntKind.u64.wrap ((qa:Int)*4294967296)=(qs:Int):=eC
       have n6:IntKind.u64.wrap ((qs:Int)+(q:Int))=(QQ:Int):=eC
       clear h c d f E n3;go_wp2_with fail;go_ret2;exact ⟨rfl,0,rfl⟩
     ·have k1:(4294967296:Int)<=(q:Int):=by omega
      obtain ⟨F,l⟩:=hG.o.next (by omega) (by rw [i.o];exact t) (.inl (by omega));have g:=aa l;obtain ⟨q',o⟩:∃ q',q=q'+1:=⟨q-1,by omega⟩
      rw [show q-1=q' by omega] at g;have H:q'<=4294967296:=by omega
      have k8:IntKind.u64.wrap ((q:Int)-1)=(q':Int):=eC
      have HQ:=aa o;clear o;clear hG l G F;obtain ⟨r2,j⟩:=aj (r+y1)
      have k6:IntKind.u64.wrap ((r:Int)+(y1:Int))=(r2:Int):=eC
      rw [<- j] at g;by_cases hov:r2<4294967296
      ·have k7:¬ (4294967296:Int)<=(r2:Int):=by omega
       clear j;go_wp2_with fail;go_round
       case rel=>exact ⟨q',r2,rfl,rfl,hov,g⟩
       case measure=>have:=HQ.o;simp [intOf];omega
      ·have k7:(4294967296:Int)<=(r2:Int):=by omega
       have d:=g.o.stop (by rw [i.o];omega) (Gss.over (by omega) b0 (by omega));rw [i.o] at d;clear j g;have h:=eh (R1*4294967296+t0) Y;rw [<- d,<- Q.o] at h;obtain ⟨p0,c⟩:=aj (q'*Y)
       rw [<- c] at h;obtain ⟨S,V,C,n1,n2,n3,n4⟩:=fZ h;have W:IntKind.u64.wrap ((q':Int)*(Y:Int))=(C:Int):=by rw [<- n3,c];try simp
       have f:=(fz (B:=4294967296) (U:=U) (u:=t1) (v:=t0) (Y:=Y) (q0:=q') (by omega) N.o (by rw [<- L.o];exact d)).1;rw [<- P.o,D1.o] at f;obtain ⟨qs,E⟩:=aj (qa*4294967296)
       have n5:IntKind.u64.wrap ((qa:Int)*4294967296)=(qs:Int):=eC
       have n6:IntKind.u64.wrap ((qs:Int)+(q':Int))=(QQ:Int):=eC
       clear h c d f E n3;go_wp2_with fail;go_ret2;exact ⟨rfl,0,rfl⟩
  ·have k1:(4294967296:Int)<=(q:Int):=by omega
   obtain ⟨F,l⟩:=hG.o.next (by omega) (by rw [i.o];exact ag.o) (.inl (by omega));have g:=aa l;obtain ⟨q',o⟩:∃ q',q=q'+1:=⟨q-1,by omega⟩
   rw [show q-1=q' by omega] at g;have H:q'<=4294967296:=by omega
   have k8:IntKind.u64.wrap ((q:Int)-1)=(q':Int):=eC
   have HQ:=aa o;clear o;clear hG l G F;obtain ⟨r2,j⟩:=aj (r+y1)
   have k6:IntKind.u64.wrap ((r:Int)+(y1:Int))=(r2:Int):=eC
   rw [<- j] at g;by_cases hov:r2<4294967296
   ·have k7:¬ (4294967296:Int)<=(r2:Int):=by omega
    clear j;go_wp2_with fail;go_round
    case rel=>exact ⟨q',r2,rfl,rfl,hov,g⟩
    case measure=>have:=HQ.o;simp [intOf];omega
   ·have k7:(4294967296:Int)<=(r2:Int):=by omega
    have d:=g.o.stop (by rw [i.o];omega) (Gss.over (by omega) b0 (by omega));rw [i.o] at d;clear j g;have I:=eh (U*4294967296+t1) Y;rw [<- d,<- L.o] at I;obtain ⟨p1,n⟩:=aj (q'*Y)
    rw [<- n] at I;obtain ⟨a1,a2,a3,m1,m2,m3,m4⟩:=fZ I;have ar:IntKind.u64.wrap ((q':Int)*(Y:Int))=(a3:Int):=by rw [<- m3,n];try simp
    have N:=aa d;clear I n m3 d;obtain ⟨Q0,D⟩:=aj (R1/y1)
    obtain ⟨M0,O⟩:=aj (Q0*y1)
    obtain ⟨r0,J⟩:=aj (R1%y1)
    have ax:IntKind.u64.wrap ((R1:Int)/(y1:Int))=(Q0:Int):=by
     have:=em R1 y1;rw [<- D] at this;rw [show (R1:Int)/(y1:Int)=((R1/y1:Nat):Int) by simp,<- D,IntKind.wrap_u64];omega
    have X:=eh R1 y1;rw [<- D,<- O,<- J] at X;have aw:IntKind.u64.wrap ((Q0:Int)*(y1:Int))=(M0:Int):=by
     rw [show (Q0:Int)*(y1:Int)=((Q0*y1:Nat):Int) by simp,<- O,IntKind.wrap_u64];omega
    have ay:IntKind.u64.wrap ((R1:Int)-(M0:Int))=(r0:Int):=eC
    have au:r0<y1:=by rw [J];exact bu
    have R:HzD (Gss 4294967296 R1 t0 y1 y0 Q0 r0):=by
     unfold HzD;rw [D,J];exact Gss.start (by omega) (by omega) (by omega) b0 (by rw [i.o];exact t)
    clear D J O X;go_wp2_with fail;generalize q'=qa at *;go_loop [18,16] (fun a b=>∃ q r:Nat,a=.int .u64 (q:Int)/\b=.int .u64 (r:Int)/\r<4294967296/\HzD (Gss 4294967296 R1 t0 y1 y0 q r)) (fun a _=>(intOf a).toNat)
    case atStart=>exact ⟨Q0,r0,rfl,rfl,by omega,R⟩
    case round=>
     clear R;obtain ⟨q,r,rfl,rfl,ak,hG⟩:=hrel;have G:=hG.o.le;by_cases hq:q<4294967296
     ·have k1:¬ (4294967296:Int)<=(q:Int):=by omega
      obtain ⟨qy,k⟩:=aj (q*y0)
      have p:qy<=4294967295*4294967295:=by rw [k];exact er (by omega) (by omega)
      have k2:IntKind.u64.wrap ((q:Int)*(y0:Int))=(qy:Int):=by
       rw [show (q:Int)*(y0:Int)=((q*y0:Nat):Int) by simp,<- k,IntKind.wrap_u64];omega
      obtain ⟨br,x⟩:=aj (4294967296*r)
      have k3:IntKind.u64.wrap (4294967296*(r:Int))=(br:Int):=eC
      obtain ⟨bt,A⟩:=aj (br+t0)
      have k4:IntKind.u64.wrap ((br:Int)+(t0:Int))=(bt:Int):=eC
      by_cases hc:bt<qy
      ·have k5:(bt:Int)<(qy:Int):=by omega
       obtain ⟨F,l⟩:=hG.o.next (by omega) (by rw [i.o];exact t) (.inr (by rw [<- k,<- x,<- A];exact hc));have g:=aa l;obtain ⟨q',o⟩:∃ q',q=q'+1:=⟨q-1,by omega⟩
       rw [show q-1=q' by omega] at g;have H:q'<=4294967296:=by omega
       have k8:IntKind.u64.wrap ((q:Int)-1)=(q':Int):=eC
       have HQ:=aa o;clear o;clear hG l k x A p G F hq ;obtain ⟨r2,j⟩:=aj (r+y1)
       have k6:IntKind.u64.wrap ((r:Int)+(y1:Int))=(r2:Int):=eC
       rw [<- j] at g;by_cases hov:r2<4294967296
       ·have k7:¬ (4294967296:Int)<=(r2:Int):=by omega
        clear j;go_wp2_with fail;go_round
        case rel=>exact ⟨q',r2,rfl,rfl,hov,g⟩
        case measure=>have:=HQ.o;simp [intOf];omega
       ·have k7:(4294967296:Int)<=(r2:Int):=by omega
        have d:=g.o.stop (by rw [i.o];omega) (Gss.over (by omega) b0 (by omega));rw [i.o] at d;clear j g;have h:=eh (R1*4294967296+t0) Y;rw [<- d,<- Q.o] at h;obtain ⟨p0,c⟩:=aj (q'*Y)
        rw [<- c] at h;obtain ⟨S,V,C,n1,n2,n3,n4⟩:=fZ h;have W:IntKind.u64.wrap ((q':Int)*(Y:Int))=(C:Int):=by rw [<- n3,c];try simp
        have f:=(fz (B:=4294967296) (U:=U) (u:=t1) (v:=t0) (Y:=Y) (q0:=q') (by omega) N.o (by rw [<- L.o];exact d)).1;rw [<- P.o,D1.o] at f;obtain ⟨qs,E⟩:=aj (qa*4294967296)
        have n5:IntKind.u64.wrap ((qa:Int)*4294967296)=(qs:Int):=eC
        have n6:IntKind.u64.wrap ((qs:Int)+(q':Int))=(QQ:Int):=eC
        clear h c d f E n3;go_wp2_with fail;go_ret2;exact ⟨rfl,0,rfl⟩
      ·have k5:¬ (bt:Int)<(qy:Int):=by omega
       have d:=hG.o.stop (by rw [i.o];omega) (by rw [<- k,<- x,<- A];omega);rw [i.o] at d;clear hG k x A p G;have h:=eh (R1*4294967296+t0) Y;rw [<- d,<- Q.o] at h;obtain ⟨p0,c⟩:=aj (q*Y)
       rw [<- c] at h;obtain ⟨S,V,C,n1,n2,n3,n4⟩:=fZ h;have W:IntKind.u64.wrap ((q:Int)*(Y:Int))=(C:Int):=by rw [<- n3,c];try simp
       have f:=(fz (B:=4294967296) (U:=U) (u:=t1) (v:=t0) (Y:=Y) (q0:=q) (by omega) N.o (by rw [<- L.o];exact d)).1;rw [<- P.o,D1.o] at f;obtain ⟨qs,E⟩:=aj (qa*4294967296)
       have n5:IntKind.u64.wrap ((qa:Int)*4294967296)=(qs:Int):=eC
       have n6:IntKind.u64.wrap ((qs:Int)+(q:Int))=(QQ:Int):=eC
       clear h c d f E n3;go_wp2_with fail;go_ret2;exact ⟨rfl,0,rfl⟩
     ·have k1:(4294967296:Int)<=(q:Int):=by omega
      obtain ⟨F,l⟩:=hG.o.next (by omega) (by rw [i.o];exact t) (.inl (by omega));have g:=aa l;obtain ⟨q',o⟩:∃ q',q=q'+1:=⟨q-1,by omega⟩
      rw [show q-1=q' by omega] at g;have H:q'<=4294967296:=by omega
      have k8:IntKind.u64.wrap ((q:Int)-1)=(q':Int):=eC
      have HQ:=aa o;clear o;clear hG l G F;obtain ⟨r2,j⟩:=aj (r+y1)
      have k6:IntKind.u64.wrap ((r:Int)+(y1:Int))=(r2:Int):=eC
      rw [<- j] at g;by_cases hov:r2<4294967296
      ·have k7:¬ (4294967296:Int)<=(r2:Int):=by omega
       clear j;go_wp2_with fail;go_round
       case rel=>exact ⟨q',r2,rfl,rfl,hov,g⟩
       case measure=>have:=HQ.o;simp [intOf];omega
      ·have k7:(4294967296:Int)<=(r2:Int):=by omega
       have d:=g.o.stop (by rw [i.o];omega) (Gss.over (by omega) b0 (by omega));rw [i.o] at d;clear j g;have h:=eh (R1*4294967296+t0) Y;rw [<- d,<- Q.o] at h;obtain ⟨p0,c⟩:=aj (q'*Y)
       rw [<- c] at h;obtain ⟨S,V,C,n1,n2,n3,n4⟩:=fZ h;have W:IntKind.u64.wrap ((q':Int)*(Y:Int))=(C:Int):=by rw [<- n3,c];try simp
       have f:=(fz (B:=4294967296) (U:=U) (u:=t1) (v:=t0) (Y:=Y) (q0:=q') (by omega) N.o (by rw [<- L.o];exact d)).1;rw [<- P.o,D1.o] at f;obtain ⟨qs,E⟩:=aj (qa*4294967296)
       have n5:IntKind.u64.wrap ((qa:Int)*4294967296)=(qs:Int):=eC
       have n6:IntKind.u64.wrap ((qs:Int)+(q':Int))=(QQ:Int):=eC
       clear h c d f E n3;go_wp2_with fail;go_ret2;exact ⟨rfl,0,rfl⟩

theorem IQ (hi lo y:Nat) (hl:lo<18446744073709551616) (hy:y<18446744073709551616) (hlt:hi<y) (w:World) :
  ClZ 261 #[.int .u64 (hi:Nat),.int .u64 (lo:Nat),.int .u64 (y:Nat)] w fun e w'=>e=.returned (.tuple #[.int .u64 ((hi*18446744073709551616+lo)/y:Nat),.int .u64 ((hi*18446744073709551616+lo)%y:Nat)])/\∃ m,w'=w.drewN m:=by
 rcases cE hi with h | h
 ·subst h;have:=IR lo y hl (by omega) w;simpa using this
 ·exact IS hi lo y hl hy h hlt w

theorem fU (h:j<zs.length:=by omega):val (zs.drop j) B=zs.getD j 0+B*val (zs.drop (j+1)) B:=by
 rw [eE h,aA,aS h];rfl

theorem AK {a:LN} {i d:Nat} (hi:i<a.length) (h:d*val qs B+r=val (a.drop (i+1)) B) :
  d*val ((r*B+a.getD i 0)/d :: qs) B+(r*B+a.getD i 0)%d=val (a.drop i) B:=by
 rw [fU hi,<- h];simp only [val];generalize a.getD i 0=x;have e:=dD (r*B+x) d;rw [aJ,iu d B,aJ,aD B r];omega

theorem oZ (h:j<zs.length):(zs.take (j+1) ++ qs).set j q=zs.take j ++ q :: qs:=by
 rw [List.set_append_left _ _ (by rw [aR];omega),mq h,ir _ _ (by rw [aR];omega),aR,show j-min j zs.length=0 by omega];simp

theorem Lb (g base L cp:Nat) (ao:OA) (n:Nat) (xs zs:LN) (X D R:Nat) (hX:X=val xs) (hR:R=X%D) (hD:D<18446744073709551616) (o:0<D) (w:World) (ho:OwnN .u64 24 w base (.slice (some ⟨g,0,none⟩) L cp) L zs) (F:zs.length=L) (hu:Row .u64 w (.slice ao L n) xs) (A:Digs xs) (J:xs≠[]->∀ b,(Value.slice ao L n).ownBlock=some b->b≠g) (hL:L<=1000000:=by omega) :
  ClZ 251 #[.slice (some ⟨g,0,none⟩) L cp,.slice ao L n,.int .u64 (D:Nat)] w fun e w'=>e=.returned (.int .u64 (R:Nat))/\OwnN .u64 24 w' base (.slice (some ⟨g,0,none⟩) L cp) L (digs (X/D) L)/\Kept (fun b=>b=g) w w':=by
 obtain ⟨_,_,_,e1,v,_,_,_,_⟩:=hu.open;cases e1
 have eL:=aa v.o;have HU:=aa hu;have s:HzD (∀ k,xs.getD k 0<18446744073709551616):=fun k=>A.getD (by omega) _
 have HX:=aa hX;have HR:=aa hR;have t:=aa F;have HO:=aa ho;clear hu A v hX hR F ho;delta ClZ;go_in;go_wp2_with fail;go_loopw [7,12] (fun ra i wr=>∃ (k r:Nat) (qs:LN),k<=L/\r<D/\i=.int .i64 (k:Int)/\ra=.int .u64 (r:Int)/\HzD (qs.length=k)/\Digs qs/\OwnN .u64 24 wr base (.slice (some ⟨g,0,none⟩) L cp) L (zs.take (L-k) ++ qs)/\Kept (fun b=>b=g) w wr/\HzD (D*val qs+r=val (xs.drop (L-k)))) (fun _ i _=>L-(intOf i).toNat)
 case atStart=>exact ⟨0,0,[],aQ _,o,rfl,rfl,rfl,Digs.nil _,by rw [et,dY,dS (by rw [t.o];exact leR _)];exact HO.o,ah _ _,by unfold HzD;rw [et,kU (by rw [eL.o];exact leR _)];rfl⟩
 case round=>
  obtain ⟨k,r,qs,hk,hr,rfl,rfl,HL,q,ho,f,HV⟩:=hrel;by_cases hkn:k<L
  ·have V:(0:Int)<=(k:Int):=cN _;have N:(k:Int)<(L:Int):=by omega
   obtain ⟨j,hj⟩:=aj (L-1-k)
   have gj:(L:Int)-1-(k:Int)=(j:Int):=by omega
   have S:(j:Int)<(L:Int):=by omega
   obtain ⟨_,_,_,e2,_,_,_,_,c⟩:=(HU.o.kept' f J).open;cases e2
   obtain ⟨b2,P,rfl,T⟩:=c j (by omega);have hx:=s.o j;have M:j<xs.length:=by rw [eL.o];omega
   have C:j<zs.length:=by rw [t.o];omega
   have p:L-k=j+1:=by omega
   have a:L-(k+1)=j:=by omega
   have E:=AK (B:=18446744073709551616) (i:=j) (r:=r) (d:=D) (qs:=qs) M (by rw [<- p];exact HV.o);have y:wr.cell? ⟨g,j,none⟩=some (.int .u64 (zs.getD j 0:Nat)):=by
    rw [World.ownsRow.cellAt ho j (by omega),bV,im (by rw [aR];omega),eG,cf,aA,aS C];rfl
   have U:=World.ownsRow.frozenAt ho j;have H:=fun W=>IQ r (xs.getD j 0) D hx hD hr W
   have Y:(r*18446744073709551616+xs.getD j 0)/D<18446744073709551616:=tF hx hr;have O:(r*18446744073709551616+xs.getD j 0)%D<D:=aY _ o;have I:HzD (∀ z:Nat,OwnN .u64 24 (wr.setCell ⟨g,j,none⟩ (.int .u64 (z:Int))) base (.slice (some ⟨g,0,none⟩) L cp) L (zs.take j ++ z :: qs)):=fun z=>by
    have:=(World.ownsRow.stored ho j (.int .u64 (z:Int))).1;unfold OwnN;rw [<- oZ C,<- p,cG];exact this
   have l:=aa E;clear E c s hj;generalize (r*18446744073709551616+xs.getD j 0)/D=Q at *;generalize (r*18446744073709551616+xs.getD j 0)%D=R2 at *;generalize xs.getD j 0=x at *;generalize zs.getD j 0=z0 at *;have H2:=aa a;have G:=aa f;clear p a ho f;go_wp2_with fail;refine (H _).mono ?_;rintro e w7 ⟨rfl,m,rfl⟩;go_wp2_with fail;go_roundw
   case rel=>exact ⟨k+1,R2,Q :: qs,by omega,O,by go_num,rfl,by unfold HzD;rw [dh,HL.o],(fun d hd=>by rcases fM.1 hd with h | h;omega;exact q d h),by rw [H2.o];exact I.o Q,(G.o.setCell ⟨g,j,none⟩ (fun _=>rfl) _).drewN m,by unfold HzD;rw [H2.o];exact l.o⟩
   case measure=>simp [intOf];omega
  ·have N:¬ (k:Int)<(L:Int):=by omega
   obtain rfl:k=L:=by omega
   have e:=HV.o;rw [cj,il,<- HX.o] at e;rw [cj,nF,bZ] at ho;have e1:val qs=X/D:=by rw [<- e,gH o,bJ hr,aV]
   have e2:r=R:=by rw [HR.o,<- e,iZ,aB hr]
   have e3:qs=digs (X/D) k:=cS (by omega) q HL.o (by rw [<- e1,aB];have:=aE (by omega) q;rwa [HL.o] at this);have E2:=aa e2;have E3:=aa e3;clear s e e1 e2 e3 HV;go_wp2_with fail;go_ret;rw [<- E2.o,<- E3.o];exact ⟨rfl,ho,f⟩

theorem py {x c s:Nat} (hs:s<=63) (hx:x<18446744073709551616) (hc:c<2^s) :
  bits .or .u64 (IntKind.u64.wrap ((x:Int)*2^s)) (c:Int)=(((x*2^s)%18446744073709551616+c:Nat):Int)/\(x*2^s)%18446744073709551616+c<18446744073709551616/\(x*2^s)%18446744073709551616+c+18446744073709551616*(x/2^(64-s))=x*2^s+c/\x/2^(64-s)<2^s:=by
 have hp:(18446744073709551616:Nat)=2^(64-s)*2^s:=by rw [<- aL,show 64-s+s=64 by omega]
 have h1:(x*2^s)%18446744073709551616=2^s*(x%2^(64-s)):=by
  rw [hp,Nat.mul_mod_mul_right,aD]
 have h2:x*2^s/18446744073709551616=x/2^(64-s):=by
  rw [hp,Nat.mul_div_mul_right _ _ (aX)]
 have h3:x%2^(64-s)+1<=2^(64-s):=aY _ (aX);have h4:2^s*(x%2^(64-s)+1)<=18446744073709551616:=by
  rw [hp,aD (2^(64-s))];exact bG _ h3
 rw [aJ,bI] at h4;have a:(x*2^s)%18446744073709551616+c<18446744073709551616:=by rw [h1];omega
 refine ⟨?_,a,?_,?_⟩
 ·rw [show (x:Int)*2^s=((x*2^s:Nat):Int) by simp,IntKind.wrap_u64,show ((x*2^s:Nat):Int)%18446744073709551616=(((x*2^s)%18446744073709551616:Nat):Int) by omega,u64_or_nat _ _ (by omega) (by omega),h1,<- lr hc]
 ·rw [<- h2];generalize x*2^s=y;omega
 ·rw [cW (aX),<- aL,show s+(64-s)=64 by omega];exact hx

theorem tC (ao:OA) (L r:Nat) (xs:LN) (X s n:Nat) (hX:X=val xs) (hs:s<=63) (w:World) (hu:Row .u64 w (.slice ao L r) xs) (f:Digs xs) (hn:n<=1000000:=by omega) (hLn:L<=n:=by omega) :
  ClZ 253 #[.slice ao L r,.int .i64 (s:Nat),.int .i64 (n:Nat)] w fun e w'=>e=.returned (.slice (some ⟨w.heap.size,0,none⟩) n n)/\OwnN .u64 24 w' w.heap.size (.slice (some ⟨w.heap.size,0,none⟩) n n) n (digs (X*2^s) n)/\Kept af w w':=by
 obtain ⟨i0,D,I,J,M⟩:=info_parts Tryz.info24;obtain ⟨_,_,_,e1,l,_,_,_,_⟩:=hu.open;cases e1
 have A:HzD (X<18446744073709551616^n):=by unfold HzD;rw [hX];exact eX f (by rw [l.o];exact hLn)
 have a:HzD (∀ k,dig X k=xs.getD k 0):=fun k=>by rw [hX];exact dn (by omega) f k
 have j:HzD (∀ k,xs.getD k 0<18446744073709551616):=fun k=>f.getD (by omega) _
 have HU:=aa hu;have eL:=aa l.o;clear hX hu f l;delta ClZ;go_in;go_wp2_with (at_make;refine wpList_make_full _ rfl _ _ 23 rfl w.heap.size 24 i0 _ 1 underlying23 D I J _ _ _ _ n rfl rfl rfl rfl (by rw [M];omega) (by unfold maxLen;omega) (leR _) ?_;intro w1 m t);rw [bD] at m;have k1:=bf t;clear t;obtain ⟨s2,v⟩:=aj (64-s)
 have O:IntKind.i64.wrap (64-(s:Int))=(s2:Int):=jN
 have P:(s2:Int)<=64:=by omega
 have p:=aa v;clear v;go_loopw [8,14] (fun bl i wr=>∃ (k x':Nat) (os:LN),k<=n/\x'<18446744073709551616/\i=.int .i64 (k:Int)/\bl=.int .u64 (x':Int)/\HzD (os.length=k)/\Digs os/\OwnN .u64 24 wr w.heap.size (.slice (some ⟨w.heap.size,0,none⟩) n n) n (os ++ List.replicate (n-k) 0)/\Kept af w wr /\
   HzD (val os+18446744073709551616^k*(x'/2^s2)=0%18446744073709551616^k+X%18446744073709551616^k*2^s)) (fun _ i _=>n-(intOf i).toNat)
 case atStart=>exact ⟨0,0,[],aQ _,by omega,rfl,rfl,rfl,Digs.nil _,by rw [bZ,et];exact m,k1,by unfold HzD;simp [val,Nat.mod_one]⟩
 case round=>
  clear m k1;obtain ⟨k,x',os,hk,G,rfl,rfl,HL,o,ho,g,HV⟩:=hrel;by_cases hkn:k<n
  ·have R:(0:Int)<=(k:Int):=cN _;have E:(k:Int)<(n:Int):=by omega
   have Q:=jh ho HL.o hkn;have hf:=World.ownsRow.frozenAt ho k;have q:HzD (∀ u:Nat,OwnN .u64 24 (wr.setCell ⟨w.heap.size,k,none⟩ (.int .u64 (u:Int))) w.heap.size (.slice (some ⟨w.heap.size,0,none⟩) n n) n ((os ++ [u]) ++ List.replicate (n-(k+1)) 0)):=fun u=>by
    have:=(World.ownsRow.stored ho k (.int .u64 (u:Int))).1;unfold OwnN;rw [<- kM os n k u HL.o hkn,cG];exact this
   obtain ⟨c,hc⟩:=aj (x'/2^s2)
   have ec:(x':Int)/2^s2=(c:Int):=by rw [hc];simp
   have C:c<2^s:=by rw [hc,p.o];exact (py hs G (c:=0) (aX)).2.2.2
   obtain ⟨x,b⟩:=aj (xs.getD k 0)
   have hx:x<18446744073709551616:=by rw [b];exact j.o k
   obtain ⟨s1,s3,s4,_⟩:=py hs hx C;obtain ⟨z,y⟩:=aj ((x*2^s)%18446744073709551616+c)
   rw [<- y] at s1 s3 s4;have hz:=s3;have HS:HzD (val (os ++ [z])+18446744073709551616^(k+1)*(x/2^s2)=0%18446744073709551616^(k+1)+X%18446744073709551616^(k+1)*2^s):=oT (c:=c) HL.o (by rw [hc];exact HV.o) (by rw [a.o k,<- b,show dig 0 k=0 by simp [dig],p.o,s4,aV]);clear hc y s3 s4 HV;by_cases hkL:k<L
   ·have F:(k:Int)<(L:Int):=by omega
    obtain ⟨_,_,_,e2,_,_,_,_,d⟩:=(HU.o.g g).open;cases e2
    obtain ⟨b2,N,rfl,B⟩:=d k hkL;rw [<- b] at B;clear d b j a;go_wp2_with fail;go_region
    all_goals
     go_wp2_with fail;go_roundw
     case rel=>exact ⟨k+1,x,os ++ [z],by omega,hx,by go_num,rfl,by unfold HzD;rw [bk,HL.o];rfl,o.append (Digs.one hz),q.o z,(g.setCell _ (fun h=>by simp at h) _).drew,HS.o⟩
     case measure=>simp [intOf];omega
   ·have F:¬ (k:Int)<(L:Int):=by omega
    have H:x=0:=by rw [b,aA,ip (by rw [eL.o];omega)];rfl
    subst H;have s5:bits .or .u64 0 (c:Int)=(z:Int):=by rw [<- s1];simp [IntKind.wrap_u64]
    clear b j a;go_wp2_with fail;go_region
    all_goals
     go_wp2_with fail;go_roundw
     case rel=>exact ⟨k+1,0,os ++ [z],by omega,hx,by go_num,rfl,by unfold HzD;rw [bk,HL.o];rfl,o.append (Digs.one hz),q.o z,(g.setCell _ (fun h=>by simp at h) _).drew,HS.o⟩
     case measure=>simp [intOf];omega
  ·have E:¬ (k:Int)<(n:Int):=by omega
   obtain rfl:k=n:=by omega
   have e:=HV.o;rw [iw,dU,aB A.o] at e;rw [cj,fg,dY] at ho;obtain ⟨e1,_⟩:=tN (by omega) HL.o o e;have E1:=aa e1;clear e e1 j a HV;go_wp2_with fail;go_ret;rw [<- E1.o];exact ⟨rfl,ho,g⟩

theorem Bt {k a b l a' z b':Nat} (hl:os.length=k) (h:val os B+V%B^k*Q=U%B^k+B^k*(a+b)) (h1:l+B*a'=dig V k B*Q+a) (h2:z+l+b=dig U k B+B*b') :
  val (os ++ [z]) B+V%B^(k+1)*Q=U%B^(k+1)+B^(k+1)*(a'+b'):=by
 rw [dG,hl,fw,fw,aG,bd,dm,bd];have e1:B^k*(l+B*a')=B^k*(dig V k B*Q+a):=by rw [h1]
 have e2:B^k*(z+l+b)=B^k*(dig U k B+B*b'):=by rw [h2]
 rw [aJ] at h;rw [aJ,aJ] at e1;rw [aJ,aJ,aJ] at e2;rw [aJ B,aJ];omega

theorem DV {a b z b':Nat} (hl:os.length=n) (hV:V<B^n) (hU:U<B^(n+1)) (h:val os B+V%B^n*Q=U%B^n+B^n*(a+b)) (h2:z+a+b=dig U n B+B*b') :
  val (os ++ [z]) B+V*Q=U+B^(n+1)*b':=by
 have e3:U%B^(n+1)=U:=aB hU;rw [fw] at e3;rw [dG,hl];rw [aB hV] at h;have e2:B^n*(z+a+b)=B^n*(dig U n B+B*b'):=by rw [h2]
 rw [aJ,aJ,aJ,<- bd,<- aG] at e2;simp only [Nat.succ_eq_add_one] at e2;rw [aJ] at h;omega

theorem Fq (g base N o j n c Q:Nat) (zs ys:LN) (v:Value) (w:World) (ho:OwnN .u64 24 w base (.slice (some ⟨g,0,none⟩) N o) N zs) (J:zs.length=N) (r:Digs zs) (hj:j+(n+1)<=N) (hN:N<=100000000)
  (hv:Row .u64 w v ys) (D:ys.length=n) (q:Digs ys) (H:ys≠[]->∀ b,v.ownBlock=some b->b≠g) (hQ:Q<18446744073709551616) :
  ClZ 263 #[.slice (some ⟨g,j,none⟩) (n+1) c,v,.int .u64 (Q:Nat)] w fun e w'=>∃ b:Nat,e=.returned (.int .u64 (b:Nat))/\b<=1/\∃ os:LN,os.length=n+1/\Digs os/\val os+val ys*Q=val ((zs.drop j).take (n+1))+18446744073709551616^(n+1)*b /\
   OwnN .u64 24 w' base (.slice (some ⟨g,0,none⟩) N o) N (zs.take j ++ (os ++ zs.drop (j+(n+1))))/\Kept (fun b=>b=g) w w':=by
 have hX:=pX (j:=j) (n:=n+1) r;have hY:val ys<18446744073709551616^n:=by rw [<- D];exact aE (by omega) q
 have p:HzD (∀ k,k<n+1->dig (val ((zs.drop j).take (n+1))) k=zs.getD (j+k) 0):=fun k hk=>rf r hk
 have A:HzD (∀ k,dig (val ys) k=ys.getD k 0):=fun k=>dn (by omega) q k
 have E:HzD (∀ k,zs.getD (j+k) 0<18446744073709551616):=fun k=>r.getD (by omega) _
 have C:HzD (∀ k,ys.getD k 0<18446744073709551616):=fun k=>q.getD (by omega) _
 have d:HzD (∀ W',Kept (fun b=>b=g) w W'->Row .u64 W' v ys):=fun W' k=>hv.kept' k H
 generalize val ((zs.drop j).take (n+1))=X at *;generalize val ys=Y at *;have HX:=aa hX;have HY:=aa hY;have G:=aa J;have HO:=aa ho;obtain ⟨bo,m,bc,rfl,hM,_,_,_,_⟩:=hv.open;obtain rfl:m=n:=hM.o.symm.trans D;clear ho J hX hY D q r H hv hM;delta ClZ;go_in;go_wp2_with fail;go_loopw [7,9,13] (fun av bv i wr=>∃ (k a b:Nat) (os:LN),k<=m/\a<18446744073709551616/\b<=1/\i=.int .i64 (k:Int)/\av=.int .u64 (a:Int)/\bv=.int .u64 (b:Int)/\HzD (os.length=k)/\Digs os/\OwnN .u64 24 wr base (.slice (some ⟨g,0,none⟩) N o) N (zs.take j ++ (os ++ zs.drop (j+k)))/\Kept (fun b=>b=g) w wr /\
   HzD (val os+Y%18446744073709551616^k*Q=X%18446744073709551616^k+18446744073709551616^k*(a+b))) (fun _ _ i _=>m-(intOf i).toNat)
 case atStart=>exact ⟨0,0,0,[],aQ _,by omega,by omega,rfl,rfl,rfl,rfl,Digs.nil _,by rw [aV,bZ,kh];exact HO.o,ah _ _,by unfold HzD;simp [val,Nat.mod_one]⟩
 case round=>
  obtain ⟨k,a,b,os,hk,ha,hb,rfl,rfl,rfl,HL,I,ho,B,HV⟩:=hrel;have S:=jX ho G.o HL.o;have hf:=World.ownsRow.frozenAt ho (j+k);have hx:=E.o k;have F:HzD (∀ u:Nat,OwnN .u64 24 (wr.setCell ⟨g,j+k,none⟩ (.int .u64 (u:Int))) base (.slice (some ⟨g,0,none⟩) N o) N (zs.take j ++ ((os ++ [u]) ++ zs.drop (j+(k+1))))):=fun u=>by
   have:=(World.ownsRow.stored ho (j+k) (.int .u64 (u:Int))).1;unfold OwnN;rw [<- kK zs os j k u HL.o (by have:=G.o;omega),cG];exact this
  by_cases hkn:k<m
  ·have U:(0:Int)<=(k:Int):=cN _;have O:(k:Int)<(m:Int):=by omega
   have P:(k:Int)<(m:Int)+1:=by omega
   obtain ⟨_,_,_,e2,_,_,_,_,h⟩:=(d.o wr B).open;cases e2
   obtain ⟨b2,R,rfl,T⟩:=h k hkn;have hy:=C.o k;have s:HzD (∀ l a' z b',l+18446744073709551616*a'=ys.getD k 0*Q+a->z+l+b=zs.getD (j+k) 0+18446744073709551616*b'->val (os ++ [z])+Y%18446744073709551616^(k+1)*Q=X%18446744073709551616^(k+1)+18446744073709551616^(k+1)*(a'+b')):=fun l a' z b' h1 h2=>Bt HL.o HV.o (by rw [A.o k];exact h1) (by rw [p.o k (by omega)];exact h2)
   clear HV d h p A E C HO HX HY;generalize zs.getD (j+k) 0=x at *;generalize ys.getD k 0=y at *;go_wp2_with fail;refine (Aq y Q a 0 hy hQ ha (by omega) _).mono ?_;rintro e w7 ⟨a',l,rfl,M,hl,L,rfl⟩;rw [aV] at L;go_wp2_with fail;refine (Ar x l b hx hl hb _).mono ?_;rintro e w8 ⟨z,b',rfl,hz,t,f,rfl⟩;go_wp2_with fail;go_roundw
   case rel=>exact ⟨k+1,a',b',os ++ [z],by omega,M,t,by go_num,rfl,rfl,by unfold HzD;rw [bk,HL.o];rfl,I.append (Digs.one hz),F.o z,B.setCell _ (fun _=>rfl) _,s.o l a' z b' L f⟩
   case measure=>simp [intOf];omega
  ·have O:¬ (k:Int)<(m:Int):=by omega
   obtain rfl:k=m:=by omega
   have P:(k:Int)<(k:Int)+1:=by omega
   have s:HzD (∀ z b',z+a+b=zs.getD (j+k) 0+18446744073709551616*b'->val (os ++ [z])+Y*Q=X+18446744073709551616^(k+1)*b'):=fun z b' h2=>DV HL.o HY.o HX.o HV.o (by rw [p.o k (by omega)];exact h2)
   clear HV d p A E C HO HX HY;generalize zs.getD (j+k) 0=x at *;go_wp2_with fail;refine (Ar x a b hx ha hb _).mono ?_;rintro e w8 ⟨z,b',rfl,hz,t,f,rfl⟩;go_wp2_with fail;go_ret;exact ⟨b',rfl,t,os ++ [z],by rw [bk,HL.o];rfl,I.append (Digs.one hz),s.o z b' f,F.o z,B.setCell _ (fun _=>rfl) _⟩

theorem At {p l h lo:Nat} (a:lo<18446744073709551616) (hl:l<18446744073709551616) (e:lo+18446744073709551616*h=p):(u*18446744073709551616+l<p)↔(u<h\/(h=u/\l<lo)):=by
 constructor <;> intro hh <;> omega

theorem Hz (a b u l:Nat) (ha:a<18446744073709551616) (hb:b<18446744073709551616) (hl:l<18446744073709551616) (R:Bool) (hR:R=decide (u*18446744073709551616+l<a*b)) (w:World) :
  ClZ 265 #[.int .u64 (a:Nat),.int .u64 (b:Nat),.int .u64 (u:Nat),.int .u64 (l:Nat)] w fun e w'=>e=.returned (.bool R)/\w'=w:=by
 have hM:=Aq a b 0 0 ha hb (by omega) (by omega);have HR:=aa hR;clear hR;delta ClZ;go_in;go_wp2_with fail;refine (hM _).mono ?_;rintro e w1 ⟨h,lo,rfl,hh,c,d,rfl⟩;have hi:=At (u:=u) (p:=a*b) c hl (by omega);clear d hM;by_cases c1:u<h
 ·have g1:(u:Int)<(h:Int):=by omega
  have hT:HzD (R=true):=by unfold HzD;rw [HR.o];exact dV (hi.2 (.inl c1))
  clear hi;go_wp2_with fail;go_ret;rw [hT.o];exact ⟨rfl,rfl⟩
 ·have g1:¬ (u:Int)<(h:Int):=by omega
  by_cases c2:h=u
  ·subst c2;have hT:HzD (R=decide (l<lo)):=by unfold HzD;rw [HR.o];exact decide_eq_decide.2 (hi.trans ⟨fun x=>by omega,fun x=>.inr ⟨rfl,x⟩⟩)
   clear hi;by_cases c3:l<lo
   ·have g3:(l:Int)<(lo:Int):=by omega
    rw [dV c3] at hT;go_wp2_with fail;go_ret;rw [hT.o];exact ⟨rfl,rfl⟩
   ·have g3:¬ (l:Int)<(lo:Int):=by omega
    rw [cI c3] at hT;go_wp2_with fail;go_ret;rw [hT.o];exact ⟨rfl,rfl⟩
  ·have g2:((h:Int) == (u:Int))=false:=by simp;omega
   have hT:HzD (R=false):=by unfold HzD;rw [HR.o];exact cI (fun x=>by have:=hi.1 x;omega)
   clear hi;go_wp2_with fail;go_ret;rw [hT.o];exact ⟨rfl,rfl⟩

theorem H4 (u2 u1 u0 v1 v0:Nat) (h1:u1<18446744073709551616) (h0:u0<18446744073709551616) (p:v1<18446744073709551616) (l:v0<18446744073709551616) (hn:9223372036854775808<=v1) (w:World) :
  ClZ 262 #[.int .u64 (u2:Nat),.int .u64 (u1:Nat),.int .u64 (u0:Nat),.int .u64 (v1:Nat),.int .u64 (v0:Nat)] w fun e w'=>∃ q:Nat,e=.returned (.int .u64 (q:Nat))/\q<18446744073709551616/\((v1<=u2/\q=18446744073709551615)\/(u2<v1/\q=(((u2*18446744073709551616+u1)*18446744073709551616+u0)/(v1*18446744073709551616+v0))))/\∃ m,w'=w.drewN m:=by
 by_cases hc:v1<=u2
 ·have g:(v1:Int)<=(u2:Int):=by omega
  delta ClZ;go_in;go_wp2_with fail;go_ret;exact ⟨18446744073709551615,rfl,by omega,.inl ⟨hc,rfl⟩,0,rfl⟩
 ·have g:¬ (v1:Int)<=(u2:Int):=by omega
  have i:=IQ u2 u1 v1 h1 p (by omega) w;have hU:u2*18446744073709551616+u1<v1*18446744073709551616+v0:=by
   have:(u2+1)*18446744073709551616<=v1*18446744073709551616:=cF _ (by omega);omega
  have hG:=Gss.start (B:=18446744073709551616) (U:=u2*18446744073709551616+u1) (u:=u0) (y1:=v1) (y0:=v0) (by omega) h0 (by omega) l hU;have o:(u2*18446744073709551616+u1)/v1<18446744073709551616:=tF h1;have v:(u2*18446744073709551616+u1)%v1<v1:=bu;obtain ⟨q0,b⟩:=aj ((u2*18446744073709551616+u1)/v1)
  obtain ⟨r0,k⟩:=aj ((u2*18446744073709551616+u1)%v1)
  rw [<- b,<- k] at i hG;rw [<- b] at o;rw [<- k] at v;clear b k;have HG:=aa hG;have HU:=aa hU;have h:HzD (u2<v1):=by unfold HzD;omega
  clear hG hU;delta ClZ;go_in;go_wp2_with fail;refine i.mono ?_;rintro e w1 ⟨rfl,m,rfl⟩;clear i;go_wp2_with fail;go_loop [11,12,13] (fun qv rv cv=>∃ q r c:Nat,q<18446744073709551616/\r<18446744073709551616/\c<=1/\qv=.int .u64 (q:Int)/\rv=.int .u64 (r:Int)/\cv=.int .u64 (c:Int)/\HzD (Gss 18446744073709551616 (u2*18446744073709551616+u1) u0 v1 v0 q (r+18446744073709551616*c))) (fun qv _ _=>(intOf qv).toNat)
  case atStart=>exact ⟨q0,r0,0,o,by omega,by omega,rfl,rfl,rfl,by rw [df,aV];exact HG⟩
  case round=>
   clear HG;obtain ⟨q,r,c,hq,hr,y,rfl,rfl,rfl,HG⟩:=hrel;by_cases c0:c=0
   ·subst c0;have a:=HG.o;rw [df,aV] at a;have f:=Hz q v0 r u0 hq l h0;by_cases ct:r*18446744073709551616+u0<q*v0
    ·have hA:=fun W=>f true (dV ct).symm W
     obtain ⟨b,j⟩:=a.next h0 HU.o (.inr (by rw [aD];exact ct));obtain ⟨q',n⟩:∃ q',q=q'+1:=⟨q-1,by omega⟩
     rw [show q-1=q' by omega] at j;have k8:IntKind.u64.wrap ((q:Int)-1)=(q':Int):=eC
     have HQ:=aa n;have s:=aa j;clear f HG a j b ct n;go_wp2_with fail;refine (hA _).mono ?_;rintro e w2 ⟨rfl,rfl⟩;clear hA;go_wp2_with fail;refine (Eb r v1 0 hr p (by omega) _).mono ?_;rintro e w3 ⟨z,c',rfl,hz,t,x,rfl⟩;go_wp2_with fail;go_round
     case rel=>exact ⟨q',z,c',by have:=HQ.o;omega,hz,t,rfl,rfl,rfl,by rw [x,aV];exact s⟩
     case measure=>have:=HQ.o;simp [intOf];omega
    ·have hA:=fun W=>f false (cI ct).symm W
     have d:=aa (a.stop (by omega) (by rw [aD 18446744073709551616 r];omega));clear f HG a ct;go_wp2_with fail;refine (hA _).mono ?_;rintro e w2 ⟨rfl,rfl⟩;clear hA;go_wp2_with fail;go_ret;exact ⟨q,rfl,hq,(by first | exact .inr ⟨h.o,d.o⟩ | exact ⟨h.o,d.o⟩),m,rfl⟩
   ·have c1:c=1:=by omega
    subst c1;have d:=aa (HG.o.stop (by omega) (Gss.over (by omega) l (by omega)));clear HG;go_wp2_with fail;go_ret;exact ⟨q,rfl,hq,(by first | exact .inr ⟨h.o,d.o⟩ | exact ⟨h.o,d.o⟩),m,rfl⟩

theorem zg (hB:0<B) {us:LN} (hd:Digs us B) (hl:us.length=n+3) :
  val us B=((us.getD (n+2) 0*B+us.getD (n+1) 0)*B+us.getD n 0)*B^n+val (us.take n) B/\val (us.take n) B<B^n:=by
 have h0:=bg B us n;have hlt:=aE hB (hd.take n);rw [aR,fT] at hlt;refine ⟨?_,hlt⟩;rw [fU,fU,fU,jI] at h0;simp only [val,df,aV] at h0;rw [h0,lf]
 congr 1
 rw [aD (B^n)]
 congr 1
 rw [aJ,dm,aD B (us.getD (n+1) 0),aD B (us.getD (n+2) 0),aD B (us.getD (n+2) 0*B)];omega

theorem xx (hB:0<B) {vs:LN} (hd:Digs vs B) (hl:vs.length=n+2) :
  val vs B=(vs.getD (n+1) 0*B+vs.getD n 0)*B^n+val (vs.take n) B/\val (vs.take n) B<B^n:=by
 have h0:=bg B vs n;have hlt:=aE hB (hd.take n);rw [aR,fT] at hlt;refine ⟨?_,hlt⟩;rw [fU,fU,jI] at h0;simp only [val,df,aV] at h0;rw [h0,lf]
 congr 1
 rw [aD (B^n)]
 congr 1
 rw [aD B (vs.getD (n+1) 0)];omega

theorem Fa {v0:Nat} (h:v0<B) (hl:vl<B^n):v0*B^n+vl<B^(n+1):=by
 have h1:(v0+1)*B^n<=B*B^n:=cF _ h;rw [dm,iG] at h1;rw [aG,aD (B^n)];omega

theorem D7 (B a b n ul:Nat):(a*B+b)*B^n+ul=a*B^(n+1)+(b*B^n+ul):=by
 rw [dm,bd a,aG,aD (B^n) B,iX]

theorem Co {us vs:LN} (a:Digs us) (c:Digs vs) (f:us.length=n+3) (g:vs.length=n+2) (hn:9223372036854775808<=vs.getD (n+1) 0) (hlt:val us<val vs*18446744073709551616)
  (hq:q<18446744073709551616) (h:(vs.getD (n+1) 0<=us.getD (n+2) 0/\q=18446744073709551615)\/(us.getD (n+2) 0<vs.getD (n+1) 0/\q=((us.getD (n+2) 0*18446744073709551616+us.getD (n+1) 0)*18446744073709551616+us.getD n 0)/(vs.getD (n+1) 0*18446744073709551616+vs.getD n 0))) :
  val us/val vs<=q/\q<=val us/val vs+1:=by
 have d:18446744073709551616<=2*vs.getD (n+1) 0:=by omega
 have e:18446744073709551616<=vs.getD (n+1) 0*18446744073709551616+vs.getD n 0:=by omega
 obtain ⟨e1,l1⟩:=zg (by omega) a f;obtain ⟨e2,l2⟩:=xx (by omega) c g;have b0:=a.getD (by omega) n;have b1:=a.getD (by omega) (n+1);have b2:=c.getD (by omega) n;generalize val us=U at *;generalize val vs=V at *;generalize val (us.take n)=ul at *;generalize val (vs.take n)=vl at *;generalize us.getD (n+2) 0=u2 at *;generalize us.getD (n+1) 0=u1 at *;generalize us.getD n 0=u0 at *;generalize vs.getD (n+1) 0=v1 at *;generalize vs.getD n 0=v0 at *;rcases h with ⟨h1,rfl⟩ | ⟨h1,h2⟩
 ·have hU:U=(u2*18446744073709551616+u1)*(18446744073709551616^(n+1))+(u0*18446744073709551616^n+ul):=by
   rw [e1];exact D7 _ _ _ _ _
  have hV:V=v1*18446744073709551616^(n+1)+(v0*18446744073709551616^n+vl):=by
   rw [e2];exact D7 _ _ _ _ _
  have b:v0*18446744073709551616^n+vl<18446744073709551616^(n+1):=Fa b2 l2;have h3:v1*18446744073709551616<=u2*18446744073709551616+u1:=by
   exact aI (cF _ h1) (Nat.le_add_right _ _)
  exact yr hU hV b hlt d (by decide) h3
 ·have hQ:((u2*18446744073709551616+u1)*18446744073709551616+u0)/(v1*18446744073709551616+v0)<=18446744073709551616:=by rw [<- h2];exact eH hq
  have:=AW (B:=18446744073709551616) e1 l1 e2 l2 e (by decide) hQ;rw [<- h2] at this;exact this

theorem BG (hB:0<B) {R M:Nat} (f:os.length=M+1) (c:Digs os B) (hV:V<B^M) (a:val os B+V*(q+1)=U+B^(M+1)) (hR:V*q+R=U) (e:R<V) :
  os.getD M 0+(val (os.take M) B+V)/B^M=B/\digs (val (os.take M) B+V) M B=digs R M B/\digs R (M+1) B=digs R M B ++ [0]:=by
 have e1:=bg B os M;rw [fU,jI] at e1;simp only [val,df,aV] at e1;have hlt:=aE hB (c.take M);rw [aR,fT] at hlt;have ht:os.getD M 0<B:=c.getD hB M;generalize val (os.take M) B=lo at *;generalize os.getD M 0=top at *;rw [e1,aJ,bI,aG] at a;have hp:0<B^M:=iH hB;have b:R<B^M:=by omega
 generalize hP:B^M=P at *;have hS:lo+V=R+P*(B-top):=by
  have h1:P*(B-top)=P*B-P*top:=li P B top;have h2:P*top<=P*B:=bG _ (by omega);omega
 have d:(lo+V)/P=B-top:=by rw [hS,jQ _ _ hp,bJ b,dU]
 refine ⟨by rw [d];omega,?_,?_⟩
 ·refine cS hB (ak hB _ _) (ag _ _ _) ?_;rw [ay,hP,hS,eO]
 ·rw [digs]
  congr 1
  rw [dig,hP,bJ b,iw]

theorem Gy (g base N l j n n1 M c:Nat) (J:n1=n+1) (hM:M=n+2) (zs vs:LN) (bo:OA) (bc U V Q R:Nat) (w:World) (ho:OwnN .u64 24 w base (.slice (some ⟨g,0,none⟩) N l) N zs) (T:zs.length=N) (s:Digs zs) (hj:j+(M+1)<=N) (hN:N<=100000000) (aP:M+1<=c)
  (hv:Row .u64 w (.slice bo M bc) vs) (x:Digs vs) (ad:∀ b,(Value.slice bo M bc).ownBlock=some b->b≠g) (hn:9223372036854775808<=vs.getD n1 0) (hU:U=val ((zs.drop j).take (M+1))) (hV:V=val vs) (hlt:U<V*18446744073709551616) (hQ:Q=U/V) (hR:R=U%V) :
  ClZ 254 #[.slice (some ⟨g,j,none⟩) (M+1) c,.slice bo M bc] w fun e w'=>e=.returned (.int .u64 (Q:Nat)) /\
   OwnN .u64 24 w' base (.slice (some ⟨g,0,none⟩) N l) N (zs.take j ++ (digs R (M+1) ++ zs.drop (j+(M+1))))/\Kept (fun b=>b=g) w w':=by
 obtain ⟨_,_,_,e1,E,_,_,_,o⟩:=hv.open;cases e1
 have eV:=aa E.o;have am:((zs.drop j).take (M+1)).length=n+3:=by rw [aR,cV,T];omega
 have al:Digs ((zs.drop j).take (M+1)):=(s.drop j).take _;have z:∀ k,k<M+1->((zs.drop j).take (M+1)).getD k 0=zs.getD (j+k) 0:=fun k hk=>by rw [aA,eG,ai hk,fd,<- aA]
 have y:∀ k,k<M+1->w.cell? ⟨g,j+k,none⟩=some (.int .u64 (zs.getD (j+k) 0:Nat)):=fun k hk=>by
  rw [World.ownsRow.cellAt ho (j+k) (by omega),bV,aA,aS (by omega)];rfl
 have F:=aa (fun q hq h=>Co (q:=q) (n:=n) al x am (E.o.trans hM) (by rw [<- J];exact hn) (by rw [<- hU,<- hV];exact hlt) hq h);rw [<- hU,<- hV,<- hM,<- J,z M (by omega),z n1 (by omega),z n (by omega)] at F;have aw:=y M (by omega);have av:=y n1 (by omega);have au:=y n (by omega);obtain ⟨b2,p,rfl,ay⟩:=o n1 (by omega);obtain ⟨_,_,e2,ax⟩:=o n (by omega);cases e2
 have aK:=s.getD (by omega) (j+M);have ar:=s.getD (by omega) (j+n1);have aq:=s.getD (by omega) (j+n);have aC:=x.getD (by omega) n1;have az:=x.getD (by omega) n;have hG:=fun W=>H4 (zs.getD (j+M) 0) (zs.getD (j+n1) 0) (zs.getD (j+n) 0) (vs.getD n1 0) (vs.getD n 0) ar aq aC az hn W
 have ac:0<V:=by
  rcases cE V with h | h
  ·rw [h] at hlt;omega
  ·exact h
 have aL:IntKind.i64.wrap ((M:Int)-1)=(n1:Int):=jN
 have aM:IntKind.i64.wrap ((M:Int)-2)=(n:Int):=jN
 have g1:(M:Int)<(M:Int)+1:=by omega
 have g2:(n1:Int)<(M:Int)+1:=by omega
 have g3:(n:Int)<(M:Int)+1:=by omega
 have g4:(n1:Int)<(M:Int):=by omega
 have g5:(n:Int)<(M:Int):=by omega
 have HO:=aa ho;have D:=aa T;have X:=aa s;have HV:=aa hv;have B:=aa x;have HU:=aa hU;have C:=aa hV;have HQ:=aa hQ;have HR:=aa hR;have A:=aa ad;clear ho T s hv x hU hV hQ hR E o am al z y hn ad J hM;generalize zs.getD (j+M) 0=u2 at *;generalize zs.getD (j+n1) 0=u1 at *;generalize zs.getD (j+n) 0=u0 at *;generalize vs.getD n1 0=v1 at *;generalize vs.getD n 0=v0 at *;delta ClZ;go_in;go_wp2_with fail;go_still_tail 24,(by kernel_rfl)
 change wpList _ _ _ _ _ w.drew
 go_wp2_with fail;refine (hG _).mono ?_;rintro e w1 ⟨q,rfl,hq,ak,m,rfl⟩;obtain ⟨t1,t2⟩:=F.o q hq ak;have hS:=Fq g base N l j M c q zs vs (.slice (some ⟨b2,p,none⟩) M bc) (w.drew.drewN m) (((ah af w).drew.drewN m).own HO.o (fun _ _ f=>f)) D.o X.o hj hN (HV.o.g ((ah af w).drew.drewN m)) eV.o B.o (fun _=>A.o) hq;rw [<- HU.o,<- C.o] at hS;have k1:=(ah (fun b=>b=g) w).drew.drewN m;generalize w.drew.drewN m=W1 at *;clear hG F ak aw av au ay ax;go_wp2_with fail;refine hS.mono ?_;rintro e w2 ⟨b,rfl,hb,os,r,v,d,t,k2⟩;clear hS;by_cases hb1:b=1
 ·subst hb1;rw [bI] at d;have ab:V<18446744073709551616^M:=by
   rw [C.o,<- eV.o];exact aE (by omega) B.o
  have H:=dD U V;rw [<- HQ.o,<- HR.o] at H;rw [<- HQ.o] at t1 t2;have Z:R<V:=by rw [HR.o];exact aY _ ac
  have O:val os<18446744073709551616^(M+1):=by
   have:=aE (by omega) v
   rwa [r] at this
  have aJ:q=Q+1:=by
   have h1:q≠Q:=fun e=>by
    rw [e] at d;exact absurd d (Nat.ne_of_lt (by omega))
   exact Nat.le_antisymm t2 (by omega)
  subst aJ;obtain ⟨a1,a2,a3⟩:=BG (by omega) r v ab d H Z;obtain ⟨a,i⟩:=aj (zs.take j ++ (os ++ zs.drop (j+(M+1))))
  have I:(zs.take j).length=j:=by rw [aR,D.o];omega
  have z1:a.length=N:=by rw [i];exact ts D.o r hj
  have z2:Digs a:=by rw [i];exact ku X.o v
  have z3:a.take j=zs.take j:=by rw [i,List.take_left' I]
  have z4:a.drop j=os ++ zs.drop (j+(M+1)):=by rw [i,List.drop_left' I]
  have z5:a.drop (j+(M+1))=zs.drop (j+(M+1)):=by rw [<- ju,z4,List.drop_left' r]
  have z6:(a.drop j).take M=os.take M:=by rw [z4,List.take_append_of_le_length (by omega)]
  have z7:a.getD (j+M) 0=os.getD M 0:=by
   rw [aA,<- fd,z4,im (by omega),<- aA]
  rw [<- i] at t;obtain ⟨S,hS⟩:=aj (val (os.take M)+V)
  rw [<- hS] at a1 a2;obtain ⟨R2,G⟩:=aj (S/18446744073709551616^M)
  rw [<- G,<- z7] at a1;have Y:=fun W (kk:Kept af w2 W)=>tB g base N l j M c 1 a vs (.slice (some ⟨b2,p,none⟩) M bc) W (kk.own t (fun _ _ f=>f)) z1 z2 (by omega) ((HV.o.kept' (k1.trans k2) (fun _=>A.o)).g kk) eV.o B.o (fun _=>A.o) (by omega) R2 S (by rw [z6,bI,<- C.o];exact hS) G
  have aO:w2.cell? ⟨g,j+M,none⟩=some (.int .u64 (a.getD (j+M) 0:Nat)):=by
   rw [World.ownsRow.cellAt t (j+M) (by omega),bV,aA,aS (by omega)];rfl
  have aD:∀ W',OwnN .u64 24 W' base (.slice (some ⟨g,0,none⟩) N l) N (a.take j ++ (digs S M ++ a.drop (j+M)))->W'.cell? ⟨g,j+M,none⟩=some (.int .u64 (a.getD (j+M) 0:Nat)):=fun W' h=>jX h z1 (ag _ _ _)
  have aF:∀ W',OwnN .u64 24 W' base (.slice (some ⟨g,0,none⟩) N l) N (a.take j ++ (digs S M ++ a.drop (j+M)))->W'.frozen? ⟨g,j+M,none⟩=false:=fun W' h=>World.ownsRow.frozenAt h (j+M)
  have aG:HzD (∀ W',OwnN .u64 24 W' base (.slice (some ⟨g,0,none⟩) N l) N (a.take j ++ (digs S M ++ a.drop (j+M)))->OwnN .u64 24 (W'.setCell ⟨g,j+M,none⟩ (.int .u64 0)) base (.slice (some ⟨g,0,none⟩) N l) N (zs.take j ++ (digs R (M+1) ++ zs.drop (j+(M+1))))):=fun W' h=>by
   have:=(World.ownsRow.stored h (j+M) (.int .u64 0)).1;unfold OwnN;rw [a3,<- a2,<- z3,<- z5,<- kK a _ j M 0 (ag _ _ _),cG];exact this
  have aH:IntKind.u64.wrap ((a.getD (j+M) 0:Nat)+(R2:Int))=0:=eC
  change ∀ W,Kept af w2 W->ClZ 218 #[.slice (some ⟨g,j,none⟩) M c,.slice (some ⟨b2,p,none⟩) M bc,.int .u64 1] W _ at Y
  have gc:(M:Int)<=(c:Int):=by omega
  have ap:=aa (k1.trans k2);clear d H Z O a1 a2 a3 i z1 z2 z3 z4 z5 z6 z7 hS G t k1 k2 I t1 t2 ab;generalize a.getD (j+M) 0=tp at *;generalize a.take j ++ (digs S M ++ a.drop (j+M))=zs3 at *;go_wp2_with fail;go_region_with (go_at_call 218;refine (Y _ ((ah _ _).drew)).mono ?_;rintro e w3 ⟨rfl,L,k3⟩;have aN:=aD _ L;have aQ:=aF _ L)
  all_goals
   go_wp2_with fail;go_ret;exact ⟨rfl,aG.o _ L,(((ap.o.drew).trans k3).setCell _ (fun _=>rfl) _)⟩
 ·have aI:b=0:=by omega
  subst aI;rw [df,aV] at d;have P:q=Q:=by
   rw [HQ.o];exact Ad ac t1
  have ae:os=digs R (M+1):=cS (by omega) v r (by
   have h1:val os=R:=by
    rw [HR.o];have:=dD U V;rw [<- HQ.o,<- P] at this;omega
   rw [<- h1,aB];have:=aE (by omega) v
   rwa [r] at this)
  have ao:=aa P;have an:=aa ae;clear P ae d t1 t2;go_wp2_with fail;go_ret;rw [<- ao.o,<- an.o];exact ⟨rfl,t,k1.trans k2⟩

theorem qt {B:Nat} (hB:0<B) {zs a:LN} {j:Nat} (hd:Digs zs B) (hl:zs.length=N) (s:a.length=N) (hj:j+(n+1)<=N) (hV:V<B^n) (l:0<V) (hR:val (zs.drop (j+1)) B<V) (c:zs.take (j+1)=a.take (j+1))
  (hinv:V*val qs B+val (zs.drop (j+1)) B=val (a.drop (j+1)) B) (U:Nat) (hU:U=val ((zs.drop j).take (n+1)) B) :
  U<V*B /\
  ∀ b,b=zs.take j ++ (digs (U%V) (n+1) B ++ zs.drop (j+(n+1))) ->
   b.length=N/\Digs b B/\b.take j=a.take j/\val (b.drop j) B<V/\V*val (U/V :: qs) B+val (b.drop j) B=val (a.drop j) B:=by
 have e1:=bg B (zs.drop (j+1)) n (by rw [cV];omega);rw [ju] at e1;have hz:val (zs.drop (j+1+n)) B=0:=by
  rcases cE (val (zs.drop (j+1+n)) B) with h | h
  ·exact h
  ·have:B^n*1<=B^n*val (zs.drop (j+1+n)) B:=bG _ h;omega
 have e2:=bg B (zs.drop j) (n+1) (by rw [cV];omega);rw [ju,show j+(n+1)=j+1+n by omega,hz,df,aV,<- hU] at e2;have e3:=fU (B:=B) (zs:=zs) (j:=j);have o:zs.getD j 0=a.getD j 0:=by
  have h1:(zs.take (j+1)).getD j 0=(a.take (j+1)).getD j 0:=by rw [c]
  rw [aA,aA,eG,eG,cf,cf] at h1;rw [aA,aA];exact h1
 have p:=hd.getD hB j;have i:U=zs.getD j 0+B*val (zs.drop (j+1)) B:=e2.symm.trans e3;have k:U<V*B:=by
  rw [i];have:B*(val (zs.drop (j+1)) B+1)<=B*V:=bG _ hR;rw [aJ,bI] at this;rw [aD V];omega
 refine ⟨k,fun b e=>?_⟩;have g:(zs.take j).length=j:=by rw [aR];omega
 have d:b.drop j=digs (U%V) (n+1) B ++ zs.drop (j+(n+1)):=by rw [e,List.drop_left' g]
 have m:=aY U l;have f:val (b.drop j) B=U%V:=by
  rw [d,eK,ay,show j+(n+1)=j+1+n by omega,hz,df,aV];apply aB;have h1:B^n<=B^(n+1):=bj hB (by omega);omega
 refine ⟨by rw [e];simp [ag];omega,by rw [e];exact (hd.take j).append ((ak hB _ _).append (hd.drop _)),?_,by omega,?_⟩
 ·rw [e,List.take_left' g];have h1:(zs.take (j+1)).take j=(a.take (j+1)).take j:=by rw [c]
  rwa [nE,nE,fT] at h1
 ·rw [f,fU (zs:=a) (j:=j),<- o,<- hinv];simp only [val];have h1:=dD U V;rw [aJ,iu V B,aJ];generalize U/V=q at *;generalize U%V=r at *;generalize V*val qs B=y at *;omega

theorem vx {K t s:Nat} (hY:Y<18446744073709551616^(K+1)) (ht:t=Y/18446744073709551616^K) (g:0<t) (hs:s=64-aN t) :
  s<=63/\Y*2^s<18446744073709551616^(K+1)/\9223372036854775808<=dig (Y*2^s) K/\9223372036854775808*18446744073709551616^K<=Y*2^s:=by
 have hp:0<18446744073709551616^K:=aX;have h:t<18446744073709551616:=by
  rw [ht,cW hp,<- lj];exact hY
 obtain ⟨f1,f2,f3⟩:=uX g h;rw [<- hs] at f1 f2 f3;have f:0<2^s:=aX;have b:t*2^s+2^s<=18446744073709551616:=by
  have c:(18446744073709551616:Nat)=2^(64-s)*2^s:=by rw [<- aL,show 64-s+s=64 by omega]
  have h1:t<2^(64-s):=Nat.lt_of_mul_lt_mul_right (a:=2^s) (by rw [<- c];exact f2);have h2:(t+1)*2^s<=2^(64-s)*2^s:=cF _ h1;rw [<- c,dm,iG] at h2;exact h2
 have e:=dD Y (18446744073709551616^K);rw [<- ht] at e;have d:t*2^s*18446744073709551616^K<=Y*2^s:=by
  have:18446744073709551616^K*t<=Y:=by rw [<- e];exact Nat.le_add_right _ _
  have:=cF (2^s) this;rw [aD (t*2^s),<- bd];exact this
 have hlt:Y*2^s<18446744073709551616^(K+1):=by
  have h1:Y+1<=18446744073709551616^K*(t+1):=by
   rw [aJ,bI];omega
  have h2:(Y+1)*2^s<=18446744073709551616^K*(t+1)*2^s:=cF _ h1;have h3:18446744073709551616^K*((t+1)*2^s)<=18446744073709551616^K*18446744073709551616:=bG _ (by rw [dm,iG];exact b);rw [bd] at h2;have h4:Y*2^s<(Y+1)*2^s:=nJ (Nat.lt_succ_self _) f;rw [aG];exact bi h4 (aI h2 h3)
 refine ⟨f1,hlt,?_,aI (cF _ f3) d⟩;have hq:Y*2^s/18446744073709551616^K<18446744073709551616:=by
  rw [cW hp,<- lj];exact hlt
 rw [dig,aB hq];exact aI f3 ((nH hp).2 d)

theorem qB {s i:Nat} (hs:s<=63) :
  bits .or .u64 ((dig Z i/2^s:Nat):Int) (IntKind.u64.wrap ((dig Z (i+1):Int)*2^(64-s)))=(dig (Z/2^s) i:Int):=by
 have a:(18446744073709551616:Nat)=2^(64-s)*2^s:=by rw [<- aL,show 64-s+s=64 by omega]
 have hp:0<2^s:=aX;have l:0<2^(64-s):=aX;have b:dig Z i/2^s<2^(64-s):=by
  rw [cW hp,<- a];exact bu
 have f:dig Z (i+1)=Z/18446744073709551616^i/18446744073709551616%18446744073709551616:=by
  rw [dig,aG,di]
 have g:dig (Z/2^s) i=Z/18446744073709551616^i/2^s%18446744073709551616:=by
  rw [dig,di,aD,<- di]
 have c:dig Z i=Z/18446744073709551616^i%18446744073709551616:=rfl;generalize Z/18446744073709551616^i=A at *;have hA:A/2^s=2^(64-s)*(A/18446744073709551616)+A%18446744073709551616/2^s:=by
  have e:=dD A 18446744073709551616;have:A=2^s*(2^(64-s)*(A/18446744073709551616))+A%18446744073709551616:=by
   rw [<- bd,aD (2^s),<- a];exact e.symm
  rw [this,gH hp,<- this]
 have hlt:A%18446744073709551616/2^s<2^(64-s):=by rw [<- c];exact b
 have d:A/2^s%18446744073709551616=2^(64-s)*(A/18446744073709551616%2^s)+A%18446744073709551616/2^s:=by
  rw [hA];clear hA c f g b;generalize A/18446744073709551616=A1 at *;generalize A%18446744073709551616/2^s=a0 at *;rw [show (2^(64-s)*A1+a0)%18446744073709551616=(2^(64-s)*A1+a0)%(2^(64-s)*2^s) by rw [<- a],lh,iZ,aB hlt,gH l,bJ hlt,aV,lf]
 have h:dig Z (i+1)*2^(64-s)%18446744073709551616=2^(64-s)*(A/18446744073709551616%2^s):=by
  rw [f,aD];generalize A/18446744073709551616=A1;rw [show 2^(64-s)*(A1%18446744073709551616)%18446744073709551616=2^(64-s)*(A1%18446744073709551616)%(2^(64-s)*2^s) by rw [<- a],pM,nI];exact ⟨2^(64-s),by rw [aD];exact a⟩
 rw [g,d,<- c];generalize dig Z i/2^s=lo at *;generalize dig Z (i+1)=d1 at *;rw [show (d1:Int)*2^(64-s)=((d1*2^(64-s):Nat):Int) by simp,IntKind.wrap_u64,show ((d1*2^(64-s):Nat):Int)%18446744073709551616=((d1*2^(64-s)%18446744073709551616:Nat):Int) by simp,h];have j:2^(64-s)*(A/18446744073709551616%2^s)<18446744073709551616:=by rw [<- h];exact bu
 have k:lo<18446744073709551616:=bi b (by rw [show (18446744073709551616:Nat)=2^64 from rfl];exact bj (by omega) (by omega));rw [u64_or_nat _ _ k j,Nat.or_comm,lr b]

theorem xz {s L:Nat} (h:Z<2^s*18446744073709551616^L) (hs:s<=63) (hN:L+1<=N:=by omega):Z<18446744073709551616^N:=by
 have h1:2^s<=18446744073709551616:=by rw [show (18446744073709551616:Nat)=2^64 from rfl];exact bj (by omega) (by omega)
 have h2:2^s*18446744073709551616^L<=18446744073709551616*18446744073709551616^L:=cF _ h1;have h3:18446744073709551616*18446744073709551616^L=18446744073709551616^(L+1):=(lj ..).symm;rw [h3] at h2;exact bi h (aI h2 (bj (by omega) hN))

theorem pz {s L T nk:Nat} (h:Z<2^s*18446744073709551616^L) (hs:s<=63) (hV:9223372036854775808*18446744073709551616^nk<=V) (hT:L<=nk+T:=by omega):Z/18446744073709551616^T<V:=by
 rw [cW (aX)];have h1:2^s<=9223372036854775808:=by rw [show (9223372036854775808:Nat)=2^63 from rfl];exact bj (by omega) hs
 have h2:18446744073709551616^L<=18446744073709551616^(nk+T):=bj (by omega) hT;have h3:2^s*18446744073709551616^L<=9223372036854775808*18446744073709551616^(nk+T):=er h1 h2;rw [aL,<- bd] at h3;exact bi h (aI h3 (cF _ hV))

end Go.Proofs.YtpkmoamgpjcdeaaGreatDoor
