/- Put together of: Prw5 Law22d Prw9. -/
import Derived.Test.YtkaojflnghfmcaaGreatDoorQC35
import Derived.Test.YtkaojflnghfmcaaGreatDoorQC36
import Derived.Laws.StructEq

namespace Go.Proofs.YtkaojflnghfmcaaGreatDoor
open _root_.Go.Proofs.Tryz
set_option maxRecDepth 100000
set_option maxHeartbeats 4000000
open Go.RowKit

def tX (at_:Int) (fs:List Nat) (b T N P Q DP DQ QI n nP nQ:Nat):Nat:=tG at_ 4 fs (tG at_ 3 fs (uw (CC at_ fs b DP P nP) (CD at_ fs b DQ Q nQ) QI P Q) n N*T%N) n N

theorem Ab {at_:Int} {fs:List Nat} {b T N P Q DP DQ QI n nP nQ:Nat} (hP:0<P) (hQ:0<Q) (hN:P*Q=N):tX at_ fs b T N P Q DP DQ QI n nP nQ=pG at_ fs b T N P Q DP DQ QI n nP nQ:=by
 have a:0<N:=by rw [<- hN];exact fI hP hQ
 have h1:CC at_ fs b DP P nP=A7 at_ fs b P DP nP:=oN (ay _ hP);have h2:CD at_ fs b DQ Q nQ=uQ at_ fs b Q DQ nQ:=oN (ay _ hQ);have hV:uQ at_ fs b Q DQ nQ<Q:=by rw [<- h2];exact lK hQ
 have hz:=vO (X:=A7 at_ fs b P DP nP) (QI:=QI) hP hV;have e:uw (A7 at_ fs b P DP nP) (uQ at_ fs b Q DQ nQ) QI P Q=(uQ at_ fs b Q DQ nQ+Q*Dm (A7 at_ fs b P DP nP) (uQ at_ fs b Q DQ nQ) P QI)%N:=by
  rw [<- hN,ax]
  ·unfold uw Dm;rw [aF _ Q,j6];rfl
  ·unfold uw at hz;unfold Dm;rw [aF Q,j6];exact hz
 unfold tX pG Fy Hl;rw [h1,h2,e,oN (ay _ a),oN (ay _ a)]

def oS (n nP nQ LP LQ:Nat):List Ev:=sY n ++ (sF n nP nQ LP LQ ++ (oj n ++ (th n ++ (sY n ++ (oj n ++ ([(1,((max n n:Nat):Int),0)] ++ [(1,((n:Nat):Int),0)]))))))

theorem qx {n nP nQ LP LQ:Nat} (hP:nP<=130) (hQ:nQ<=130) (h1:LP<=300) (h2:LQ<=300):(sF n nP nQ LP LQ).length<=130000000:=by
 have a1:=oL (N1:=n) hP h1;have a2:=oL (N1:=n) hQ h2;have a3:=iV nP;have a4:=iV nQ;have a5:=fL nQ nP;have a6:=jT hP;have a7:=pv (L:=nP) (M:=nQ);unfold sF DK;simp only [aZ,be,cI,eS];omega

theorem Ho (o:Tr) (at_:Int) (av:AtOk at_) (s:KS) (l:KL) (fo:Option Addr) (fl fc:Nat) (fs:List Nat) (xo yo:Option Addr) (n xc yc Cn Rn N P Q nP nQ:Nat) (w:World) (ht:TrRoom w o 500000000) (hR:KRows w o s l fo fl fc fs) (gf:Digs fs) (hd:l.Digs) (bp:s.en<18446744073709551616)
  (hN:N=val l.n) (ag:el N=0) (aG:n=ar N) (aN:s.nl=n) (hP:P=val l.p) (hQ:Q=val l.q) (ah:el P=0) (ai:el Q=0) (aH:nP=ar P) (aJ:nQ=ar Q) (bu:s.pl<=300) (bz:s.ql<=300) (R:s.dpl<=300) (T:s.dql<=300) (bx:val l.qi<P) (bl:P*Q=N)
  (hx:NumT w o (.slice xo n xc) n Cn) (hC:Cn<N) (hy:NumT w o (.slice yo n yc) n Rn) (bm:Rn<N) (hg:Nat.gcd Rn N=1) :
  Calls prog 50 #[aL o,.agg #[.slice s.no s.nl s.nc,.int .u64 (s.en:Nat),.slice s.dO s.dl s.dc,.slice s.po s.pl s.pc,.slice s.qo s.ql s.qc,.slice s.dpo s.dpl s.dpc,.slice s.dqo s.dql s.dqc,.slice s.qio s.qil s.qic],.slice xo n xc,.slice yo n yc,.agg #[.int .i64 at_,.slice fo fl fc]] w fun e w'=>∃ zo zc Tn b M o',e=.returned (.tuple #[.slice zo n zc,.int .u64 ((b:Nat):Int)])/\(Tn<N/\Rn*Tn%N=1)/\M=tX at_ fs (Cn*(Rn^s.en%N)%N) Tn N P Q (val l.dp) (val l.dq) (val l.qi) n nP nQ/\b=cY (decide (M^s.en%N=Cn))/\NumT w' o' (.slice zo n zc) n (cC b M 0)/\Did w o (oS n nP nQ s.dpl s.dql) w' o':=by
 obtain ⟨po,bv⟩:=aK o;obtain ⟨W,hW⟩:∃ W,W=(w.alloc (.cells #[.slice s.no s.nl s.nc,.int .u64 (s.en:Nat),.slice s.dO s.dl s.dc,.slice s.po s.pl s.pc,.slice s.qo s.ql s.qc,.slice s.dpo s.dpl s.dpc,.slice s.dqo s.dql s.dqc,.slice s.qio s.qil s.qic] 26)).alloc (.cells #[.int .i64 at_,.slice fo fl fc] 31):=⟨_,rfl⟩
 have k0:Kept af w W:=by rw [hW];exact ((aj af w).alloc _).alloc _
 have aO:W.heap[w.heap.size]? = some (.cells #[.slice s.no s.nl s.nc,.int .u64 (s.en:Nat),.slice s.dO s.dl s.dc,.slice s.po s.pl s.pc,.slice s.qo s.ql s.qc,.slice s.dpo s.dpl s.dpc,.slice s.dqo s.dql s.dqc,.slice s.qio s.qil s.qic] 26 (0,0)):=by rw [hW];exact au (heap_alloc_new _ _)
 have bA:W.heap[w.heap.size+1]? = some (.cells #[.int .i64 at_,.slice fo fl fc] 31 (0,0)):=by
  rw [hW];have:=heap_alloc_new (w.alloc (.cells #[.slice s.no s.nl s.nc,.int .u64 (s.en:Nat),.slice s.dO s.dl s.dc,.slice s.po s.pl s.pc,.slice s.qo s.ql s.qc,.slice s.dpo s.dpl s.dpc,.slice s.dqo s.dql s.dqc,.slice s.qio s.qil s.qic] 26)) (.cells #[.int .i64 at_,.slice fo fl fc] 31)
  rwa [World.size_alloc] at this
 have c:n<=130:=by rw [aG];exact (dm ag).1
 have aI:nP<=130:=by rw [aH];exact (dm ah).1
 have aM:nQ<=130:=by rw [aJ];exact (dm ai).1
 have cd:=(dm ah).2.1;have ce:=(dm ai).2.1;have cc:=(dm ag).2.1;have c0:=xw o s.no s.nl s.nc l.n N n W (ht.1.grew k0) (hR.n.1.grew k0) hd.n (by omega) hN ag aG;have JS:=aa fun W (k:Kept af w W)=>IG o at_ fo fl fc W
 rw [bv] at JS ⊢;have an:=aa fun (o':Tr) (bT bF:Nat) (bo:Option Addr) (bc Bv:Nat) W' (t':TrRoom W' o' 300000000) (r':KRows W' o' s l fo fl fc fs) (c':Clo W' bT bF (aL o') at_ fo fl fc) (y':NumT W' o' (.slice bo n bc) n Bv) (hpq:P*Q<18446744073709551616^n)=>Hr o' bT bF at_ av s l fo fl fc fs bo n bc Bv P Q nP nQ W' t' r' c' gf hd hP hQ ah ai aH aJ bu bz R T aN c bx hpq y'
 have bP:=aa bl;have bQ:=aa (hR.grew k0);have HX:=aa (hx.grew k0);have HY:=aa (hy.grew k0);have HT:=aa (ht.grew k0);have bR:=aa ht.1;have bd:=aa k0;have b8:=aa aN;have HG:=aa hg;have HW:=aa hW;obtain ⟨q0,-⟩:=bH aO;clear hR hx hy hd hP hQ hN ag ah ai aH aJ aG bu bz bx bl hW k0 ht aN hg;go_enter func50,ntmps50;go_wp2_with (rw [<- HW.out]);refine c0.mono ?_;rintro e w1 ⟨na,nb,nK,nm,nr,rfl,mN,-,k1⟩;clear c0 q0;go_wp2_with fail;refine (jr na nb n nm nK n nr w1).mono ?_;rintro e w2 ⟨rfl,k2⟩;have bC:=k1.trans k2;obtain ⟨W3,ak⟩:∃ W3,W3=w2.alloc (.cells #[.slice na n nm,.int .u64 (nK:Nat),.slice nb n nr] 70):=⟨_,rfl⟩
 have k3:Kept af w2 W3:=by rw [ak];exact (aj af w2).alloc _
 have A:W3.heap[w2.heap.size]? = some (.cells #[.slice na n nm,.int .u64 (nK:Nat),.slice nb n nr] 70 (0,0)):=by rw [ak];exact heap_alloc_new _ _
 have Y:=bC.trans k3;have aP:=am bA Y;have q1:=(jc aP).1;have q2:=(jc aP).2;have ab:=(mN.grew k2).grew k3;have z:=am aO Y;have J3:=JS.out W3 (bd.out.trans Y);have ao:=aa Y;have bS:=aa ak;clear ak aO bA aP k1 k2 k3 bC Y mN JS;go_wp2_with (rw [<- bS.out]);refine J3.mono ?_;rintro e w4 ⟨bT,bF,rfl,C4,k4⟩;clear J3 q1 q2;have KW:=ao.out.trans k4;have s0:Wr w o [] w4 o (.pointer po) 500000000:=⟨Did.of_kept (bd.out.trans KW) bR.out,HT.out.grew KW,bv⟩
 have R0:=bQ.out.grew KW;have X0:=HX.out.grew KW;have Y0:=HY.out.grew KW;have C0:=C4;have aQ:=ab.grew k4;have bq:=am z k4;have bs:=am A k4;have bO:Hid (N<18446744073709551616^n):=aQ.facts.2.2.2;clear C4 KW k4 ab z A;go_wp2_with fail;have d1:Did w4 o [] w4.drew o:=Did.of_kept (aj af w4).drew s0.room.1;have s1:=s0.next (k:=499000000) d1 (by simp)
 have R1:=R0.did d1;have C1:=C0.did d1 s0.room.1;have X1:=X0.did d1;have Y1:=Y0.did d1;have aR:=aQ.did d1;have ax:=d1.cells bq s0.room.1 (by decide) (by decide);have aC:=d1.cells bs s0.room.1 (by decide) (by decide);clear R0 C0 X0 Y0 aQ bq bs s0 d1;refine wp_region_held_drew (S:=fun w'=>w'.heap[w.heap.size]? = some (.cells #[.slice s.no s.nl s.nc,.int .u64 (s.en:Nat),.slice s.dO s.dl s.dc,.slice s.po s.pl s.pc,.slice s.qo s.ql s.qc,.slice s.dpo s.dpl s.dpc,.slice s.dqo s.dql s.dqc,.slice s.qio s.qil s.qic] 26 (0,0))/\w'.heap[w2.heap.size]? = some (.cells #[.slice na n nm,.int .u64 (nK:Nat),.slice nb n nr] 70 (0,0))) (by kernel_rfl) (And.intro ax (aC)) (fun hS=>?_)
 refine mM (fun _ _ d _ _ h=>by cases d <;> exact h) fun Q1 a C=>?_
 refine aS a 0 (some 30) (.pointer po) hS ?_;simp only [Act.put,lsA,lsS,lsZ];refine aS a 1 (some 31) (.agg #[.slice na n nm,.int .u64 (nK:Nat),.slice nb n nr]) hS ?_ (y:=.inl ⟨by rfl,fun w h=>by simp [execOp,go_sem,(aw h.2).1,(aw h.2).2.1,(aw h.2).2.2]⟩);simp only [Act.put,lsA,lsS,lsZ];refine aS a 2 (some 32) (.slice xo n xc) hS ?_;simp only [Act.put,lsA,lsS,lsZ];refine aS a 3 (some 33) (.agg #[.slice na n nm,.int .u64 (nK:Nat),.slice nb n nr]) hS ?_ (y:=.inl ⟨by rfl,fun w h=>by simp [execOp,go_sem,(aw h.2).1,(aw h.2).2.1,(aw h.2).2.2]⟩);simp only [Act.put,lsA,lsS,lsZ];refine aS a 4 (some 34) (.slice yo n yc) hS ?_
 simp only [Act.put,lsA,lsS,lsZ];refine aS a 5 (some 35) (.pointer (some ⟨w.heap.size,1,none⟩)) hS ?_;simp only [Act.put,lsA,lsS,lsZ];refine aS a 6 (some 36) (.int .u64 (s.en:Int)) hS ?_ (y:=.inl ⟨by rfl,fun w h=>by simp [execOp,go_sem,(bH h.1).2.1]⟩);simp only [Act.put,lsA,lsS,lsZ];have c2:=xx o na nb yo n nK nm nr yc s.en Rn N _ s1.room.1 aR Y1 bm bp;refine bV 7 (some 37) 91 [.agg #[.slice na n nm,.int .u64 (nK:Nat),.slice nb n nr],.slice yo n yc,.int .u64 (s.en:Int)] (c2) ?_;rintro r b5 ⟨ue,ve,rfl,a6,k2⟩;have d2:Did w4.drew o [] b5 o:=Did.of_kept k2 s1.room.1;have s2:=s1.next (k:=498000000) d2 (by simp)
 have R2:=R1.did d2;have C2:=C1.did d2 s1.room.1;have X2:=X1.did d2;have Y2:=Y1.did d2;have aT:=aR.did d2;have H:=d2.cells ax s1.room.1 (by decide) (by decide);have J:=d2.cells aC s1.room.1 (by decide) (by decide);refine .inl ⟨_,rfl,(And.intro H (J)),?_⟩;simp only [Act.put,lsA,lsS,lsZ];clear R1 C1 X1 Y1 aR ax aC c2 s1 d2 k2;refine aS a 8 (some 38) (.slice ue n ve) (And.intro H (J)) ?_;simp only [Act.put,lsA,lsS,lsZ];refine aS a 9 (some 39) (.int .i64 0) (And.intro H (J)) ?_;simp only [Act.put,lsA,lsS,lsZ];refine bV 10 (some 40) 31 [.slice ue n ve,.int .i64 0] (gW ue n ve _) ?_;rintro r wz ⟨rfl,B⟩;obtain rfl:=B.symm
 refine .inl ⟨_,rfl,(And.intro H (J)),?_⟩;simp only [Act.put,lsA,lsS,lsZ];have c3:=Bd o na nb xo ue n nK nm nr xc ve Cn _ N _ (s2.room.less (by omega)) aT X2 hC a6 (ay _ (by omega));rw [s2.ptr] at c3;refine bV 11 (some 41) 90 [.pointer po,.agg #[.slice na n nm,.int .u64 (nK:Nat),.slice nb n nr],.slice xo n xc,.slice ue n ve] (c3) ?_;rintro r a8 ⟨ub,vb,o3,rfl,bG,d3⟩;have s3:=s2.next (k:=497000000) d3 (by have h:=jT c;omega)
 have R3:=R2.did d3;have C3:=C2.did d3 s2.room.1;have X3:=X2.did d3;have Y3:=Y2.did d3;have ab:=aT.did d3;have z:=d3.cells H s2.room.1 (by decide) (by decide);have A:=d3.cells J s2.room.1 (by decide) (by decide);have b2:=a6.did d3;refine .inl ⟨_,rfl,(And.intro z (A)),?_⟩;simp only [Act.put,lsA,lsS,lsZ];clear R2 C2 X2 Y2 aT H J a6 c3 s2 d3;clear b2;refine aS a 12 (some 42) (.slice ub n vb) (And.intro z (A)) ?_;simp only [Act.put,lsA,lsS,lsZ];refine aS a 13 (some 43) (.int .i64 0) (And.intro z (A)) ?_;simp only [Act.put,lsA,lsS,lsZ];refine bV 14 (some 44) 31 [.slice ub n vb,.int .i64 0] (gW ub n vb _) ?_;rintro r wz ⟨rfl,B⟩
 obtain rfl:=B.symm;refine .inl ⟨_,rfl,(And.intro z (A)),?_⟩;simp only [Act.put,lsA,lsS,lsZ];refine aS a 15 (some 14) (.slice ub n vb) (And.intro z (A)) ?_;simp only [Act.put,lsA,lsS,lsZ];refine wpAnyH_done (by kernel_rfl) ?_ _;refine C.out _ _ ?_;go_wp2_with fail;have d4:Did a8 o3 [] a8.drew o3:=Did.of_kept (aj af a8).drew s3.room.1;have s4:=s3.next (k:=496000000) d4 (by simp)
 have R4:=R3.did d4;have C4:=C3.did d4 s3.room.1;have X4:=X3.did d4;have Y4:=Y3.did d4;have bD:=ab.did d4;have az:=d4.cells z s3.room.1 (by decide) (by decide);have aD:=d4.cells A s3.room.1 (by decide) (by decide);have aY:=bG.did d4;clear R3 C3 X3 Y3 ab z A bG s3 d4
 refine wp_region_held_drew (S:=fun w'=>w'.heap[w.heap.size]? = some (.cells #[.slice s.no s.nl s.nc,.int .u64 (s.en:Nat),.slice s.dO s.dl s.dc,.slice s.po s.pl s.pc,.slice s.qo s.ql s.qc,.slice s.dpo s.dpl s.dpc,.slice s.dqo s.dql s.dqc,.slice s.qio s.qil s.qic] 26 (0,0))/\w'.heap[w2.heap.size]? = some (.cells #[.slice na n nm,.int .u64 (nK:Nat),.slice nb n nr] 70 (0,0))) (by kernel_rfl) (And.intro az (aD)) (fun hS=>?_);clear a C;refine mM (fun _ _ d _ _ h=>by cases d <;> exact h) fun Q1 a C=>?_
 refine aS a 0 (some 45) (.func (.func 140) #[] #[.pointer (some ⟨bT,0,none⟩),.pointer (some ⟨bF,0,none⟩)]) hS ?_;simp only [Act.put,lsA,lsS,lsZ];refine aS a 1 (some 46) (.agg #[.slice na n nm,.int .u64 (nK:Nat),.slice nb n nr]) hS ?_ (y:=.inl ⟨by rfl,fun w h=>by simp [execOp,go_sem,(aw h.2).1,(aw h.2).2.1,(aw h.2).2.2]⟩);simp only [Act.put,lsA,lsS,lsZ];refine aS a 2 (some 47) (.pointer po) hS ?_;simp only [Act.put,lsA,lsS,lsZ]
 refine aS a 3 (some 48) (.agg #[.slice s.no s.nl s.nc,.int .u64 (s.en:Nat),.slice s.dO s.dl s.dc,.slice s.po s.pl s.pc,.slice s.qo s.ql s.qc,.slice s.dpo s.dpl s.dpc,.slice s.dqo s.dql s.dqc,.slice s.qio s.qil s.qic]) hS ?_ (y:=.inl ⟨by rfl,fun w h=>by simp [execOp,go_sem,(bH h.1).1,(bH h.1).2.1,(bH h.1).2.2.1,(bH h.1).2.2.2.1,(bH h.1).2.2.2.2.1,(bH h.1).2.2.2.2.2.1,(bH h.1).2.2.2.2.2.2.1,(bH h.1).2.2.2.2.2.2.2]⟩);simp only [Act.put,lsA,lsS,lsZ];refine aS a 4 (some 49) (.slice ub n vb) hS ?_;simp only [Act.put,lsA,lsS,lsZ];refine aS a 5 (some 50) (.func (.func 140) #[] #[.pointer (some ⟨bT,0,none⟩),.pointer (some ⟨bF,0,none⟩)]) hS ?_
 simp only [Act.put,lsA,lsS,lsZ];have c5:=an.out o3 bT bF ub vb _ _ (s4.room.less (by omega)) R4 (by rw [s4.ptr];exact C4) aY (by rw [bP.out];exact bO.out);rw [s4.ptr] at c5;refine bV 6 (some 51) 92 [.pointer po,.agg #[.slice s.no s.nl s.nc,.int .u64 (s.en:Nat),.slice s.dO s.dl s.dc,.slice s.po s.pl s.pc,.slice s.qo s.ql s.qc,.slice s.dpo s.dpl s.dpc,.slice s.dqo s.dql s.dqc,.slice s.qio s.qil s.qic],.slice ub n vb,.func (.func 140) #[] #[.pointer (some ⟨bT,0,none⟩),.pointer (some ⟨bF,0,none⟩)]] (c5) ?_;rintro r ci ⟨uh,vh,o5,rfl,aZ,d5⟩;have s5:=s4.next (k:=360000000) d5 (by have h:=qx (n:=n) aI aM R T;omega)
 have R5:=R4.did d5;have C5:=C4.did d5 s4.room.1;have X5:=X4.did d5;have Y5:=Y4.did d5;have aU:=bD.did d5;have aA:=d5.cells az s4.room.1 (by decide) (by decide);have aE:=d5.cells aD s4.room.1 (by decide) (by decide);have bZ:=aY.did d5;refine .inl ⟨_,rfl,(And.intro aA (aE)),?_⟩;simp only [Act.put,lsA,lsS,lsZ];clear R4 C4 X4 Y4 bD az aD aY c5 s4 d5;clear bZ;have c6:=mY 3 (by omega) (by omega) o5 bT bF at_ av na nb uh fo n nK nm nr vh fl fc _ N fs _ (s5.room.less (by omega)) aU aZ (by rw [s5.ptr];exact C5.t) C5.f R5.f gf
 refine vF 7 (some 52) (by kernel_rfl) rfl rfl (by rfl) 140 45 _ _ _ [.int .i64 (3:Nat),.agg #[.slice na n nm,.int .u64 (nK:Nat),.slice nb n nr],.slice uh n vh] rfl rfl rfl (fun _ _=>by simp [go_sem]) c6 ?_;rintro r cj ⟨uz,vz,o6,rfl,bJ,d6⟩;have s6:=s5.next (k:=359000000) d6 (by have h:=iV n;omega)
 have R6:=R5.did d6;have C6:=C5.did d6 s5.room.1;have X6:=X5.did d6;have Y6:=Y5.did d6;have aV:=aU.did d6;have al:=d6.cells aA s5.room.1 (by decide) (by decide);have X:=d6.cells aE s5.room.1 (by decide) (by decide);have b1:=aZ.did d6;refine ⟨_,rfl,(And.intro al (X)),?_⟩;simp only [Act.put,lsA,lsS,lsZ];clear R5 C5 X5 Y5 aU aA aE aZ c6 s5 d6;clear b1;refine aS a 8 (some 15) (.slice uz n vz) (And.intro al (X)) ?_;simp only [Act.put,lsA,lsS,lsZ];refine wpAnyH_done (by kernel_rfl) ?_ _;refine C.out _ _ ?_;obtain ⟨p0,p1,p2⟩:=aw X;have c7:=Hs o6 na nb yo n nK nm nr yc Rn N _ (s6.room.less (by omega)) aV Y6 bm HG.out;rw [s6.ptr] at c7;go_wp2_with fail
 refine c7.mono ?_;rintro e a9 ⟨ui,vi,Tn,o7,rfl,bn,bI,d7⟩;have s7:=s6.next (k:=358000000) d7 (by have h:=nG c;omega)
 have R7:=R6.did d7;have C7:=C6.did d7 s6.room.1;have X7:=X6.did d7;have Y7:=Y6.did d7;have bE:=aV.did d7;have br:=d7.cells al s6.room.1 (by decide) (by decide);have bt:=d7.cells X s6.room.1 (by decide) (by decide);have bK:=bJ.did d7;clear R6 C6 X6 Y6 aV al X bJ c7 s6 d7 p0 p1 p2;go_wp2_with fail;have d8:Did a9 o7 [] a9.drew o7:=Did.of_kept (aj af a9).drew s7.room.1;have s8:=s7.next (k:=357000000) d8 (by simp)
 have R8:=R7.did d8;have C8:=C7.did d8 s7.room.1;have X8:=X7.did d8;have Y8:=Y7.did d8;have aW:=bE.did d8;have aB:=d8.cells br s7.room.1 (by decide) (by decide);have aF:=d8.cells bt s7.room.1 (by decide) (by decide);have a5:=bK.did d8;have a0:=bI.did d8;clear R7 C7 X7 Y7 bE br bt bK bI s7 d8
 refine wp_region_held_drew (S:=fun w'=>w'.heap[w.heap.size]? = some (.cells #[.slice s.no s.nl s.nc,.int .u64 (s.en:Nat),.slice s.dO s.dl s.dc,.slice s.po s.pl s.pc,.slice s.qo s.ql s.qc,.slice s.dpo s.dpl s.dpc,.slice s.dqo s.dql s.dqc,.slice s.qio s.qil s.qic] 26 (0,0))/\w'.heap[w2.heap.size]? = some (.cells #[.slice na n nm,.int .u64 (nK:Nat),.slice nb n nr] 70 (0,0))) (by kernel_rfl) (And.intro aB (aF)) (fun hS=>?_);clear a C;refine mM (fun _ _ d _ _ h=>by cases d <;> exact h) fun Q1 a C=>?_
 refine aS a 0 (some 61) (.func (.func 140) #[] #[.pointer (some ⟨bT,0,none⟩),.pointer (some ⟨bF,0,none⟩)]) hS ?_;simp only [Act.put,lsA,lsS,lsZ];refine aS a 1 (some 62) (.agg #[.slice na n nm,.int .u64 (nK:Nat),.slice nb n nr]) hS ?_ (y:=.inl ⟨by rfl,fun w h=>by simp [execOp,go_sem,(aw h.2).1,(aw h.2).2.1,(aw h.2).2.2]⟩);simp only [Act.put,lsA,lsS,lsZ];refine aS a 2 (some 63) (.pointer po) hS ?_;simp only [Act.put,lsA,lsS,lsZ];refine aS a 3 (some 64) (.agg #[.slice na n nm,.int .u64 (nK:Nat),.slice nb n nr]) hS ?_ (y:=.inl ⟨by rfl,fun w h=>by simp [execOp,go_sem,(aw h.2).1,(aw h.2).2.1,(aw h.2).2.2]⟩);simp only [Act.put,lsA,lsS,lsZ]
 refine aS a 4 (some 65) (.slice uz n vz) hS ?_;simp only [Act.put,lsA,lsS,lsZ];refine aS a 5 (some 66) (.slice ui n vi) hS ?_;simp only [Act.put,lsA,lsS,lsZ];refine aS a 6 (some 67) (.int .i64 0) hS ?_;simp only [Act.put,lsA,lsS,lsZ];refine bV 7 (some 68) 31 [.slice ui n vi,.int .i64 0] (gW ui n vi _) ?_;rintro r wz ⟨rfl,B⟩;rw [B];clear B;refine .inl ⟨_,rfl,hS,?_⟩;simp only [Act.put,lsA,lsS,lsZ];have c9:=Bd o7 na nb uz ui n nK nm nr vz vi _ Tn N _ (s8.room.less (by omega)) aW a5 (lK (by omega)) a0 bn.1;rw [s8.ptr] at c9
 refine bV 8 (some 69) 90 [.pointer po,.agg #[.slice na n nm,.int .u64 (nK:Nat),.slice nb n nr],.slice uz n vz,.slice ui n vi] (c9) ?_;rintro r ck ⟨um,vm,o9,rfl,a2,d9⟩;have s9:=s8.next (k:=356000000) d9 (by have h:=jT c;omega)
 have R9:=R8.did d9;have C9:=C8.did d9 s8.room.1;have X9:=X8.did d9;have Y9:=Y8.did d9;have aX:=aW.did d9;have I:=d9.cells aB s8.room.1 (by decide) (by decide);have L:=d9.cells aF s8.room.1 (by decide) (by decide);have ch:=a5.did d9;have cg:=a0.did d9;refine .inl ⟨_,rfl,(And.intro I (L)),?_⟩;simp only [Act.put,lsA,lsS,lsZ];clear R8 C8 X8 Y8 aW aB aF a5 a0 c9 s8 d9;refine aS a 9 (some 70) (.slice um n vm) (And.intro I (L)) ?_;simp only [Act.put,lsA,lsS,lsZ];refine aS a 10 (some 71) (.int .i64 0) (And.intro I (L)) ?_;simp only [Act.put,lsA,lsS,lsZ];refine bV 11 (some 72) 31 [.slice um n vm,.int .i64 0] (gW um n vm _) ?_;rintro r wz ⟨rfl,B⟩
 obtain rfl:=B.symm;refine .inl ⟨_,rfl,(And.intro I (L)),?_⟩;simp only [Act.put,lsA,lsS,lsZ];have bj:=mY 4 (by omega) (by omega) o9 bT bF at_ av na nb um fo n nK nm nr vm fl fc _ N fs _ (s9.room.less (by omega)) aX a2 (by rw [s9.ptr];exact C9.t) C9.f R9.f gf;refine vF 12 (some 73) (by kernel_rfl) rfl rfl (by rfl) 140 61 _ _ _ [.int .i64 (4:Nat),.agg #[.slice na n nm,.int .u64 (nK:Nat),.slice nb n nr],.slice um n vm] rfl rfl rfl (fun _ _=>by simp [go_sem]) bj ?_;rintro r bL ⟨uo,vo,ad,rfl,g,v⟩;have F:=s9.next (k:=355000000) v (by have h:=iV n;omega)
 have be:=R9.did v;have ba:=C9.did v s9.room.1;have bg:=X9.did v;have bh:=Y9.did v;have D:=aX.did v;have j:=v.cells I s9.room.1 (by decide) (by decide);have m:=v.cells L s9.room.1 (by decide) (by decide);have a1:=a2.did v;refine ⟨_,rfl,(And.intro j (m)),?_⟩;simp only [Act.put,lsA,lsS,lsZ];clear R9 C9 X9 Y9 aX I L a2 bj s9 v;clear a1;refine aS a 13 (some 19) (.slice uo n vo) (And.intro j (m)) ?_;simp only [Act.put,lsA,lsS,lsZ];refine wpAnyH_done (by kernel_rfl) ?_ _;refine C.out _ _ ?_
 replace g:NumT bL ad (.slice uo n vo) n (tX at_ fs (Cn*(Rn^s.en%N)%N) Tn N P Q (val l.dp) (val l.dq) (val l.qi) n nP nQ):=g
 have O:tX at_ fs (Cn*(Rn^s.en%N)%N) Tn N P Q (val l.dp) (val l.dq) (val l.qi) n nP nQ<N:=lK (by omega);obtain ⟨M,hM⟩:∃ M,M=tX at_ fs (Cn*(Rn^s.en%N)%N) Tn N P Q (val l.dp) (val l.dq) (val l.qi) n nP nQ:=⟨_,rfl⟩
 rw [<- hM] at g O;have bN:=aa hM;clear hM;obtain ⟨p0,p1,p2⟩:=aw m;obtain ⟨-,r1,-⟩:=bH j;have bk:=xx ad na nb uo n nK nm nr vo s.en M N _ F.room.1 D g O bp;go_wp2_with fail;refine bk.mono ?_;rintro e b6 ⟨uc,vc,rfl,E,bB⟩;have x:Did bL ad [] b6 ad:=Did.of_kept bB F.room.1;have G:=F.next (k:=354000000) x (by simp)
 have bf:=be.did x;have bb:=ba.did x F.room.1;have ap:=bg.did x;have bi:=bh.did x;have Z:=D.did x;have U:=x.cells j F.room.1 (by decide) (by decide);have V:=x.cells m F.room.1 (by decide) (by decide);have ac:=g.did x;clear be ba bg bh D j m g bk F x bB p0 p1 p2 r1;go_wp2_with fail;refine (gW uc n vc _).mono ?_;rintro e wz ⟨rfl,B⟩;obtain rfl:=B.symm;have ae:=Hp ad _ _ n n _ Cn _ (G.room.less (by omega)) E ap (by omega) (by omega);rw [G.ptr] at ae;obtain ⟨b,hb⟩:∃ b,b=cY (decide (M^s.en%N=Cn)):=⟨_,rfl⟩
 have cf:b<=1:=by rw [hb];exact pB _
 rw [<- hb] at ae;have bM:=aa hb;clear hb;go_wp2_with fail;refine ae.mono ?_;rintro e cl ⟨rfl,b3,i⟩;have a7:=G.next (k:=353000000) i (by simp)
 have b9:=bf.did i;have b7:=bb.did i G.room.1;have ca:=ap.did i;have cb:=bi.did i;have bY:=Z.did i;have bW:=i.cells U G.room.1 (by decide) (by decide);have bX:=i.cells V G.room.1 (by decide) (by decide);have a3:=ac.did i;have b0:=E.did i;clear bf bb ap bi Z U V ac E ae G i;have aq:=FF b3 b n M (by omega) _ _ (a7.room.less (by omega)) a3 (by omega);rw [a7.ptr] at aq;go_wp2_with fail;refine aq.mono ?_;rintro e cm ⟨us,vs,b4,rfl,a4,bU⟩;have sz:=a7.next (k:=10) bU (by simp)
 clear aq;go_wp2_with fail;go_ret2;refine ⟨us,vs,Tn,b,M,b4,rfl,bn,bN.out,bM.out,a4,?_⟩;have h:=sz.did;simp only [oS,dr,bw,dI] at h ⊢;exact h

def VPriT:Prop:=∃ F:Nat->Nat->Nat->Nat->List Ev,(∀ a b c e,0<(F a b c e).length)/\∀ (o:Tr) (s:KS) (l:KL) (co:Option Addr) (cl cc:Nat) (cs:List Nat) (p:Option Addr) (B:Nat) (bs:List Nat) (at_:Int) (fo:Option Addr) (fl fc:Nat) (fs:List Nat) (w:World),TrRoom w o 1000000000->s.en<18446744073709551616->(∀ v zs,(v,zs) ∈ [(Value.slice s.no s.nl s.nc,l.n),(.slice s.dO s.dl s.dc,l.d),(.slice s.po s.pl s.pc,l.p),(.slice s.qo s.ql s.qc,l.q),(.slice s.dpo s.dpl s.dpc,l.dp),(.slice s.dqo s.dql s.dqc,l.dq),(.slice s.qio s.qil s.qic,l.qi),(.slice fo fl fc,fs)]->RowT w o v zs)->l.Digs->s.light->Row .u8 w (.slice co cl cc) cs->Digs cs 256->cl<=10000->Lsc w p B bs->B<=w.heap.size->Digs bs 256->bs.length<=10000->Digs fs->fl<=1000->AtOk at_ ->
 Calls prog 19 #[aL o,.agg s.v,.slice co cl cc,.pointer p,.agg #[.int .i64 at_,.slice fo fl fc]] w fun q w'=>∃ v' E,q=.returned (.tuple #[v',.int .i64 ((E:Nat):Int)])/\∃ RL rest m,PrvL l.n l.d l.p l.q l.dp l.dq l.qi s.en at_ fs cs bs E RL rest/\(Row .u8 w' v' RL/\∀ b,v'.ownBlock=some b->w.heap.size<=b)/\m.length<=1000000000/\((E=0\/E=220)->m=F (ar (val l.n)) (ar (val l.p)) (ar (val l.q)) s.en)/\∃ w1 o',Kept (ofP p) w w1/\Did w1 o m w' o'

theorem yv {Q:Value->List Nat->Prop} {a0 a1 a2 a3 a4 a5 a6 a7:Value} {l0 l1 l2 l3 l4 l5 l6 l7:List Nat} (h0:Q a0 l0) (h1:Q a1 l1) (h2:Q a2 l2) (h3:Q a3 l3) (h4:Q a4 l4) (h5:Q a5 l5) (h6:Q a6 l6) (h7:Q a7 l7):∀ v zs,(v,zs) ∈ [(a0,l0),(a1,l1),(a2,l2),(a3,l3),(a4,l4),(a5,l5),(a6,l6),(a7,l7)]->Q v zs:=by
 intro v zs h;simp only [fC,fi,List.not_mem_nil,or_false] at h;rcases h with ⟨rfl,rfl⟩ | ⟨rfl,rfl⟩ | ⟨rfl,rfl⟩ | ⟨rfl,rfl⟩ | ⟨rfl,rfl⟩ | ⟨rfl,rfl⟩ | ⟨rfl,rfl⟩ | ⟨rfl,rfl⟩ <;> assumption

theorem VPriT.plain (h:VPriT):Gp:=by
 obtain ⟨F,_,h⟩:=h;intro s l co cl cc cs p B bs at_ fo fl fc fs w he hr hd hl hc g i hs hB c e hf gf j b;refine (h none s l co cl cc cs p B bs at_ fo fl fc fs w (TrRoom.none w _ (by omega)) he (yv (.none hr.n) (.none hr.d) (.none hr.p) (.none hr.q) (.none hr.dp) (.none hr.dq) (.none hr.qi) (.none hf)) hd hl hc g i hs hB c e gf j b).mono ?_;rintro q w' ⟨v',E,rfl,RL,rest,m,hp,a,_,_,w1,o',k1,d⟩;exact ⟨v',E,rfl,RL,rest,hp,a,k1.next d.1 (fun x hx f=>f.elim)⟩

theorem yG {w:World} {p:Option Addr} {B:Nat} {bs:List Nat} (h:Lsc w p B bs):∀ o,TrIn w o->∀ x,cN o x->¬ ofP p x:=by
 intro o ht x hf hp;rcases h with ⟨rfl,_⟩ | ⟨b,v,ps,k,rfl,_,hb,_⟩
 ·simp [ofP] at hp
 ·have e:=pA hp;subst e;exact aI hb ht (by decide) (by decide) hf

def DidS (S:Nat->Prop) (w:World) (o:Tr) (m:List Ev) (w':World) (o':Tr):Prop:=
 Kept (fun x=>S x\/cN o x) w w'/\((o=none/\o'=none)\/∃ p g l g',o=some (p,g,l)/\o'=some (p,g',l ++ m)/\IsTr w' p g' (l ++ m)/\(g'=g\/∃ x,g'=some x/\w.heap.size<=x))

theorem DidS.of {S:Nat->Prop} {w w1 w':World} {o o':Tr} {m:List Ev} (k:Kept S w w1) (d:Did w1 o m w' o'):DidS S w o m w' o':=by
 refine ⟨(k.mono (fun x _ h=>.inl h)).trans (d.1.mono (fun x _ h=>.inr h)),?_⟩;rcases d.2 with h1 | ⟨p,g,l,g',e1,e2,ht,hg⟩
 ·exact .inl h1
 ·refine .inr ⟨p,g,l,g',e1,e2,ht,?_⟩;rcases hg with hg | ⟨x,e,hx⟩
  ·exact .inl hg
  ·exact .inr ⟨x,e,aR k.size hx⟩

theorem DidS.grew {S:Nat->Prop} {w w' w2:World} {o o':Tr} {m:List Ev} (h:DidS S w o m w' o') (k:Kept af w' w2):DidS S w o m w2 o':=by
 refine ⟨h.1.trans k.any,?_⟩;rcases h.2 with h1 | ⟨p,g,l,g',e1,e2,ht,hg⟩
 ·exact .inl h1
 ·exact .inr ⟨p,g,l,g',e1,e2,ht.grew k,hg⟩

theorem DidS.put {S:Nat->Prop} {w w' w2:World} {o o':Tr} {m:List Ev} {b:Nat} (h:DidS S w o m w' o') (k:Kept (fun x=>x=b) w' w2) (hb:b<w.heap.size->S b) (hf:¬ cN o' b):DidS S w o m w2 o':=by
 refine ⟨h.1.next k (fun x hx e=>.inl (by have e':x=b:=e;subst e';exact hb hx)),?_⟩;rcases h.2 with h1 | ⟨p,g,l,g',e1,e2,ht,hg⟩
 ·exact .inl h1
 ·subst e2;exact .inr ⟨p,g,l,g',e1,rfl,ht.kept k (fun e=>hf (.inl e.symm)) (fun x hx e=>hf (.inr (by rw [<- e];exact hx))),hg⟩

theorem DidS.after {S T:Nat->Prop} {a w w':World} {o o':Tr} {m:List Ev} (k:Kept af a w) (h:DidS T w o m w' o') (hT:∀ x,x<a.heap.size->T x->S x):DidS S a o m w' o':=by
 refine ⟨(k.any:Kept (fun x=>S x\/cN o x) a w).next h.1 (fun x hx e=>e.imp (hT x hx) id),?_⟩;rcases h.2 with h1 | ⟨p,g,l,g',e1,e2,ht,hg⟩
 ·exact .inl h1
 ·refine .inr ⟨p,g,l,g',e1,e2,ht,?_⟩;rcases hg with hg | ⟨x,e,hx⟩
  ·exact .inl hg
  ·exact .inr ⟨x,e,aR k.size hx⟩

theorem DidS.trIn {S:Nat->Prop} {w w':World} {o o':Tr} {m:List Ev} {k:Nat} (h:DidS S w o m w' o') (hr:TrRoom w o k) (hm:m.length<=k):TrIn w' o':=by
 rcases h.2 with ⟨_,rfl⟩ | ⟨p,g,l,g',rfl,rfl,ht,_⟩
 ·trivial
 ·have h2:=hr.2;simp only [ol] at h2;exact ⟨ht,by rw [aZ];omega⟩

theorem DidS.split {p:Option Addr} {w w':World} {o o':Tr} {m:List Ev} (h:DidS (ofP p) w o m w' o') (hp:∀ x,ofP p x->x<w.heap.size):∃ w1 o2,Kept (ofP p) w w1/\Did w1 o m w' o2:=by
 cases p with
 | none=>exact ⟨w,o',aj _ _,h.1.mono (fun x _ e=>e.elim (fun f=>by simp [ofP] at f) id),h.2⟩
 | some a=>
  have hb:a.block<w.heap.size:=hp _ (by simp [ofP]);have b:a.block<w'.heap.size:=bd hb h.1.size;refine ⟨{ w with heap:=w.heap.setIfInBounds a.block (w'.heap[a.block]'b) },o',⟨rfl,rfl,rfl,?_,?_⟩,⟨h.1.os,h.1.tape,h.1.output,?_,?_⟩,?_⟩
  ·simp
  ·intro k hk hn;have c:a.block≠k:=fun e=>hn (by subst e;simp [ofP])
   simp [Array.getElem?_setIfInBounds_ne c]
  ·simpa using h.1.size
  ·intro k hk hn;by_cases e:a.block=k
   ·subst e;simp [hb,b]
   ·rw [h.1.block k (by simpa using hk) (fun f=>f.elim (fun f=>e (by simpa [ofP] using f)) hn)];simp [Array.getElem?_setIfInBounds_ne e]
  ·simpa using h.2

theorem TrIn.script {w w':World} {o:Tr} {p:Option Addr} {B:Nat} {bs:List Nat} (ht:TrIn w o) (h:Lsc w p B bs) (k:Kept (ofP p) w w'):TrIn w' o:=by
 have ha:=yG h o ht;cases o with
 | none=>trivial
 | some x=>
  obtain ⟨a,g,l⟩:=x;exact ⟨ht.1.kept k (ha a (.inl rfl)) (fun y hy=>ha y (.inr hy)),ht.2⟩

theorem RowT.script {w w':World} {o:Tr} {v:Value} {xs:List Nat} {p:Option Addr} {B:Nat} {bs:List Nat} (hv:RowT w o v xs) (h:Lsc w p B bs) (k:Kept (ofP p) w w'):RowT w' o v xs:=⟨kF h hv.1 k,hv.2⟩

theorem KRows.script {w w':World} {o:Tr} {s:KS} {l:KL} {fo:Option Addr} {fl fc:Nat} {fs:List Nat} {p:Option Addr} {B:Nat} {bs:List Nat} (r:KRows w o s l fo fl fc fs) (h:Lsc w p B bs) (k:Kept (ofP p) w w'):KRows w' o s l fo fl fc fs:=⟨r.n.script h k,r.d.script h k,r.p.script h k,r.q.script h k,r.dp.script h k,r.dq.script h k,r.qi.script h k,r.f.script h k⟩

theorem tS (n:Nat):bes 0 n n=List.replicate n 0:=by
 refine List.ext_getElem? fun j=>?_
 by_cases h:j<n
 ·rw [oP _ _ _ _ h,ee,ah h];simp [dig]
 ·rw [gF (by rw [cV];omega),gF (by simp;omega)]

theorem Fe {l k f i b c a:List Nat} {e:Nat} (h:KeyGood l k f i b c a e):val a<val f:=by
 obtain ⟨-,d,u,-,-,j,-,-,-,-,-,-,-,g⟩:=h;generalize val f=P at *;generalize val i=Q at *;rw [g,aB,ax (bd j (fE ((aG P _).1 (Nat.le_max_left _ _))))];exact j

theorem yU {l:KL} {e:Nat} {at_:Int} {fs cs bs r1 rest:List Nat} {k T M n:Nat} (hg:KeyGood l.n l.d l.p l.q l.dp l.dq l.qi e) (a:jq (val l.n) cs=0) (hb:nh l.n bs=(r1,k,0,rest)) (hn:l.n.length=n) (hT:T<(val l.n)/\val r1*T%(val l.n)=1)
  (hM:M=tX at_ fs (bev cs*(val r1^e%(val l.n))%(val l.n)) T (val l.n) (val l.p) (val l.q) (val l.dp) (val l.dq) (val l.qi) n (ar (val l.p)) (ar (val l.q))) :
  (M^e%(val l.n)=bev cs->PrvL l.n l.d l.p l.q l.dp l.dq l.qi e at_ fs cs bs 0 (bes M cs.length cs.length) rest)/\(M^e%(val l.n)≠bev cs->PrvL l.n l.d l.p l.q l.dp l.dq l.qi e at_ fs cs bs 220 (List.replicate cs.length 0) rest):=by
 have hf:=hg.facts;have h1:=hf.2.1.1;have h2:=hf.2.2.1.1;rw [Ab (by omega) (by omega) hf.1.symm,<- hn] at hM;exact ⟨fun h=>.inr (.inr ⟨hg,a,r1,k,0,hb,.inr ⟨rfl,T,hT.1,hT.2,M,hM,.inr ⟨h,rfl,rfl⟩⟩⟩),fun h=>.inr (.inr ⟨hg,a,r1,k,0,hb,.inr ⟨rfl,T,hT.1,hT.2,M,hM,.inl ⟨h,rfl,rfl⟩⟩⟩)⟩

def mB (n nP nQ _e:Nat):List Ev:=oS n nP nQ (max nP nQ) (max nP nQ)

theorem x9 {n nP nQ e:Nat} (hn:n<=130) (hP:nP<=130) (hQ:nQ<=130):(mB n nP nQ e).length<=1000000000:=by
 have a1:=jT hn;have a2:=qx (n:=n) (nP:=nP) (nQ:=nQ) (LP:=max nP nQ) (LQ:=max nP nQ) hP hQ (by omega) (by omega);have a3:=iV n;have a4:=nG hn;unfold mB oS;simp only [aZ,cI,eS];omega

def ApEnd (bO:Nat) (o:Tr) (l:KL) (e:Nat) (at_:Int) (fs cs bs:List Nat) (p:Option Addr) (w:World) (r:Ending) (w':World):Prop:=∃ E RL rest m o',PrvL l.n l.d l.p l.q l.dp l.dq l.qi e at_ fs cs bs E RL rest/\((E=0\/E=220)->m=mB (ar (val l.n)) (ar (val l.p)) (ar (val l.q)) e)/\m.length<=1000000000/\(∃ v,Box w' bO v 27/\Row .u8 w' v RL/\Fresh w v)/\DidS (fun x=>ofP p x\/x=bO) w o m w' o'/\((E=0/\r=.returned (.tuple #[]))\/(E≠0/\r=.panicked [refusal (E:Nat)]))

theorem ApEnd.no {bO:Nat} {o:Tr} {l:KL} {e:Nat} {at_:Int} {fs cs bs rest:List Nat} {p:Option Addr} {w w':World} {E:Nat} (h:PrvL l.n l.d l.p l.q l.dp l.dq l.qi e at_ fs cs bs E [] rest) (h0:E≠0) (h2:E≠220) (hO:Box w' bO (.slice none 0 0) 27) (d:DidS (fun x=>ofP p x\/x=bO) w o [] w' o):ApEnd bO o l e at_ fs cs bs p w (.panicked [refusal (E:Nat)]) w':=
 ⟨E,[],rest,[],o,h,fun h=>by omega,by simp,⟨_,hO,Row.nil _ _,fun b hb=>by simp [Value.ownBlock] at hb⟩,d,.inr ⟨h0,rfl⟩⟩

theorem FD (bK bC bS bT bF bO:Nat) (o:Tr) (s:KS) (l:KL) (co:Option Addr) (cl cc:Nat) (cs:List Nat) (p:Option Addr) (B:Nat) (bs:List Nat) (at_:Int) (fo:Option Addr) (fl fc:Nat) (fs:List Nat) (w:World) (ht:TrRoom w o 1000000000) (he:s.en<18446744073709551616) (hR:KRows w o s l fo fl fc fs) (hd:l.Digs) (hl:s.light) (hc:Row .u8 w (.slice co cl cc) cs) (F:Digs cs 256) (h:Lsc w p B bs) (hB:B<=w.heap.size) (O:Digs bs 256) (P:bs.length<=10000) (gf:Digs fs) (N:AtOk at_)
  (xK:w.heap[bK]? = some (.cells #[.slice s.no s.nl s.nc,.int .u64 (s.en:Nat),.slice s.dO s.dl s.dc,.slice s.po s.pl s.pc,.slice s.qo s.ql s.qc,.slice s.dpo s.dpl s.dpc,.slice s.dqo s.dql s.dqc,.slice s.qio s.qil s.qic] 26 (0,0))) (xC:Box w bC (.slice co cl cc) 27) (xS:Box w bS (.pointer p) 39) (xT:Box w bT (aL o) 53) (xF:w.heap[bF]? = some (.cells #[.int .i64 at_,.slice fo fl fc] 31 (0,0))) (xO:Box w bO (.slice none 0 0) 27) (Q:∀ x,ofP p x->x≠bK/\x≠bC/\x≠bT/\x≠bF/\x≠bO) :
  Calls prog 49 #[.pointer (some ⟨bK,0,none⟩),.pointer (some ⟨bC,0,none⟩),.pointer (some ⟨bS,0,none⟩),.pointer (some ⟨bT,0,none⟩),.pointer (some ⟨bF,0,none⟩),.pointer (some ⟨bO,0,none⟩)] w fun r w'=>ApEnd bO o l s.en at_ fs cs bs p w r w':=by
 obtain ⟨_,_,_,e1,z,-,-,-,-⟩:=hc.open;cases e1
 have hr:s.Rows w l:=⟨hR.n.1,hR.d.1,hR.p.1,hR.q.1,hR.dp.1,hR.dq.1,hR.qi.1⟩
 obtain ⟨q0,q1,q2,q3,q4,q5,q6,q7⟩:=bH xK;have c0:=xC.cell;have dd:∀ {w1:World},Kept af w w1->DidS (fun x=>ofP p x\/x=bO) w o [] w1 o:=fun k=>DidS.of (aj _ _) (Did.of_kept k ht.1)
 by_cases hg:KeyGood l.n l.d l.p l.q l.dp l.dq l.qi s.en
 case neg=>
  have J1:=uS s l co cl cc cs w hr hd hl hc hg;have HP:Hid (PrvL l.n l.d l.p l.q l.dp l.dq l.qi s.en at_ fs cs bs 190 [] bs):=.inl ⟨hg,rfl,rfl,rfl⟩;have a:=aa fun w1 (k:Kept af w w1)=>ApEnd.no (w:=w) (p:=p) HP.out (by decide) (by decide) (xO.grew k) (dd k)
  clear ht he hR hd hl hc F h hB O P gf N xK xC xS xT xF xO Q hr hg z dd;go_enter func49,ntmps49;go_wp2_with fail;refine J1.mono ?_;rintro e w1 ⟨rfl,k1⟩;exact ⟨rfl,a.out w1 k1⟩
 by_cases hlen:cs.length=fw (val l.n)
 case neg=>
  have J1:=FA s l co cl cc cs w hr hd hl hc hg hlen;have HP:Hid (PrvL l.n l.d l.p l.q l.dp l.dq l.qi s.en at_ fs cs bs 1 [] bs):=.inr (.inl ⟨hg,by unfold jq;rw [ai (fun h=>hlen h.1)],rfl,rfl,rfl⟩);have a:=aa fun w1 (k:Kept af w w1)=>ApEnd.no (w:=w) (p:=p) HP.out (by decide) (by decide) (xO.grew k) (dd k)
  clear ht he hR hd hl hc F h hB O P gf N xK xC xS xT xF xO Q hr hg z dd hlen;go_enter func49,ntmps49;go_wp2_with fail;refine J1.mono ?_;rintro e w1 ⟨rfl,k1⟩;exact ⟨rfl,a.out w1 k1⟩
 by_cases hlt:bev cs<(val l.n)
 case neg=>
  have J1:=FB s l co cl cc cs w hr hd hl hc F hg hlen hlt;have HP:Hid (PrvL l.n l.d l.p l.q l.dp l.dq l.qi s.en at_ fs cs bs 1 [] bs):=.inr (.inl ⟨hg,by unfold jq;rw [ai (fun h=>hlt h.2)],rfl,rfl,rfl⟩);have a:=aa fun w1 (k:Kept af w w1)=>ApEnd.no (w:=w) (p:=p) HP.out (by decide) (by decide) (xO.grew k) (dd k)
  clear ht he hR hd hl hc F h hB O P gf N xK xC xS xT xF xO Q hr hg z dd hlen hlt;go_enter func49,ntmps49;go_wp2_with fail;refine J1.mono ?_;rintro e w1 ⟨rfl,k1⟩;exact ⟨rfl,a.out w1 k1⟩
 have J1:=FC s l co cl cc cs w hr hd hl hc F hg hlen hlt;have m:jq (val l.n) cs=0:=by unfold jq;rw [ah ⟨hlen,hlt⟩]
 obtain ⟨_,_,_,e1,L,-,-,-,-⟩:=hr.n.open;cases e1
 obtain ⟨_,_,_,e1,an,-,-,-,-⟩:=hr.p.open;cases e1
 obtain ⟨_,_,_,e1,ao,-,-,-,-⟩:=hr.q.open;cases e1
 obtain ⟨_,_,_,e1,A,-,-,-,-⟩:=hr.dp.open;cases e1
 obtain ⟨_,_,_,e1,C,-,-,-,-⟩:=hr.dq.open;cases e1
 obtain ⟨V,ag,aq,au,G,H,ap,ad,ae⟩:=rC hg L.out hl.1;have av:=(dm ad).1;have aw:=(dm ae).1;have hf:=hg.facts;have e1:s.pl=max (ar (val l.p)) (ar (val l.q)):=by rw [<- an.out];exact aq
 have e2:s.ql=max (ar (val l.p)) (ar (val l.q)):=by rw [<- ao.out];exact au
 have e3:s.dpl=max (ar (val l.p)) (ar (val l.q)):=by rw [<- A.out];exact G
 have e4:s.dql=max (ar (val l.p)) (ar (val l.q)):=by rw [<- C.out];exact H
 have ak:Hid ((val l.n)<18446744073709551616^s.nl):=by unfold Hid;rw [<- L.out];exact aE (by omega) hd.n
 have aP:cl<=8*s.nl:=by
  have h9:aM (val l.n)<=64*s.nl:=(aX _ _).2 (by rw [bh];exact ak.out);have h8:=z.out;rw [hlen] at h8;unfold fw at h8;omega
 obtain ⟨⟨r1,k1,i,rest⟩,D⟩:∃ r,nh l.n bs=r:=⟨_,rfl⟩
 have JB:=aa fun W (k:Kept af w W)=>xt p B bs l.n s.no s.nl s.nc r1 k1 i rest W D (h.grew k) (aR hB k.size) O P (hr.n.grew k) hd.n (by omega)
 have ac:=aa xK;have bf:=aa xC;have aJ:=aa xS;have bi:=aa xT;have aH:=aa xF;have al:=aa xO;have aC:=aa h;have J:=aa Q;have ab:=aa ht;have ba:=aa hR;have bB:=aa hB;by_cases hE0:i=0
 case neg=>
  have HP:Hid (PrvL l.n l.d l.p l.q l.dp l.dq l.qi s.en at_ fs cs bs i [] rest):=.inr (.inr ⟨hg,m,r1,k1,i,D,.inl ⟨hE0,rfl,rfl⟩⟩);have aN:i≠220:=by rcases vE D with h | h | h <;> omega
  have hY:=fX (i:Int);have g0:¬ ((i:Nat):Int)=0:=by omega
  have gb:(((i:Nat):Int) != 0)=true:=by simp;omega
  have az:Hid (i≠0/\i≠220):=⟨hE0,aN⟩
  clear ht he hR hd hl hc F h hB O P gf N xK xC xS xT xF xO Q hr hg z dd hlen hlt m L an ao A C V ag aq au G H ap ad ae av aw hf e1 e2 e3 e4 aP D hE0 aN;go_enter func49,ntmps49;go_wp2_with fail;refine J1.mono ?_;rintro e w1 ⟨vo,vc,rfl,-,-,g⟩;have I:=aa g;obtain ⟨p0,-⟩:=bH (am ac.out g);have s0:=(aJ.out.grew g).cell;have J2:=JB.out w1 g;clear J1 g q0 q1 q2 q3 q4 q5 q6 q7 c0 JB;go_wp2_with fail;refine J2.mono ?_;rintro e w2 ⟨u,rfl,⟨hu,-⟩,Y,k2⟩;obtain ⟨uo,un,uc,rfl,-⟩:=hu.open;have bd:=aa Y;have a8:=aa k2;clear J2 hu Y k2 p0 s0;go_wp2_with fail;try rw [gb]
  refine (hY _).mono ?_;rintro e w3 ⟨rfl,rfl⟩;have kk:Kept (ofP p) w w3:=I.out.any.trans a8.out;exact ⟨rfl,ApEnd.no HP.out az.out.1 az.out.2 (al.out.kept kk (fun f=>(J.out _ f).2.2.2.2 rfl)) (DidS.of (kk.mono (fun x _ f=>.inl f)) (Did.of_kept (aj af w3) (ab.out.1.script aC.out kk)))⟩
 subst hE0;obtain ⟨aS,aT,aU,aV⟩:=yg D hd.n;have t:=aa fun T M (hT:T<(val l.n)/\val r1*T%(val l.n)=1) hM=>yU (at_:=at_) (fs:=fs) (M:=M) (n:=s.nl) hg m D L.out hT hM
 obtain ⟨X,hX⟩:∃ X,X=bev cs:=⟨_,rfl⟩
 rw [<- hX] at J1 hlt t;have aK:=aa fun (vo uo:Option Addr) (vc uc Rn:Nat) W (t':TrRoom W o 500000000) (r':KRows W o s l fo fl fc fs) (x':NumT W o (.slice vo s.nl vc) s.nl X) (y':NumT W o (.slice uo s.nl uc) s.nl Rn) (hRn:Rn<(val l.n)) (hgc:Nat.gcd Rn (val l.n)=1)=>Ho o at_ N s l fo fl fc fs vo uo s.nl vc uc X Rn (val l.n) (val l.p) (val l.q) (ar (val l.p)) (ar (val l.q)) W t' r' gf hd he rfl ap ag rfl rfl rfl ad ae rfl rfl (by omega) (by omega) (by omega) (by omega) (Fe hg) hf.1.symm x' hlt y' hRn hgc
 have aY:Hid (oS s.nl (ar (val l.p)) (ar (val l.q)) s.dpl s.dql=mB (ar (val l.n)) (ar (val l.p)) (ar (val l.q)) s.en):=by unfold Hid mB;rw [e3,e4,<- ag]
 have S:Hid ((mB (ar (val l.n)) (ar (val l.p)) (ar (val l.q)) s.en).length<=1000000000):=x9 (by omega) av aw;have aB:=aa z.out;have HG:Hid (Digs r1/\r1.length=s.nl/\Nat.gcd (val r1) (val l.n)=1/\val r1<(val l.n)):=⟨aS,by rw [aT];exact L.out,aU,aV⟩
 have bg:Hid (X<18446744073709551616^s.nl):=bk hlt ak.out;have br:=er 0;have bv:=er 220;have bw:=fX 220;have bD:=aa hX;clear ht he hR hd hl hc F h hB O P gf N xK xC xS xT xF xO Q hr hg z dd hlen hlt m L an ao A C ag aq au G H ap ad ae av aw hf e1 e2 e3 e4 D aS aT aU aV hX ak;go_enter func49,ntmps49;go_wp2_with fail;refine J1.mono ?_;rintro e w1 ⟨vo,vc,rfl,rv,fv,g⟩;have I:=aa g;obtain ⟨p0,-⟩:=bH (am ac.out g);have s0:=(aJ.out.grew g).cell;have J2:=JB.out w1 g;have bb:=aa rv;have aZ:=aa fv;clear J1 g q0 q1 q2 q3 q4 q5 q6 q7 c0 JB rv fv;go_wp2_with fail
 refine J2.mono ?_;rintro e w2 ⟨u,rfl,⟨hu,aQ⟩,Y,k2⟩;have j:=aC.out.grew I.out;have t1:TrRoom w1 o 1000000000:=ab.out.grew I.out;have t2:TrIn w2 o:=t1.1.script j k2;have aO:RowT w2 o u r1:=iS aQ t1.1 hu;have nR:=NumT.of aO HG.out.1 HG.out.2.1;obtain ⟨uo,uc,rfl⟩:=nR.shape;have nX:NumT w2 o (.slice vo s.nl vc) s.nl X:=⟨(iS aZ.out ab.out.1 bb.out).script j k2,bg.out⟩
 have kk:Kept (ofP p) w w2:=I.out.any.trans k2;have R2:=(ba.out.grew I.out).script j k2;have yK:=(kk.block _ (lt_of_block ac.out) (fun f=>(J.out _ f).1 rfl)).trans ac.out;have yF:=(kk.block _ (lt_of_block aH.out) (fun f=>(J.out _ f).2.2.2.1 rfl)).trans aH.out;have yC:=bf.out.kept kk (fun f=>(J.out _ f).2.1 rfl);have yT:=bi.out.kept kk (fun f=>(J.out _ f).2.2.1 rfl);have yO:=al.out.kept kk (fun f=>(J.out _ f).2.2.2.2 rfl);have J3:=aK.out vo uo vc uc _ w2 (⟨t2,by have:=t1.2;omega⟩) R2 nX nR HG.out.2.2.2 HG.out.2.2.1;obtain ⟨a0,a1,a2,a3,a4,a5,a6,a7⟩:=bH yK;have b0:=yT.cell;obtain ⟨d0,d1⟩:=jc yF;have bj:=aa yC;have bl:=aa yO;have aF:=aa t2
 have bd:=aa Y;have a9:=aa kk;clear J2 hu aQ Y k2 j t1 t2 aO nR nX kk R2 yK yF yC yT yO p0 s0 aK;go_wp2_with fail;refine (br _).mono ?_;rintro e bE ⟨rfl,bz⟩;obtain rfl:=bz.symm;go_wp2_with fail;refine J3.mono ?_;rintro e w3 ⟨zo,zc,Tn,b,M,o3,rfl,hT,hM,hb,nZ,dC⟩;have v:=t.out Tn M hT hM;have zC:=dC.cells bj.out aF.out (by decide) (by decide);have zO:=dC.cells bl.out aF.out (by decide) (by decide);have DS:DidS (fun x=>ofP p x\/x=bO) w o (oS s.nl (ar (val l.p)) (ar (val l.q)) s.dpl s.dql) w3 o3:=DidS.of (a9.out.mono (fun x _ f=>.inl f)) dC;rw [aY.out] at DS;have c4:=Hn zo s.nl zc (cC b M 0) cl w3 nZ.1.1 aP (by omega)
 have c3:=(show Box w3 bC (.slice co cl cc) 27 from zC).cell;have ay:=aa v;have aW:=aa DS;have bm:=aa zO;have ax:=aa hb;have bo:b=0\/b=1:=by rw [hb];unfold cY;split <;> omega
 have be:Hid (w.heap.size<=w3.heap.size):=DS.1.size;clear J3 v zC zO DS nZ dC hT hM hb a0 a1 a2 a3 a4 a5 a6 a7 b0 d0 d1;go_wp2_with fail;refine c4.mono ?_;rintro e w4 ⟨yo,yn,yc,rfl,ry,fy,k4⟩;have wO:=(show Box w3 bO (.slice none 0 0) 27 from bm.out).grew k4;have o4:=wO.cell;have f4:=wO.free;have aG:=aa wO;have bc:=aa ry;have aA:Hid (Fresh w (.slice yo yn yc)):=fun x hx=>aR be.out (fy x hx)
 have R:=aa (aW.out.grew k4);clear c4 ry fy k4 wO c3;have Z:Hid (∀ E RL,PrvL l.n l.d l.p l.q l.dp l.dq l.qi s.en at_ fs cs bs E RL rest->bes (cC b M 0) cl cl=RL->∀ r,((E=0/\r=.returned (.tuple #[]))\/(E≠0/\r=.panicked [refusal (E:Nat)]))->ApEnd bO o l s.en at_ fs cs bs p w r (w4.setCell ⟨bO,0,none⟩ (.slice yo yn yc))):=fun E RL hp bu r bt=>by
  have kb:=aD w4 bO (.slice yo yn yc);have bn:bO<w.heap.size:=al.out.lt;have bp:∀ x,(Value.slice yo yn yc).ownBlock=some x->¬ x=bO:=fun x hx e=>by have h1:=aA.out x hx;omega
  have bx:=R.out.trIn ab.out S.out;have bq:¬ cN o3 bO:=aI aG.out bx (by decide) (by decide);refine ⟨E,RL,rest,_,o3,hp,fun _=>rfl,S.out,⟨_,aG.out.set _,?_,aA.out⟩,R.out.put kb (fun _=>.inr rfl) bq,bt⟩;rw [<- bu];exact bc.out.kept kb bp
 rcases bo with rfl | rfl
 ·have U:M^s.en%(val l.n)≠X:=fun e=>by have h1:=ax.out;rw [dL e] at h1;exact absurd h1 (by decide)
  have c:=Z.out 220 _ (ay.out.2 U) (by rw [<- aB.out];exact tS _);have y:=aa c;clear c Z U;go_wp2_with fail;refine (bw _).mono ?_;rintro e w5 ⟨rfl,rfl⟩;exact ⟨rfl,y.out _ (by first | exact .inr ⟨by decide,rfl⟩ | simp)⟩
 ·have U:M^s.en%(val l.n)=X:=Classical.byContradiction fun e=>by have h1:=ax.out;rw [cP e] at h1;exact absurd h1 (by decide)
  have c:=Z.out 0 _ (ay.out.1 U) (by rw [<- aB.out];rfl);have y:=aa c;clear c Z U;go_wp2_with fail;refine (bv _).mono ?_;rintro e w5 ⟨rfl,bA⟩;obtain rfl:=bA.symm;go_wp2_with fail;go_end0
  exact y.out _ (by first | exact .inl ⟨rfl,rfl⟩ | simp)

end Go.Proofs.YtkaojflnghfmcaaGreatDoor
