/- Put together of: Prw5 Tra2 Duo0 Law22d. -/
import Derived.Test.YtkaojflnghfmcaaGreatDoorQB31
import Derived.Test.YtkaojflnghfmcaaGreatDoorQB33
import Derived.Laws.StructEq

namespace Go.Proofs.YtkaojflnghfmcaaGreatDoor
set_option maxRecDepth 100000
set_option maxHeartbeats 4000000
open Go.RowKit

def pf (at_:Int) (fs:List Nat) (b T N P Q DP DQ QI n nP nQ:Nat):Nat:=oI at_ 4 fs (oI at_ 3 fs (pn (xt at_ fs b DP P nP) (xu at_ fs b DQ Q nQ) QI P Q) n N*T%N) n N

theorem sP {at_:Int} {fs:List Nat} {b T N P Q DP DQ QI n nP nQ:Nat} (hP:0<P) (hQ:0<Q) (hN:P*Q=N):pf at_ fs b T N P Q DP DQ QI n nP nQ=pN at_ fs b T N P Q DP DQ QI n nP nQ:=by
 have a:0<N:=by rw [← hN];exact Nat.mul_pos hP hQ
 have h1:xt at_ fs b DP P nP=ug at_ fs b P DP nP:=jU (Nat.mod_lt _ hP);have h2:xu at_ fs b DQ Q nQ=pO at_ fs b Q DQ nQ:=jU (Nat.mod_lt _ hQ);have hV:pO at_ fs b Q DQ nQ<Q:=by rw [← h2];exact ig hQ
 have hz:=qq (X:=ug at_ fs b P DP nP) (QI:=QI) hP hV;have e:pn (ug at_ fs b P DP nP) (pO at_ fs b Q DQ nQ) QI P Q=(pO at_ fs b Q DQ nQ+Q*yj (ug at_ fs b P DP nP) (pO at_ fs b Q DQ nQ) P QI)%N:=by
  rw [← hN,ar]
  ·unfold pn yj;rw [Nat.mul_comm _ Q,Nat.add_comm];rfl
  ·unfold pn at hz;unfold yj;rw [Nat.mul_comm Q,Nat.add_comm];exact hz
 unfold pf pN Cp Cq;rw [h1,h2,e,jU (Nat.mod_lt _ a),jU (Nat.mod_lt _ a)]

def jZ (n nP nQ LP LQ:Nat):List Ev:=oq n ++ (nN n nP nQ LP LQ ++ (jI n ++ (oy n ++ (oq n ++ (jI n ++ ([(1,((max n n:Nat):Int),0)] ++ [(1,((n:Nat):Int),0)]))))))

theorem lP {n nP nQ LP LQ:Nat} (hP:nP≤130) (hQ:nQ≤130) (h1:LP≤300) (h2:LQ≤300):(nN n nP nQ LP LQ).length≤130000000:=by
 have a1:=jS (N1:=n) hP h1;have a2:=jS (N1:=n) hQ h2;have a3:=eE nP;have a4:=eE nQ;have a5:=dh nQ nP;have a6:=fL hP;have a7:=kC (L:=nP) (M:=nQ);unfold nN yG;simp only [List.length_append,List.length_replicate,List.length_cons,List.length_nil];omega

theorem Ct (o:Tr) (at_:Int) (aw:AtOk at_) (s:KS) (l:KL) (fo:Option Addr) (fl fc:Nat) (fs:List Nat) (xo yo:Option Addr) (n xc yc Cn Rn N P Q nP nQ:Nat) (w:World) (ht:TrRoom w o 500000000) (hR:KRows w o s l fo fl fc fs) (gf:Digs fs) (hd:l.Digs) (bt:s.en<18446744073709551616)
  (hN:N=val l.n) (ai:bJ N=0) (aK:n=ah N) (aP:s.nl=n) (hP:P=val l.p) (hQ:Q=val l.q) (al:bJ P=0) (an:bJ Q=0) (aL:nP=ah P) (aN:nQ=ah Q) (bz:s.pl≤300) (bC:s.ql≤300) (R:s.dpl≤300) (T:s.dql≤300) (bB:val l.qi<P) (bq:P*Q=N)
  (hx:NumT w o (.slice xo n xc) n Cn) (hC:Cn<N) (hy:NumT w o (.slice yo n yc) n Rn) (br:Rn<N) (hg:Nat.gcd Rn N=1) :
  Calls Tryz.prog 50 #[aC o,.agg #[.slice s.no s.nl s.nc,.int .u64 (s.en:Nat),.slice s.dO s.dl s.dc,.slice s.po s.pl s.pc,.slice s.qo s.ql s.qc,.slice s.dpo s.dpl s.dpc,.slice s.dqo s.dql s.dqc,.slice s.qio s.qil s.qic],.slice xo n xc,.slice yo n yc,.agg #[.int .i64 at_,.slice fo fl fc]] w fun e w'=>∃ zo zc Tn b M o',e=.returned (.tuple #[.slice zo n zc,.int .u64 ((b:Nat):Int)])∧(Tn<N∧Rn*Tn%N=1)∧M=pf at_ fs (Cn*(Rn^s.en%N)%N) Tn N P Q (val l.dp) (val l.dq) (val l.qi) n nP nQ∧b=aX (decide (M^s.en%N=Cn))∧NumT w' o' (.slice zo n zc) n (aQ b M 0)∧Did w o (jZ n nP nQ s.dpl s.dql) w' o':=by
 obtain ⟨po,bA⟩:=aE o;obtain ⟨W,hW⟩:∃ W,W=(w.alloc (.cells #[.slice s.no s.nl s.nc,.int .u64 (s.en:Nat),.slice s.dO s.dl s.dc,.slice s.po s.pl s.pc,.slice s.qo s.ql s.qc,.slice s.dpo s.dpl s.dpc,.slice s.dqo s.dql s.dqc,.slice s.qio s.qil s.qic] 26)).alloc (.cells #[.int .i64 at_,.slice fo fl fc] 31):=⟨_,rfl⟩
 have k0:Kept ae w W:=by rw [hW];exact ((ag ae w).alloc _).alloc _
 have aR:W.heap[w.heap.size]? = some (.cells #[.slice s.no s.nl s.nc,.int .u64 (s.en:Nat),.slice s.dO s.dl s.dc,.slice s.po s.pl s.pc,.slice s.qo s.ql s.qc,.slice s.dpo s.dpl s.dpc,.slice s.dqo s.dql s.dqc,.slice s.qio s.qil s.qic] 26 (0,0)):=by rw [hW];exact ak (heap_alloc_new _ _)
 have bD:W.heap[w.heap.size+1]? = some (.cells #[.int .i64 at_,.slice fo fl fc] 31 (0,0)):=by
  rw [hW];have:=heap_alloc_new (w.alloc (.cells #[.slice s.no s.nl s.nc,.int .u64 (s.en:Nat),.slice s.dO s.dl s.dc,.slice s.po s.pl s.pc,.slice s.qo s.ql s.qc,.slice s.dpo s.dpl s.dpc,.slice s.dqo s.dql s.dqc,.slice s.qio s.qil s.qic] 26)) (.cells #[.int .i64 at_,.slice fo fl fc] 31)
  rwa [World.size_alloc] at this
 have c:n≤130:=by rw [aK];exact (be ai).1
 have aM:nP≤130:=by rw [aL];exact (be al).1
 have aO:nQ≤130:=by rw [aN];exact (be an).1
 have cf:=(be al).2.1;have cg:=(be an).2.1;have ce:=(be ai).2.1;have c0:=qN o s.no s.nl s.nc l.n N n W (ht.1.grew k0) (hR.n.1.grew k0) hd.n (by omega) hN ai aK;have JS:=aa fun W (k:Kept ae w W)=>Dy o at_ fo fl fc W
 rw [bA] at JS ⊢;have aq:=aa fun (o':Tr) (bT bF:Nat) (bo:Option Addr) (bc Bv:Nat) W' (t':TrRoom W' o' 300000000) (r':KRows W' o' s l fo fl fc fs) (c':Clo W' bT bF (aC o') at_ fo fl fc) (y':NumT W' o' (.slice bo n bc) n Bv) (hpq:P*Q<18446744073709551616^n)=>Cw o' bT bF at_ aw s l fo fl fc fs bo n bc Bv P Q nP nQ W' t' r' c' gf hd hP hQ al an aL aN bz bC R T aP c bB hpq y'
 have bS:=aa bq;have bU:=aa (hR.grew k0);have HX:=aa (hx.grew k0);have HY:=aa (hy.grew k0);have HT:=aa (ht.grew k0);have bV:=aa ht.1;have bh:=aa k0;have ca:=aa aP;have HG:=aa hg;have HW:=aa hW;obtain ⟨q0,-⟩:=aJ aR;clear hR hx hy hd hP hQ hN ai al an aL aN aK bz bC bB bq hW k0 ht aP hg;go_enter Tryz.func50,Tryz.ntmps50;go_wp2_with (rw [← HW.out]);refine c0.mono ?_;rintro e w1 ⟨na,nb,nK,nm,nr,rfl,mN,-,k1⟩;clear c0 q0;go_wp2_with fail;refine (eZ na nb n nm nK n nr w1).mono ?_;rintro e w2 ⟨rfl,k2⟩;have bG:=k1.trans k2;obtain ⟨W3,ao⟩:∃ W3,W3=w2.alloc (.cells #[.slice na n nm,.int .u64 (nK:Nat),.slice nb n nr] 70):=⟨_,rfl⟩
 have k3:Kept ae w2 W3:=by rw [ao];exact (ag ae w2).alloc _
 have A:W3.heap[w2.heap.size]? = some (.cells #[.slice na n nm,.int .u64 (nK:Nat),.slice nb n nr] 70 (0,0)):=by rw [ao];exact heap_alloc_new _ _
 have Y:=bG.trans k3;have aS:=aj bD Y;have q1:=(eH aS).1;have q2:=(eH aS).2;have ab:=(mN.grew k2).grew k3;have z:=aj aR Y;have J3:=JS.out W3 (bh.out.trans Y);have ar:=aa Y;have bW:=aa ao;clear ao aR bD aS k1 k2 k3 bG Y mN JS;go_wp2_with (rw [← bW.out]);refine J3.mono ?_;rintro e w4 ⟨bT,bF,rfl,C4,k4⟩;clear J3 q1 q2;have KW:=ar.out.trans k4;have s0:Wr w o [] w4 o (.pointer po) 500000000:=⟨Did.of_kept (bh.out.trans KW) bV.out,HT.out.grew KW,bA⟩
 have R0:=bU.out.grew KW;have X0:=HX.out.grew KW;have Y0:=HY.out.grew KW;have C0:=C4;have aT:=ab.grew k4;have bu:=aj z k4;have bw:=aj A k4;have bR:Hid (N<18446744073709551616^n):=aT.facts.2.2.2;clear C4 KW k4 ab z A;go_wp2_with fail;have d1:Did w4 o [] w4.drew o:=Did.of_kept (ag ae w4).drew s0.room.1;have s1:=s0.next (k:=499000000) d1 (by simp)
 have R1:=R0.did d1;have C1:=C0.did d1 s0.room.1;have X1:=X0.did d1;have Y1:=Y0.did d1;have aU:=aT.did d1;have ax:=d1.cells bu s0.room.1 (by decide) (by decide);have aB:=d1.cells bw s0.room.1 (by decide) (by decide);clear R0 C0 X0 Y0 aT bu bw s0 d1;refine wp_region_held_drew (S:=fun w'=>w'.heap[w.heap.size]? = some (.cells #[.slice s.no s.nl s.nc,.int .u64 (s.en:Nat),.slice s.dO s.dl s.dc,.slice s.po s.pl s.pc,.slice s.qo s.ql s.qc,.slice s.dpo s.dpl s.dpc,.slice s.dqo s.dql s.dqc,.slice s.qio s.qil s.qic] 26 (0,0))∧w'.heap[w2.heap.size]? = some (.cells #[.slice na n nm,.int .u64 (nK:Nat),.slice nb n nr] 70 (0,0))) (by kernel_rfl) (And.intro ax (aB)) (fun hS=>?_)
 refine iP (fun _ _ d _ _ h=>by cases d <;> exact h) fun Q1 a C=>?_
 refine aG a 0 (some 30) (.pointer po) hS ?_;simp only [Act.put,lsA,lsS,lsZ];refine aG a 1 (some 31) (.agg #[.slice na n nm,.int .u64 (nK:Nat),.slice nb n nr]) hS ?_ (y:=.inl ⟨by rfl,fun w h=>by simp [execOp,go_sem,(am h.2).1,(am h.2).2.1,(am h.2).2.2]⟩);simp only [Act.put,lsA,lsS,lsZ];refine aG a 2 (some 32) (.slice xo n xc) hS ?_;simp only [Act.put,lsA,lsS,lsZ];refine aG a 3 (some 33) (.agg #[.slice na n nm,.int .u64 (nK:Nat),.slice nb n nr]) hS ?_ (y:=.inl ⟨by rfl,fun w h=>by simp [execOp,go_sem,(am h.2).1,(am h.2).2.1,(am h.2).2.2]⟩);simp only [Act.put,lsA,lsS,lsZ];refine aG a 4 (some 34) (.slice yo n yc) hS ?_
 simp only [Act.put,lsA,lsS,lsZ];refine aG a 5 (some 35) (.pointer (some ⟨w.heap.size,1,none⟩)) hS ?_;simp only [Act.put,lsA,lsS,lsZ];refine aG a 6 (some 36) (.int .u64 (s.en:Int)) hS ?_ (y:=.inl ⟨by rfl,fun w h=>by simp [execOp,go_sem,(aJ h.1).2.1]⟩);simp only [Act.put,lsA,lsS,lsZ];have c2:=qO o na nb yo n nK nm nr yc s.en Rn N _ s1.room.1 aU Y1 br bt;refine aH 7 (some 37) 91 [.agg #[.slice na n nm,.int .u64 (nK:Nat),.slice nb n nr],.slice yo n yc,.int .u64 (s.en:Int)] (c2) ?_;rintro r b7 ⟨ue,ve,rfl,a9,k2⟩;have d2:Did w4.drew o [] b7 o:=Did.of_kept k2 s1.room.1;have s2:=s1.next (k:=498000000) d2 (by simp)
 have R2:=R1.did d2;have C2:=C1.did d2 s1.room.1;have X2:=X1.did d2;have Y2:=Y1.did d2;have aV:=aU.did d2;have H:=d2.cells ax s1.room.1 (by decide) (by decide);have J:=d2.cells aB s1.room.1 (by decide) (by decide);refine .inl ⟨_,rfl,(And.intro H (J)),?_⟩;simp only [Act.put,lsA,lsS,lsZ];clear R1 C1 X1 Y1 aU ax aB c2 s1 d2 k2;refine aG a 8 (some 38) (.slice ue n ve) (And.intro H (J)) ?_;simp only [Act.put,lsA,lsS,lsZ];refine aG a 9 (some 39) (.int .i64 0) (And.intro H (J)) ?_;simp only [Act.put,lsA,lsS,lsZ];refine aH 10 (some 40) 31 [.slice ue n ve,.int .i64 0] (dH ue n ve _) ?_;rintro r wz ⟨rfl,B⟩;obtain rfl:=B.symm
 refine .inl ⟨_,rfl,(And.intro H (J)),?_⟩;simp only [Act.put,lsA,lsS,lsZ];have c3:=uu o na nb xo ue n nK nm nr xc ve Cn _ N _ (s2.room.less (by omega)) aV X2 hC a9 (Nat.mod_lt _ (by omega));rw [s2.ptr] at c3;refine aH 11 (some 41) 90 [.pointer po,.agg #[.slice na n nm,.int .u64 (nK:Nat),.slice nb n nr],.slice xo n xc,.slice ue n ve] (c3) ?_;rintro r bb ⟨ub,vb,o3,rfl,bK,d3⟩;have s3:=s2.next (k:=497000000) d3 (by have h:=fL c;omega)
 have R3:=R2.did d3;have C3:=C2.did d3 s2.room.1;have X3:=X2.did d3;have Y3:=Y2.did d3;have ab:=aV.did d3;have z:=d3.cells H s2.room.1 (by decide) (by decide);have A:=d3.cells J s2.room.1 (by decide) (by decide);have b4:=a9.did d3;refine .inl ⟨_,rfl,(And.intro z (A)),?_⟩;simp only [Act.put,lsA,lsS,lsZ];clear R2 C2 X2 Y2 aV H J a9 c3 s2 d3;clear b4;refine aG a 12 (some 42) (.slice ub n vb) (And.intro z (A)) ?_;simp only [Act.put,lsA,lsS,lsZ];refine aG a 13 (some 43) (.int .i64 0) (And.intro z (A)) ?_;simp only [Act.put,lsA,lsS,lsZ];refine aH 14 (some 44) 31 [.slice ub n vb,.int .i64 0] (dH ub n vb _) ?_;rintro r wz ⟨rfl,B⟩
 obtain rfl:=B.symm;refine .inl ⟨_,rfl,(And.intro z (A)),?_⟩;simp only [Act.put,lsA,lsS,lsZ];refine aG a 15 (some 14) (.slice ub n vb) (And.intro z (A)) ?_;simp only [Act.put,lsA,lsS,lsZ];refine wpAnyH_done (by kernel_rfl) ?_ _;refine C.out _ _ ?_;go_wp2_with fail;have d4:Did bb o3 [] bb.drew o3:=Did.of_kept (ag ae bb).drew s3.room.1;have s4:=s3.next (k:=496000000) d4 (by simp)
 have R4:=R3.did d4;have C4:=C3.did d4 s3.room.1;have X4:=X3.did d4;have Y4:=Y3.did d4;have bH:=ab.did d4;have ay:=d4.cells z s3.room.1 (by decide) (by decide);have aD:=d4.cells A s3.room.1 (by decide) (by decide);have a1:=bK.did d4;clear R3 C3 X3 Y3 ab z A bK s3 d4
 refine wp_region_held_drew (S:=fun w'=>w'.heap[w.heap.size]? = some (.cells #[.slice s.no s.nl s.nc,.int .u64 (s.en:Nat),.slice s.dO s.dl s.dc,.slice s.po s.pl s.pc,.slice s.qo s.ql s.qc,.slice s.dpo s.dpl s.dpc,.slice s.dqo s.dql s.dqc,.slice s.qio s.qil s.qic] 26 (0,0))∧w'.heap[w2.heap.size]? = some (.cells #[.slice na n nm,.int .u64 (nK:Nat),.slice nb n nr] 70 (0,0))) (by kernel_rfl) (And.intro ay (aD)) (fun hS=>?_);clear a C;refine iP (fun _ _ d _ _ h=>by cases d <;> exact h) fun Q1 a C=>?_
 refine aG a 0 (some 45) (.func (.func 140) #[] #[.pointer (some ⟨bT,0,none⟩),.pointer (some ⟨bF,0,none⟩)]) hS ?_;simp only [Act.put,lsA,lsS,lsZ];refine aG a 1 (some 46) (.agg #[.slice na n nm,.int .u64 (nK:Nat),.slice nb n nr]) hS ?_ (y:=.inl ⟨by rfl,fun w h=>by simp [execOp,go_sem,(am h.2).1,(am h.2).2.1,(am h.2).2.2]⟩);simp only [Act.put,lsA,lsS,lsZ];refine aG a 2 (some 47) (.pointer po) hS ?_;simp only [Act.put,lsA,lsS,lsZ]
 refine aG a 3 (some 48) (.agg #[.slice s.no s.nl s.nc,.int .u64 (s.en:Nat),.slice s.dO s.dl s.dc,.slice s.po s.pl s.pc,.slice s.qo s.ql s.qc,.slice s.dpo s.dpl s.dpc,.slice s.dqo s.dql s.dqc,.slice s.qio s.qil s.qic]) hS ?_ (y:=.inl ⟨by rfl,fun w h=>by simp [execOp,go_sem,(aJ h.1).1,(aJ h.1).2.1,(aJ h.1).2.2.1,(aJ h.1).2.2.2.1,(aJ h.1).2.2.2.2.1,(aJ h.1).2.2.2.2.2.1,(aJ h.1).2.2.2.2.2.2.1,(aJ h.1).2.2.2.2.2.2.2]⟩);simp only [Act.put,lsA,lsS,lsZ];refine aG a 4 (some 49) (.slice ub n vb) hS ?_;simp only [Act.put,lsA,lsS,lsZ];refine aG a 5 (some 50) (.func (.func 140) #[] #[.pointer (some ⟨bT,0,none⟩),.pointer (some ⟨bF,0,none⟩)]) hS ?_
 simp only [Act.put,lsA,lsS,lsZ];have c5:=aq.out o3 bT bF ub vb _ _ (s4.room.less (by omega)) R4 (by rw [s4.ptr];exact C4) a1 (by rw [bS.out];exact bR.out);rw [s4.ptr] at c5;refine aH 6 (some 51) 92 [.pointer po,.agg #[.slice s.no s.nl s.nc,.int .u64 (s.en:Nat),.slice s.dO s.dl s.dc,.slice s.po s.pl s.pc,.slice s.qo s.ql s.qc,.slice s.dpo s.dpl s.dpc,.slice s.dqo s.dql s.dqc,.slice s.qio s.qil s.qic],.slice ub n vb,.func (.func 140) #[] #[.pointer (some ⟨bT,0,none⟩),.pointer (some ⟨bF,0,none⟩)]] (c5) ?_;rintro r ck ⟨uh,vh,o5,rfl,a2,d5⟩;have s5:=s4.next (k:=360000000) d5 (by have h:=lP (n:=n) aM aO R T;omega)
 have R5:=R4.did d5;have C5:=C4.did d5 s4.room.1;have X5:=X4.did d5;have Y5:=Y4.did d5;have aW:=bH.did d5;have az:=d5.cells ay s4.room.1 (by decide) (by decide);have aF:=d5.cells aD s4.room.1 (by decide) (by decide);have b1:=a1.did d5;refine .inl ⟨_,rfl,(And.intro az (aF)),?_⟩;simp only [Act.put,lsA,lsS,lsZ];clear R4 C4 X4 Y4 bH ay aD a1 c5 s4 d5;clear b1;have c6:=iZ 3 (by omega) (by omega) o5 bT bF at_ aw na nb uh fo n nK nm nr vh fl fc _ N fs _ (s5.room.less (by omega)) aW a2 (by rw [s5.ptr];exact C5.t) C5.f R5.f gf
 refine qf 7 (some 52) (by kernel_rfl) rfl rfl (by rfl) 140 45 _ _ _ [.int .i64 (3:Nat),.agg #[.slice na n nm,.int .u64 (nK:Nat),.slice nb n nr],.slice uh n vh] rfl rfl rfl (fun _ _=>by simp [go_sem]) c6 ?_;rintro r cl ⟨uz,vz,o6,rfl,bM,d6⟩;have s6:=s5.next (k:=359000000) d6 (by have h:=eE n;omega)
 have R6:=R5.did d6;have C6:=C5.did d6 s5.room.1;have X6:=X5.did d6;have Y6:=Y5.did d6;have aY:=aW.did d6;have ap:=d6.cells az s5.room.1 (by decide) (by decide);have X:=d6.cells aF s5.room.1 (by decide) (by decide);have b3:=a2.did d6;refine ⟨_,rfl,(And.intro ap (X)),?_⟩;simp only [Act.put,lsA,lsS,lsZ];clear R5 C5 X5 Y5 aW az aF a2 c6 s5 d6;clear b3;refine aG a 8 (some 15) (.slice uz n vz) (And.intro ap (X)) ?_;simp only [Act.put,lsA,lsS,lsZ];refine wpAnyH_done (by kernel_rfl) ?_ _;refine C.out _ _ ?_;obtain ⟨p0,p1,p2⟩:=am X;have c7:=Cx o6 na nb yo n nK nm nr yc Rn N _ (s6.room.less (by omega)) aY Y6 br HG.out;rw [s6.ptr] at c7;go_wp2_with fail
 refine c7.mono ?_;rintro e bd ⟨ui,vi,Tn,o7,rfl,bs,bL,d7⟩;have s7:=s6.next (k:=358000000) d7 (by have h:=jr c;omega)
 have R7:=R6.did d7;have C7:=C6.did d7 s6.room.1;have X7:=X6.did d7;have Y7:=Y6.did d7;have bI:=aY.did d7;have bv:=d7.cells ap s6.room.1 (by decide) (by decide);have bx:=d7.cells X s6.room.1 (by decide) (by decide);have bN:=bM.did d7;clear R6 C6 X6 Y6 aY ap X bM c7 s6 d7 p0 p1 p2;go_wp2_with fail;have d8:Did bd o7 [] bd.drew o7:=Did.of_kept (ag ae bd).drew s7.room.1;have s8:=s7.next (k:=357000000) d8 (by simp)
 have R8:=R7.did d8;have C8:=C7.did d8 s7.room.1;have X8:=X7.did d8;have Y8:=Y7.did d8;have aZ:=bI.did d8;have aA:=d8.cells bv s7.room.1 (by decide) (by decide);have aI:=d8.cells bx s7.room.1 (by decide) (by decide);have a8:=bN.did d8;have a3:=bL.did d8;clear R7 C7 X7 Y7 bI bv bx bN bL s7 d8
 refine wp_region_held_drew (S:=fun w'=>w'.heap[w.heap.size]? = some (.cells #[.slice s.no s.nl s.nc,.int .u64 (s.en:Nat),.slice s.dO s.dl s.dc,.slice s.po s.pl s.pc,.slice s.qo s.ql s.qc,.slice s.dpo s.dpl s.dpc,.slice s.dqo s.dql s.dqc,.slice s.qio s.qil s.qic] 26 (0,0))∧w'.heap[w2.heap.size]? = some (.cells #[.slice na n nm,.int .u64 (nK:Nat),.slice nb n nr] 70 (0,0))) (by kernel_rfl) (And.intro aA (aI)) (fun hS=>?_);clear a C;refine iP (fun _ _ d _ _ h=>by cases d <;> exact h) fun Q1 a C=>?_
 refine aG a 0 (some 61) (.func (.func 140) #[] #[.pointer (some ⟨bT,0,none⟩),.pointer (some ⟨bF,0,none⟩)]) hS ?_;simp only [Act.put,lsA,lsS,lsZ];refine aG a 1 (some 62) (.agg #[.slice na n nm,.int .u64 (nK:Nat),.slice nb n nr]) hS ?_ (y:=.inl ⟨by rfl,fun w h=>by simp [execOp,go_sem,(am h.2).1,(am h.2).2.1,(am h.2).2.2]⟩);simp only [Act.put,lsA,lsS,lsZ];refine aG a 2 (some 63) (.pointer po) hS ?_;simp only [Act.put,lsA,lsS,lsZ];refine aG a 3 (some 64) (.agg #[.slice na n nm,.int .u64 (nK:Nat),.slice nb n nr]) hS ?_ (y:=.inl ⟨by rfl,fun w h=>by simp [execOp,go_sem,(am h.2).1,(am h.2).2.1,(am h.2).2.2]⟩);simp only [Act.put,lsA,lsS,lsZ]
 refine aG a 4 (some 65) (.slice uz n vz) hS ?_;simp only [Act.put,lsA,lsS,lsZ];refine aG a 5 (some 66) (.slice ui n vi) hS ?_;simp only [Act.put,lsA,lsS,lsZ];refine aG a 6 (some 67) (.int .i64 0) hS ?_;simp only [Act.put,lsA,lsS,lsZ];refine aH 7 (some 68) 31 [.slice ui n vi,.int .i64 0] (dH ui n vi _) ?_;rintro r wz ⟨rfl,B⟩;rw [B];clear B;refine .inl ⟨_,rfl,hS,?_⟩;simp only [Act.put,lsA,lsS,lsZ];have c9:=uu o7 na nb uz ui n nK nm nr vz vi _ Tn N _ (s8.room.less (by omega)) aZ a8 (ig (by omega)) a3 bs.1;rw [s8.ptr] at c9
 refine aH 8 (some 69) 90 [.pointer po,.agg #[.slice na n nm,.int .u64 (nK:Nat),.slice nb n nr],.slice uz n vz,.slice ui n vi] (c9) ?_;rintro r cm ⟨um,vm,o9,rfl,a5,d9⟩;have s9:=s8.next (k:=356000000) d9 (by have h:=fL c;omega)
 have R9:=R8.did d9;have C9:=C8.did d9 s8.room.1;have X9:=X8.did d9;have Y9:=Y8.did d9;have a0:=aZ.did d9;have I:=d9.cells aA s8.room.1 (by decide) (by decide);have L:=d9.cells aI s8.room.1 (by decide) (by decide);have cj:=a8.did d9;have ci:=a3.did d9;refine .inl ⟨_,rfl,(And.intro I (L)),?_⟩;simp only [Act.put,lsA,lsS,lsZ];clear R8 C8 X8 Y8 aZ aA aI a8 a3 c9 s8 d9;refine aG a 9 (some 70) (.slice um n vm) (And.intro I (L)) ?_;simp only [Act.put,lsA,lsS,lsZ];refine aG a 10 (some 71) (.int .i64 0) (And.intro I (L)) ?_;simp only [Act.put,lsA,lsS,lsZ];refine aH 11 (some 72) 31 [.slice um n vm,.int .i64 0] (dH um n vm _) ?_;rintro r wz ⟨rfl,B⟩
 obtain rfl:=B.symm;refine .inl ⟨_,rfl,(And.intro I (L)),?_⟩;simp only [Act.put,lsA,lsS,lsZ];have bn:=iZ 4 (by omega) (by omega) o9 bT bF at_ aw na nb um fo n nK nm nr vm fl fc _ N fs _ (s9.room.less (by omega)) a0 a5 (by rw [s9.ptr];exact C9.t) C9.f R9.f gf;refine qf 12 (some 73) (by kernel_rfl) rfl rfl (by rfl) 140 61 _ _ _ [.int .i64 (4:Nat),.agg #[.slice na n nm,.int .u64 (nK:Nat),.slice nb n nr],.slice um n vm] rfl rfl rfl (fun _ _=>by simp [go_sem]) bn ?_;rintro r bO ⟨uo,vo,ad,rfl,g,v⟩;have F:=s9.next (k:=355000000) v (by have h:=eE n;omega)
 have bi:=R9.did v;have bf:=C9.did v s9.room.1;have bk:=X9.did v;have bl:=Y9.did v;have D:=a0.did v;have j:=v.cells I s9.room.1 (by decide) (by decide);have m:=v.cells L s9.room.1 (by decide) (by decide);have a4:=a5.did v;refine ⟨_,rfl,(And.intro j (m)),?_⟩;simp only [Act.put,lsA,lsS,lsZ];clear R9 C9 X9 Y9 a0 I L a5 bn s9 v;clear a4;refine aG a 13 (some 19) (.slice uo n vo) (And.intro j (m)) ?_;simp only [Act.put,lsA,lsS,lsZ];refine wpAnyH_done (by kernel_rfl) ?_ _;refine C.out _ _ ?_
 replace g:NumT bO ad (.slice uo n vo) n (pf at_ fs (Cn*(Rn^s.en%N)%N) Tn N P Q (val l.dp) (val l.dq) (val l.qi) n nP nQ):=g
 have O:pf at_ fs (Cn*(Rn^s.en%N)%N) Tn N P Q (val l.dp) (val l.dq) (val l.qi) n nP nQ<N:=ig (by omega);obtain ⟨M,hM⟩:∃ M,M=pf at_ fs (Cn*(Rn^s.en%N)%N) Tn N P Q (val l.dp) (val l.dq) (val l.qi) n nP nQ:=⟨_,rfl⟩
 rw [← hM] at g O;have bQ:=aa hM;clear hM;obtain ⟨p0,p1,p2⟩:=am m;obtain ⟨-,r1,-⟩:=aJ j;have bp:=qO ad na nb uo n nK nm nr vo s.en M N _ F.room.1 D g O bt;go_wp2_with fail;refine bp.mono ?_;rintro e b8 ⟨uc,vc,rfl,E,bE⟩;have x:Did bO ad [] b8 ad:=Did.of_kept bE F.room.1;have G:=F.next (k:=354000000) x (by simp)
 have bj:=bi.did x;have bg:=bf.did x F.room.1;have au:=bk.did x;have bm:=bl.did x;have Z:=D.did x;have U:=x.cells j F.room.1 (by decide) (by decide);have V:=x.cells m F.room.1 (by decide) (by decide);have ac:=g.did x;clear bi bf bk bl D j m g bp F x bE p0 p1 p2 r1;go_wp2_with fail;refine (dH uc n vc _).mono ?_;rintro e wz ⟨rfl,B⟩;obtain rfl:=B.symm;have af:=Cu ad _ _ n n _ Cn _ (G.room.less (by omega)) E au (by omega) (by omega);rw [G.ptr] at af;obtain ⟨b,hb⟩:∃ b,b=aX (decide (M^s.en%N=Cn)):=⟨_,rfl⟩
 have ch:b≤1:=by rw [hb];exact kF _
 rw [← hb] at af;have bP:=aa hb;clear hb;go_wp2_with fail;refine af.mono ?_;rintro e cn ⟨rfl,b5,i⟩;have ba:=G.next (k:=353000000) i (by simp)
 have cb:=bj.did i;have b9:=bg.did i G.room.1;have cc:=au.did i;have cd:=bm.did i;have b0:=Z.did i;have bY:=i.cells U G.room.1 (by decide) (by decide);have bZ:=i.cells V G.room.1 (by decide) (by decide);have a6:=ac.did i;have b2:=E.did i;clear bj bg au bm Z U V ac E af G i;have av:=AQ b5 b n M (by omega) _ _ (ba.room.less (by omega)) a6 (by omega);rw [ba.ptr] at av;go_wp2_with fail;refine av.mono ?_;rintro e co ⟨us,vs,b6,rfl,a7,bX⟩;have sz:=ba.next (k:=10) bX (by simp)
 clear av;go_wp2_with fail;go_ret2;refine ⟨us,vs,Tn,b,M,b6,rfl,bs,bQ.out,bP.out,a7,?_⟩;have h:=sz.did;simp only [jZ,List.append_assoc,List.nil_append,List.append_nil] at h ⊢;exact h

theorem li {P:Program} (w:World) (dT sT ty b:TypeId) (sz g n f m:Nat) (a:Addr) (c:Array Value) (t:TypeId) (cs:List Value)
  (hu:P.underlying dT=some (.slice b)) (hs:(P.info? b).map (·.size)=some sz) (hg:w.heap[g]? = some (.cells c t (0,0))) (h:cs.length=n*sz)
  (d:∀ j v,cs[j]? = some v→w.cell? (a.add j)=some v) (k:cs.length=c.size) (h1:∀ v ∈ cs,v.oneCell'=true) :
  (Builtin.copy_ #[dT,sT] ty #[.slice (some ⟨g,0,none⟩) n m,.slice (some a) n f]).run P w=.ok (goInt n) (w.setRow g cs.toArray):=by
 have hl:=run_loadCells_list (P:=P) w a cs d;have e:=run_storeCells_at P g 0 t cs 0 c w hg (by simp;omega) h1;cases hq:P.info? b with
 | none=>simp [hq] at hs
 | some i=>
  have hi:i.size=sz:=by simpa [hq] using hs
  have hd:c.toList.drop (0+0+cs.length)=[]:=List.drop_eq_nil_of_le (by simp;omega);simp only [hd] at e;simp [Builtin.copy_,run_underlying hu,Builtin.lenOf,Builtin.firstCells,sizeOf,typeInfo,hq,hi,← h,hl,e]

theorem kL {P:Program} (w:World) (dT sT ty a:TypeId) (sz:Nat) (da sa:Option Addr) (dm sm:Nat)
  (hu:P.underlying dT=some (.slice a)) (hs:(P.info? a).map (·.size)=some sz) :
  (Builtin.copy_ #[dT,sT] ty #[.slice da 0 dm,.slice sa 0 sm]).run P w=.ok (goInt 0) w:=by
 cases hq:P.info? a with
 | none=>simp [hq] at hs
 | some i=>cases da <;> cases sa <;> simp [Builtin.copy_,run_underlying hu,Builtin.lenOf,Builtin.firstCells,sizeOf,typeInfo,hq,storeCells,loadCells,loadCellsFrom]

theorem mV {P:Program} {w:World} (dT sT ty a:TypeId) (sz g n:Nat) (v:Value) (xs ys:List Value) (hu:P.underlying dT=some (.slice a)) (d:(P.info? a).map (·.size)=some sz)
  (hg:w.ownsRow g a sz (.slice (some ⟨g,0,none⟩) n n) n ys) (hv:w.ownsRow 0 a sz v n xs) (h1:∀ v ∈ xs,v.oneCell'=true) :
  ∃ w',(Builtin.copy_ #[dT,sT] ty #[.slice (some ⟨g,0,none⟩) n n,v]).run P w=.ok (goInt n) w'∧w'.ownsRow g a sz (.slice (some ⟨g,0,none⟩) n n) n xs∧Kept (fun b=>b=g) w w':=by
 rcases hg.2 with ⟨h',_⟩ | ⟨g',cap',cur,h',_,hgg,_,hcm,hcs,_⟩
 ·simp at h'
 ·simp only [Value.slice.injEq,Option.some.injEq,Addr.mk.injEq,and_true,true_and] at h';obtain ⟨rfl,rfl⟩:=h';rcases hv.2 with ⟨rfl,rfl⟩ | ⟨g2,cap2,cur2,rfl,_,hg2,hnc,_,hcs2,htake⟩
  ·have hx:xs=[]:=List.eq_nil_of_length_eq_zero (by simpa using hv.1);subst hx;have hy:ys=[]:=List.eq_nil_of_length_eq_zero (by simpa using hg.1);subst hy;exact ⟨w,kL (P:=P) w dT sT ty a sz (some ⟨g,0,none⟩) none 0 0 hu d,hg,ag _ _⟩
  ·have c:=World.ownsRow.cells hv (g:=g2) rfl;refine ⟨_,li (P:=P) w dT sT ty a sz g n cap2 n ⟨g2,0,none⟩ cur a xs hu d hgg hv.1 c (by rw [hv.1,hcs]) h1,?_,?_⟩
   ·refine ⟨hv.1,.inr ⟨g,n,xs.toArray,rfl,leR _,setRow_heap w g cur _ a _ hgg,leR _,hcm,by simpa using hv.1,?_⟩⟩;simpa using List.take_of_length_le (by rw [hv.1];exact leR _)
   ·exact ⟨rfl,rfl,rfl,by simp,fun k _ hk=>setRow_other w g k _ hk⟩

theorem Tryz.size142:(Tryz.prog.info? 142).map (·.size)=some 3:=by kernel_rfl

theorem qW (o:Tr) (w:World) (h:TrIn w o):Calls Tryz.prog 55 #[aC o] w fun r w'=>
  ∃ v,r=.returned v∧EvRow w' v ((cX o).take 1000)∧(∀ k,v.ownBlock=some k→w.heap.size≤k)∧Kept ae w w':=by
 cases o with
 | none=>
  unfold aC cX;go_enter Tryz.func55,Tryz.ntmps55;go_wp2;go_ret;exact ⟨_,rfl,by simpa using EvRow.nil w,fun k e=>(by cases e),ag _ _⟩
 | some q=>
  obtain ⟨p,g,l⟩:=q;obtain ⟨⟨v,s,hp,_,hr,_⟩,_⟩:=h;unfold aC cX;dsimp only;obtain ⟨i0,d,x,y,z⟩:=info_parts Tryz.info142;have hn:(l.take 1000).length≤1000:=by rw [List.length_take];omega
  unfold EvRow at hr ⊢;have h1:=iO (l.take 1000);generalize l.take 1000=m at *;generalize m.length=n at *;generalize bG m=xs at *;obtain ⟨ao,b,rfl⟩:=aZ hr;have c0:w.cell? ⟨p,0,none⟩=some (.slice ao n b):=(cell_of_row w p 0 _ _ _ hp).trans rfl;have hlt:=lt_of_block hp;go_enter Tryz.func55,Tryz.ntmps55;go_wp2_with (at_make;refine wpList_make_full _ rfl _ _ 98 rfl w.heap.size 142 i0 _ 3 Tryz.underlying98 d x y _ _ _ _ n rfl rfl rfl rfl (by rw [z];omega) (by unfold maxLen;omega) (leR _) ?_;intro w1 j c;have c1:w1.cell? ⟨p,0,none⟩=some (.slice ao n b):=c.cell c0 (by simp))
  obtain ⟨w2,a,t,i⟩:=mV (P:=Tryz.prog) 98 98 3 142 3 w.heap.size n (.slice ao n b) xs _ Tryz.underlying98 Tryz.size142 j ((aK c).own hr (fun _ _ f=>f)) h1;rw [a];clear a;go_wp2;go_ret;exact ⟨_,rfl,aR t (fun k _=>Nat.zero_le k),fun k e=>(by simp [Value.ownBlock] at e;omega),(aK c).next i (fun k hk e=>by omega)⟩

def EvAt (w:World) (g k:Nat) (l:List Ev) (x y z:Int):Prop:=w.cell? ⟨g,k*3,none⟩=some (.int .i64 x)∧w.cell? ⟨g,k*3+1,none⟩=some (.int .i64 y)∧w.cell? ⟨g,k*3+2,none⟩=some (.int .i64 z)∧Hid (l[k]? = some (x,y,z))

theorem EvRow.view {w:World} {v:Value} {l:List Ev} (h:EvRow w v l) :
  ∃ ao a,v=.slice ao l.length a∧(∀ k,k<l.length→∃ g x y z,ao=some ⟨g,0,none⟩∧EvAt w g k l x y z):=by
 rcases h.2 with ⟨rfl,h0⟩ | ⟨g,a,cur,rfl,_,hg,_,_,hcs,htake⟩
 ·exact ⟨none,0,by rw [h0],fun k hk=>by omega⟩
 ·refine ⟨_,_,rfl,fun k hk=>⟨g,l[k].1,l[k].2.1,l[k].2.2,rfl,?_⟩⟩;have hc:∀ j,j<3→w.cell? ⟨g,k*3+j,none⟩=(eY l[k])[j]?:=fun j hj=>by
   rw [World.ownsRow.cellAt h (k*3+j) (by omega),jz l k j hk hj]
  exact ⟨hc 0 (by omega),hc 1 (by omega),hc 2 (by omega),List.getElem?_eq_getElem hk⟩

theorem mZ {a b:List Ev} {k:Nat} {x:Ev} (h:a.take k=b.take k) (ha:a[k]? = some x) (hb:b[k]? = some x):a.take (k+1)=b.take (k+1):=by
 rw [List.take_add_one,List.take_add_one,h,ha,hb]

theorem oK {a b:List Ev} {n:Nat} (hl:a.length=n) (hb:b.length=n) (h:a.take n=b.take n):decide (a=b)=true:=by
 rw [List.take_of_length_le (by omega),List.take_of_length_le (by omega)] at h;simpa using h

theorem Cf {a b:List Ev} {k:Nat} {x y:Ev} (ha:a[k]? = some x) (hb:b[k]? = some y) (he:x≠y):decide (a=b)=false:=by
 simp only [decide_eq_false_iff_not];intro e;subst e;rw [ha] at hb;exact he (Option.some.inj hb)

theorem Tryz.noGuard142:Tryz.prog.eqGuardType Tryz.prog.depth 142=false:=by kernel_rfl

theorem Tryz.noHeld142:Tryz.prog.stoodInHeld 142=false:=by kernel_rfl

theorem Tryz.struct142:Tryz.prog.underlying 142=some (.struct (Tryz.prog.fieldsOf 142)):=by kernel_rfl

theorem m5 {α β:Type} (q:α→β) {l:List α} {a b c:β} (h:l.map q=[a,b,c]):∃ x y z,l=[x,y,z]∧q x=a∧q y=b∧q z=c:=by
 cases l with
 | nil=>simp at h
 | cons x l=>
  cases l with
  | nil=>simp at h
  | cons y l=>
   cases l with
   | nil=>simp at h
   | cons z l=>
    simp only [List.map_cons,List.cons.injEq,List.map_eq_nil_iff] at h;obtain ⟨rfl,rfl,rfl,rfl⟩:=h;exact ⟨x,y,z,rfl,rfl,rfl,rfl⟩

theorem nJ (w:World) (x y z x' y' z':Int):(Op.equalIn 10000 142 (.agg #[.int .i64 x,.int .i64 y,.int .i64 z]) (.agg #[.int .i64 x',.int .i64 y',.int .i64 z'])).run Tryz.prog w=.ok (decide ((x,y,z)=(x',y',z'))) w:=by
 rw [run_equalIn_struct w 9999 _ _ _ Tryz.struct142 Tryz.noHeld142];have hi:∀ (d:Nat) (a b:Int) (w:World),(Op.equalIn (d+1) 3 (.int .i64 a) (.int .i64 b)).run Tryz.prog w=.ok (a == b) w:=fun d a b w=>run_equalIn_int w d 3 .i64 .i64 a b Tryz.underlying3
 have hf : (Tryz.prog.fieldsOf 142).toList.map (fun f => (f.name, f.type, f.offset)) = [("Kind", 3, 0), ("A", 3, 1), ("B", 3, 2)] := by kernel_rfl
 generalize (Tryz.prog.fieldsOf 142).toList=fs at hf;obtain ⟨f,g,h,rfl,c,e,i⟩:=m5 _ hf;simp only [Prod.mk.injEq] at c e i;obtain ⟨f1,f2,f3⟩:=c;obtain ⟨g1,g2,g3⟩:=e;obtain ⟨h1,h2,h3⟩:=i;have hq:∀ (xs:Array Value) (j:Nat) (w:World),j<xs.size→(part 3 xs j).run Tryz.prog w=.ok (xs.getD j undef) w:=fun xs j w hj=>by
  simp [part,go_sem,hj]
 simp only [Op.eqFields,f1,f2,f3,g1,g2,g3,h1,h2,h3];by_cases e1:x=x' <;> by_cases e2:y=y' <;> by_cases e3:z=z' <;> simp [hi 9998,hq,e1,e2,e3]

theorem EvAt.kept {w w':World} {g k:Nat} {l:List Ev} {x y z:Int} (h:EvAt w g k l x y z) (hk:Kept ae w w'):EvAt w' g k l x y z:=by
 have hg:g<w.heap.size:=World.block_lt_of_cell? w ⟨g,k*3,none⟩ h.1;have hb:=hk.block g hg (fun f=>f);have hc:∀ j,w'.cell? ⟨g,j,none⟩=w.cell? ⟨g,j,none⟩:=fun j=>World.cell?_of_block (a:=⟨g,j,none⟩) hb
 exact ⟨(hc _).trans h.1,(hc _).trans h.2.1,(hc _).trans h.2.2.1,h.2.2.2⟩

theorem A5 (u v:Value) (a b:List Ev) (w:World) (hu:EvRow w u a) (hv:EvRow w v b) (ba:a.length<1000000000000) :
  Calls Tryz.prog 54 #[u,v] w fun r w'=>r=.returned (.bool (decide (a=b)))∧Kept ae w w':=by
 obtain ⟨ao,ac,rfl,hA⟩:=hu.view;obtain ⟨bo,bc,rfl,hB⟩:=hv.view;clear hu hv;by_cases hl:a.length=b.length
 ·rw [← hl] at hB ⊢;obtain ⟨n,hn⟩:∃ n,n=a.length:=⟨_,rfl⟩
  rw [← hn] at hA hB ba ⊢;have hN:Hid (a.length=n):=hn.symm;have hM:Hid (b.length=n):=(hn.trans hl).symm;clear hl hn;go_enter Tryz.func54,Tryz.ntmps54;go_wp2_with fail;go_loopw [5,6,14] (fun _ _ i wr=>∃ k:Nat,k≤n∧i=.int .i64 k∧a.take k=b.take k∧Kept ae w wr) (fun _ _ i _=>n-(intOf i).toNat)
  case atStart=>exact ⟨0,Nat.zero_le _,rfl,rfl,ag _ _⟩
  case round=>
   obtain ⟨k,hk,rfl,ht,c⟩:=hrel;by_cases hlt:k<n
   ·obtain ⟨ga,ax,ay,az,rfl,f⟩:=hA k hlt;obtain ⟨gb,bx,bY,bz,rfl,g⟩:=hB k hlt;obtain ⟨a0,a1,a2,a3⟩:=f.kept c;obtain ⟨b0,b1,b2,b3⟩:=g.kept c;clear hA hB f g;have d:Hid (a.take k=b.take k):=ht;clear ht;have m:(0:Int)≤(k:Int):=Int.natCast_nonneg _;have h:(k:Int)<(n:Int):=by omega
    have l:=Tryz.noGuard142;have j:gb<wr.heap.size:=World.block_lt_of_cell? wr _ b0;by_cases he:(ax,ay,az)=(bx,bY,bz)
    ·have hq:=fun w=>nJ w ax ay az bx bY bz
     rw [bw he] at hq;have hE:Hid ((ax,ay,az)=(bx,bY,bz)):=he;clear he;go_wp2_with fail;go_quiet (fail);go_wp2;go_roundw
     case rel=>exact ⟨k+1,by omega,by go_num,mZ d.out a3.out (by rw [hE.out];exact b3.out),(c.alloc _).drewN _⟩
     case measure=>simp [intOf];omega
    ·have hq:=fun w=>nJ w ax ay az bx bY bz
     rw [aW he] at hq;have hE:Hid ((ax,ay,az)≠(bx,bY,bz)):=he;clear he;go_wp2_with fail;go_quiet (fail);go_wp2;go_ret;rw [Cf a3.out b3.out hE.out];exact ⟨rfl,(c.alloc _).drewN _⟩
   ·have d:Hid (decide (a=b)=true):=oK hN.out hM.out (by rw [show n=k from by omega];exact ht);clear hA hB ht;have h:¬ (k:Int)<(n:Int):=by omega
    go_wp2;go_ret;rw [d.out];exact ⟨rfl,c⟩
 ·have hd:decide (a=b)=false:=by
   simp only [decide_eq_false_iff_not];intro e;subst e;exact hl rfl
  have o:¬ ((a.length:Int)=(b.length:Int)):=by omega
  rw [hd];clear hA hB hd hl;generalize a.length=n at *;generalize b.length=n' at *;go_enter Tryz.func54,Tryz.ntmps54;go_wp2;go_ret;exact ⟨rfl,ag _ _⟩

def i9 (a b:List Ev):Bool:=decide (a.length=b.length) && (decide (di a=di b) && decide (a.take 1000=b.take 1000))

theorem uT (a:List Ev):(a.take 1000).length<1000000000000:=by rw [List.length_take];omega

theorem CO (p q:Tr) (w:World) (hp:TrIn w p) (hq:TrIn w q) :
  Calls Tryz.prog 23 #[aC p,aC q] w fun r w'=>r=.returned (.bool (i9 (cX p) (cX q)))∧Kept ae w w':=by
 have m1:=oJ p w hp;have m2:=oJ q w hq;have s1:=CQ p w hp;have s2:=CQ q w hq;have e1:=qW p w hp;have e2:=fun w' (hk:Kept ae w w')=>qW q w' (hq.grew hk)
 clear hp hq;generalize aC p=P at *;generalize aC q=Q at *;generalize cX p=a at *;generalize cX q=b at *;clear p q;by_cases h1:a.length=b.length
 ·have d1:((a.length:Int) == (b.length:Int))=true:=by simp [h1]
  by_cases h2:di a=di b
  ·have HR:Hid (i9 a b=decide (a.take 1000=b.take 1000)):=by unfold Hid i9;rw [bw h1,bw h2];rfl
   have d2:(di a == di b)=true:=by simp [h2]
   clear h1 h2;generalize di a=sa at *;generalize di b=sb at *;generalize a.length=na at *;generalize b.length=nb at *;go_enter Tryz.func23,Tryz.ntmps23;go_wp2_with fail;refine m1.mono ?_;rintro e w' ⟨rfl,rfl⟩;go_wp2_with fail;refine m2.mono ?_;rintro e w' ⟨rfl,rfl⟩;go_wp2_with fail;refine s1.mono ?_;rintro e w' ⟨rfl,rfl⟩;go_wp2_with fail;refine s2.mono ?_;rintro e w' ⟨rfl,rfl⟩;go_wp2_with fail;refine e1.mono ?_;rintro e w1 ⟨v1,rfl,r1,_,k1⟩;go_wp2_with fail;refine (e2 _ k1).mono ?_;rintro e w2 ⟨v2,rfl,r2,_,k2⟩;go_wp2_with fail;refine (A5 v1 v2 _ _ w2 (r1.grew k2) r2 (uT a)).mono ?_;rintro e w3 ⟨rfl,k3⟩;go_wp2;go_ret;rw [HR.out];exact ⟨rfl,(k1.trans k2).trans k3⟩
  ·have HR:Hid (i9 a b=false):=by unfold Hid i9;rw [bw h1,aW h2];rfl
   have d2:(di a == di b)=false:=by simpa using h2
   clear h1 h2;generalize di a=sa at *;generalize di b=sb at *;generalize a.length=na at *;generalize b.length=nb at *;go_enter Tryz.func23,Tryz.ntmps23;go_wp2_with fail;refine m1.mono ?_;rintro e w' ⟨rfl,rfl⟩;go_wp2_with fail;refine m2.mono ?_;rintro e w' ⟨rfl,rfl⟩;go_wp2_with fail;refine s1.mono ?_;rintro e w' ⟨rfl,rfl⟩;go_wp2_with fail;refine s2.mono ?_;rintro e w' ⟨rfl,rfl⟩;go_wp2;go_ret;rw [HR.out];exact ⟨rfl,ag _ _⟩
 ·have HR:Hid (i9 a b=false):=by unfold Hid i9;rw [aW h1];rfl
  have d1:((a.length:Int) == (b.length:Int))=false:=by
   simp only [beq_eq_false_iff_ne];omega
  clear h1;generalize a.length=na at *;generalize b.length=nb at *;go_enter Tryz.func23,Tryz.ntmps23;go_wp2_with fail;refine m1.mono ?_;rintro e w' ⟨rfl,rfl⟩;go_wp2_with fail;refine m2.mono ?_;rintro e w' ⟨rfl,rfl⟩;go_wp2;go_ret;rw [HR.out];exact ⟨rfl,ag _ _⟩

def Bp (W0 W:World) (p:Nat) (es:List Ev) (o:Tr):Prop:=TrIn W o∧o≠none∧aC o=.pointer (some ⟨p,0,none⟩)∧cX o=es∧∀ b,aN o b→W0.heap.size≤b

def Duo (W0 W:World) (p q:Nat) (es et:List Ev):Prop:=
 Kept ae W0 W∧∃ o r:Tr,Bp W0 W p es o∧Bp W0 W q et r∧∀ b,aN o b→¬ aN r b

theorem TrIn.apart2 {w w':World} {o q:Tr} {m:List Ev} {o':Tr} (h:TrIn w q) (d:Did w o m w' o') (hd:∀ b,aN q b→¬ aN o b):TrIn w' q:=by
 cases q with
 | none=>trivial
 | some x=>
  obtain ⟨p,g,l⟩:=x;exact ⟨h.1.kept d.kept (hd p (.inl rfl)) (fun x hx=>hd x (.inr hx)),h.2⟩

theorem Duo.swap {W0 W:World} {p q:Nat} {es et:List Ev} (h:Duo W0 W p q es et):Duo W0 W q p et es:=by
 obtain ⟨k,o,r,h1,h2,h3⟩:=h;exact ⟨k,r,o,h2,h1,fun b f g=>h3 b g f⟩

theorem Duo.grew {W0 W W':World} {p q:Nat} {es et:List Ev} (h:Duo W0 W p q es et) (k:Kept ae W W'):Duo W0 W' p q es et:=by
 obtain ⟨k0,o,r,h1,h2,h3⟩:=h;exact ⟨k0.trans k,o,r,⟨h1.1.grew k,h1.2⟩,⟨h2.1.grew k,h2.2⟩,h3⟩

theorem Duo.new (W:World):Duo W ((W.alloc newTr).alloc newTr) W.heap.size (W.heap.size+1) [] []:=by
 have t0:IsTr ((W.alloc newTr).alloc newTr) W.heap.size none []:=(ou W).grew ((ag _ _).alloc _);have t1:IsTr ((W.alloc newTr).alloc newTr) (W.heap.size+1) none []:=by
  have:=ou (W.alloc newTr);simpa using this
 have a:∀ q b,aN (some (q,none,[])) b→b=q:=fun q b f=>by
  rcases f with f | f
  ·exact f
  ·cases f
 refine ⟨((ag _ _).alloc _).alloc _,some (W.heap.size,none,[]),some (W.heap.size+1,none,[]),⟨⟨t0,by simp⟩,by simp,rfl,rfl,fun b f=>by rw [a _ b f];exact leR _⟩,⟨⟨t1,by simp⟩,by simp,rfl,rfl,fun b f=>by rw [a _ b f];omega⟩,fun b f g=>?_⟩;have e1:=a _ b f;have e2:=a _ b g;omega

theorem Duo.same {W0 W:World} {p q:Nat} {es:List Ev} (h:Duo W0 W p q es es) :
  Calls Tryz.prog 23 #[.pointer (some ⟨p,0,none⟩),.pointer (some ⟨q,0,none⟩)] W fun e w'=>e=.returned (.bool true)∧Duo W0 w' p q es es:=by
 have h':=h;obtain ⟨k,o,r,⟨h1,h0,h2,h3,h4⟩,⟨g1,g0,g2,g3,g4⟩,ha⟩:=h;have hS:=CO o r W h1 g1;rw [h2,g2,h3,g3,show i9 es es=true by simp [i9]] at hS;refine hS.mono ?_;rintro e w' ⟨rfl,k⟩;exact ⟨rfl,h'.grew k⟩

theorem Duo.many {W0 W:World} {p q:Nat} {es et:List Ev} (h:Duo W0 W p q es et) :
  Calls Tryz.prog 24 #[.pointer (some ⟨p,0,none⟩)] W fun e w'=>e=.returned (.int .i64 (es.length:Nat))∧w'=W:=by
 obtain ⟨k,o,r,⟨h1,h0,h2,h3,h4⟩,⟨g1,g0,g2,g3,g4⟩,ha⟩:=h;have:=oJ o W h1;rw [h2,h3] at this;exact this

theorem TrIn.keptS {S:Nat→Prop} {w w':World} {o:Tr} (h:TrIn w o) (k:Kept S w w') (hs:∀ x,aN o x→¬ S x):TrIn w' o:=by
 cases o with
 | none=>trivial
 | some x=>
  obtain ⟨p,g,l⟩:=x;exact ⟨h.1.kept k (hs p (.inl rfl)) (fun x hx=>hs x (.inr hx)),h.2⟩

theorem Duo.callS {W0 W:World} {p q f:Nat} {es et:List Ev} {args:Value→Array Value} {S:Nat→Prop} (b:Nat) (R:Value→List Ev→World→Prop) (h:Duo W0 W p q es et) (c:es.length+b<1000000000000) (n:∀ x,S x→W0.heap.size≤x) (hS:∀ o,TrIn W o→∀ x,aN o x→¬ S x)
  (hc:∀ o,TrRoom W o b→(∀ v zs,Row .u64 W0 v zs→RowT W o v zs)→Calls Tryz.prog f (args (aC o)) W fun e w'=>∃ x m,e=.returned x∧R x m w'∧m.length≤b∧∃ w1 o',Kept S W w1∧Did w1 o m w' o') :
  Calls Tryz.prog f (args (.pointer (some ⟨p,0,none⟩))) W fun e w'=>∃ x m,e=.returned x∧R x m w'∧m.length≤b∧Duo W0 w' p q (es ++ m) et:=by
 obtain ⟨k,o,r,⟨h1,h0,h2,h3,h4⟩,⟨g1,g0,g2,g3,g4⟩,ha⟩:=h;rw [← h2];have i:TrRoom W o b:=⟨h1,by rw [h3];exact c⟩
 refine (hc o i (fun v zs hr=>⟨hr.grew k,fun hn b hb f=>?_⟩)).mono ?_
 ·have:=hr.lt hn b hb;have:=h4 b f;omega
 ·rintro e w' ⟨x,m,rfl,hR,hm,w1,o',k1,d⟩;have l:TrIn w1 o:=h1.keptS k1 (hS o h1);have j:TrIn w1 r:=g1.keptS k1 (hS r g1);have a:TrRoom w1 o b:=⟨l,by rw [h3];exact c⟩
  have k':Kept ae W0 w1:=k.next k1 (fun x hx f=>absurd (n x f) (by omega))
  refine ⟨x,m,rfl,hR,hm,?_,o',r,⟨(d.room (k:=0) (a.less (by omega))).1,?_,by rw [d.ptr,h2],by rw [d.evs h0,h3],fun b f=>?_⟩,⟨j.apart2 d (fun b f g=>ha b g f),g0,g2,g3,g4⟩,fun b f g=>?_⟩
  ·exact k'.next d.kept (fun x hx f=>absurd (h4 x f) (by omega))
  ·intro e;have:=d.ptr;rw [e,h2] at this;exact absurd this (by simp [aC])
  ·by_cases hb:b<w1.heap.size
   ·exact h4 b (d.foot hb f)
   ·have:=k'.size;omega
  ·have hb:=j.foot b g;exact ha b (d.foot hb f) g

def zh:Prop:=∃ F:Nat→Nat→Nat→Nat→List Ev,(∀ a b c e,0<(F a b c e).length)∧∀ (o:Tr) (s:KS) (l:KL) (co:Option Addr) (cl cc:Nat) (cs:List Nat) (p:Option Addr) (B:Nat) (bs:List Nat) (at_:Int) (fo:Option Addr) (fl fc:Nat) (fs:List Nat) (w:World),TrRoom w o 1000000000→s.en<18446744073709551616→(∀ v zs,(v,zs) ∈ [(Value.slice s.no s.nl s.nc,l.n),(.slice s.dO s.dl s.dc,l.d),(.slice s.po s.pl s.pc,l.p),(.slice s.qo s.ql s.qc,l.q),(.slice s.dpo s.dpl s.dpc,l.dp),(.slice s.dqo s.dql s.dqc,l.dq),(.slice s.qio s.qil s.qic,l.qi),(.slice fo fl fc,fs)]→RowT w o v zs)→l.Digs→s.light→Row .u8 w (.slice co cl cc) cs→Digs cs 256→cl≤10000→Lsc w p B bs→B≤w.heap.size→Digs bs 256→bs.length≤10000→Digs fs→fl≤1000→AtOk at_ →
 Calls Tryz.prog 19 #[aC o,.agg s.v,.slice co cl cc,.pointer p,.agg #[.int .i64 at_,.slice fo fl fc]] w fun q w'=>∃ v' E,q=.returned (.tuple #[v',.int .i64 ((E:Nat):Int)])∧∃ RL rest m,jV l.n l.d l.p l.q l.dp l.dq l.qi s.en at_ fs cs bs E RL rest∧(Row .u8 w' v' RL∧∀ b,v'.ownBlock=some b→w.heap.size≤b)∧m.length≤1000000000∧((E=0∨E=220)→m=F (ah (val l.n)) (ah (val l.p)) (ah (val l.q)) s.en)∧∃ w1 o',Kept (ofP p) w w1∧Did w1 o m w' o'

theorem lN {Q:Value→List Nat→Prop} {a0 a1 a2 a3 a4 a5 a6 a7:Value} {l0 l1 l2 l3 l4 l5 l6 l7:List Nat} (h0:Q a0 l0) (h1:Q a1 l1) (h2:Q a2 l2) (h3:Q a3 l3) (h4:Q a4 l4) (h5:Q a5 l5) (h6:Q a6 l6) (h7:Q a7 l7):∀ v zs,(v,zs) ∈ [(a0,l0),(a1,l1),(a2,l2),(a3,l3),(a4,l4),(a5,l5),(a6,l6),(a7,l7)]→Q v zs:=by
 intro v zs h;simp only [List.mem_cons,Prod.mk.injEq,List.not_mem_nil,or_false] at h;rcases h with ⟨rfl,rfl⟩ | ⟨rfl,rfl⟩ | ⟨rfl,rfl⟩ | ⟨rfl,rfl⟩ | ⟨rfl,rfl⟩ | ⟨rfl,rfl⟩ | ⟨rfl,rfl⟩ | ⟨rfl,rfl⟩ <;> assumption

theorem jo {w:World} {p:Option Addr} {B:Nat} {bs:List Nat} (h:Lsc w p B bs):∀ o,TrIn w o→∀ x,aN o x→¬ ofP p x:=by
 intro o ht x hf hp;rcases h with ⟨rfl,_⟩ | ⟨b,v,ps,k,rfl,_,hb,_⟩
 ·simp [ofP] at hp
 ·have e:=iV hp;subst e;exact aB hb ht (by decide) (by decide) hf

theorem fK (u:Value) (xs:List Nat) (w:World) (hu:Row .u64 w u xs) (hd:Digs xs) (hl:xs.length≤100000000) :
  Calls Tryz.prog 22 #[u] w fun r w'=>r=.returned (.int .i64 (ah (val xs):Nat))∧Kept ae w w':=by
 have J1:=rOf u xs w hu hd hl;obtain ⟨ao,L,b,rfl,-⟩:=hu.open;clear hu hd hl;generalize val xs=V at *;go_enter Tryz.func22,Tryz.ntmps22;go_wp2_with fail;refine J1.mono ?_;rintro r w1 ⟨v1,rfl,b1,_,k1⟩;obtain ⟨xo,xn,xc,rfl,-,-⟩:=b1.length;have J2:=rW _ V w1 b1;have a:=aa k1;clear J1 b1 k1;go_wp2_with fail;refine J2.mono ?_;rintro r w2 ⟨rfl,rfl⟩;go_wp2_with fail;go_ret;exact ⟨rfl,a.out⟩

end Go.Proofs.YtkaojflnghfmcaaGreatDoor
