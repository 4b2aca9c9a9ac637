/- Put together of: Kex7 LimQ Kex8 Kex9. -/
import Derived.Test.YtkaojflnghfmcaaGreatDoorQC33

namespace Go.Proofs.YtkaojflnghfmcaaGreatDoor
open _root_.Go.Proofs.Tryz
set_option maxRecDepth 100000
set_option maxHeartbeats 4000000
open Go.RowKit

theorem GR (bP bQ bE bK:Nat) (ao bo:Option Addr) (L M D t:Nat) (xs ys:List Nat) (P Q e B:Nat) (hP:P=val xs) (hQ:Q=val ys) (E:L<=300/\eO P) (j:M<=300/\eO Q) (p:fW (di P Q) e=0) (hg:Nat.gcd Q P=1) (a9:Nat.gcd (jL P Q) e=1) (a w:World) (hu:Row .u64 w (.slice ao L D) xs) (hv:Row .u64 w (.slice bo M t) ys) (bL:Digs xs) (bM:Digs ys) (b0:w.cell? ⟨bP,0,none⟩=some (.slice ao L D)) (b1:w.cell? ⟨bQ,0,none⟩=some (.slice bo M t)) (b2:w.cell? ⟨bE,0,none⟩=some (.int .u64 (e:Int))) (ha:Kept af a w) (bJ:a.heap.size<=bK) (hB:w.heap.size=B+1) (bx:w.heap[bK]? = some (.cells zeroKey 26 (0,0))) :
  Calls prog 154 #[.pointer (some ⟨bP,0,none⟩),.pointer (some ⟨bQ,0,none⟩),.pointer (some ⟨bE,0,none⟩),.pointer (some ⟨bK,0,none⟩)] w fun r w'=>OfEnd L M P Q e B bK a w r w':=by
 have bD:0<P*Q:=fI (by have:=E.2.1;omega) (by have:=j.2.1;omega);obtain ⟨np,ap⟩:∃ np,np=ar P:=⟨_,rfl⟩
 obtain ⟨nq,aJ⟩:∃ nq,nq=ar Q:=⟨_,rfl⟩
 obtain ⟨nw,aK⟩:∃ nw,nw=ar (P*Q):=⟨_,rfl⟩
 have bS:=E.2.1;have bW:=j.2.1;have bU:=E.2.2.1;have be:np<=128:=by rw [ap];exact cX (n:=128) (by have:=E.2.2.2;omega)
 have bf:nq<=128:=by rw [aJ];exact cX (n:=128) (by have:=j.2.2.2;omega)
 have al:P<18446744073709551616^np:=(aG P np).1 (by omega);have am:Q<18446744073709551616^nq:=(aG Q nq).1 (by omega);have a8:P*Q<18446744073709551616^(np+nq):=by rw [aN];exact lw al am
 have bg:nw<=np+nq:=by rw [aK];exact (aG _ _).2 a8
 have bF:P*Q<18446744073709551616^nw:=(aG _ nw).1 (by omega);have vP:val (digs P np)=P:=by rw [aB,ax al]
 have vQ:val (digs Q nq)=Q:=by rw [aB,ax am]
 have vN:val (digs (P*Q) nw)=P*Q:=by rw [aB,ax bF]
 have dP:Digs (digs P np):=ak (by omega) _ _;have dQ:Digs (digs Q nq):=ak (by omega) _ _;have dN:Digs (digs (P*Q) nw):=ak (by omega) _ _;have ba:di P Q=digs (P*Q) nw:=by rw [aK];exact jI bD
 have KD:Kept af w w.drew:=(aj af w).drew;have J1:=mR ao L D xs P np hP ap E w.drew (hu.grew KD) bL;have J2:Hid (∀ W,Kept af w W->Calls prog 155 #[.slice bo M t] W fun e w'=>∃ vo vc,e=.returned (.slice vo nq vc)/\Row .u64 w' (.slice vo nq vc) (digs Q nq)/\Fresh W (.slice vo nq vc)/\Kept af W w'):=fun W k=>mR bo M t ys Q nq hQ aJ j W (hv.grew k) bM
 have ad:Hid (∀ W va ca vb cb,Row .u64 W (.slice va np ca) (digs P np)->Row .u64 W (.slice vb nq cb) (digs Q nq)->Calls prog 148 #[.pointer none,.slice va np ca,.slice vb nq cb] W fun e w'=>∃ vo vc,e=.returned (.slice vo (np+nq) vc)/\Row .u64 w' (.slice vo (np+nq) vc) (digs (P*Q) (np+nq))/\Kept af W w'):=fun W va ca vb cb h1 h2=>by
  refine (AJ va vb np nq ca cb _ _ W h1 h2 dP dQ).mono ?_;rintro e w' ⟨v',rfl,hr,k⟩;rw [vP,vQ] at hr;unfold jP at hr;rw [ah (by omega)] at hr;obtain ⟨vo,vn,vc,rfl,hl,_,_,_,_⟩:=hr.open;obtain rfl:np+nq=vn:=by rw [<- hl.out,ag]
  exact ⟨_,_,rfl,hr,k⟩
 have JN:Hid (∀ W v c,Row .u64 W (.slice v (np+nq) c) (digs (P*Q) (np+nq))->Calls prog 156 #[.slice v (np+nq) c] W fun e w'=>∃ vo vc,e=.returned (.slice vo nw vc)/\Row .u64 w' (.slice vo nw vc) (digs (P*Q) nw)/\Fresh W (.slice vo nw vc)/\Kept af W w'):=fun W v c h=>qA v (np+nq) c _ (P*Q) nw (by rw [aB,ax a8]) aK (by omega) W h (ak (by omega) _ _) (by rw [ag];omega)
 have J:Hid (∀ W v c,Row .u64 W (.slice v nw c) (digs (P*Q) nw)->Calls prog 157 #[.slice v nw c,.int .u64 (e:Nat)] W fun r w'=>r=.returned (.int .i64 ((fW (digs (P*Q) nw) e:Nat):Int))/\Kept af W w'):=fun W v c h=>CK v nw c _ e W h dN (by omega)
 have z:=p;rw [ba] at z;have bT:=(mX dN (by rw [ag];omega) e).1 z;rw [vN] at bT;obtain ⟨-,-,bN,cw,bO⟩:=bT;rw [z] at J;have hR:=de 190;have JI:Hid (∀ W va ca vb cb,Row .u64 W (.slice va nq ca) (digs Q nq)->Row .u64 W (.slice vb np cb) (digs P np)->Calls prog 158 #[.slice va nq ca,.slice vb np cb] W fun e w'=>∃ vo vc T,e=.returned (.slice vo np vc)/\Hid (T<P/\Q*T%P=1)/\Row .u64 w' (.slice vo np vc) (digs T np)/\Kept af W w'):=fun W va ca vb cb h1 h2=>E0 va vb nq np ca cb _ _ Q P vQ.symm vP.symm (by omega) bU ap (by omega) (by omega) hg W h1 h2 dQ dP
 obtain ⟨C,hC⟩:∃ C,C=jL P Q:=⟨_,rfl⟩
 obtain ⟨nc,bb⟩:∃ nc,nc=ar C:=⟨_,rfl⟩
 have bC:C<18446744073709551616^(np+nq):=by rw [hC];exact oT al am (by omega) (by omega)
 have bc:nc<=np+nq:=by rw [bb];exact (aG _ _).2 bC
 have ai:C<18446744073709551616^nc:=(aG C nc).1 (by omega);have vC:val (digs C nc)=C:=by rw [aB,ax ai]
 have bB:2<=C:=by rw [hC];exact Ac bS bW
 have ac:Hid (∀ W va ca vb cb,Row .u64 W (.slice va np ca) (digs P np)->Row .u64 W (.slice vb nq cb) (digs Q nq)->Calls prog 161 #[.slice va np ca,.slice vb nq cb] W fun e w'=>∃ vo vc,e=.returned (.tuple #[.slice vo nc vc,.int .i64 0])/\Row .u64 w' (.slice vo nc vc) (digs C nc)/\Kept af W w'):=fun W va ca vb cb h1 h2=>by
  refine (GK va vb np nq ca cb _ _ P Q 0 _ vP.symm vQ.symm (by omega) (by omega) (.inl ⟨rfl,by omega,by omega⟩) (by rw [ah rfl,<- hC,<- bb]) W h1 h2 dP dQ).mono ?_;rintro e w' ⟨v',rfl,hr,_,k⟩;obtain ⟨vo,vn,vc,rfl,hl,_,_,_,_⟩:=hr.open;obtain rfl:nc=vn:=by rw [<- hl.out,ag]
  exact ⟨_,_,rfl,hr,k⟩
 have bG:=fun v n c W=>lZ v n c W
 have JX:Hid (∀ W v c,Row .u64 W (.slice v nc c) (digs C nc)->Calls prog 159 #[.int .u64 (e:Nat),.slice v nc c] W fun r w'=>∃ vo vc d,r=.returned (.slice vo (nc+1) vc)/\Hid (d<C/\e*d%C=1)/\Row .u64 w' (.slice vo (nc+1) vc) (digs d (nc+1))/\Kept af W w'):=fun W v c h=>It v nc c _ C e vC.symm bB bN bO (by omega) (by omega) (by rw [hC];exact a9) W h (ak (by omega) _ _)
 obtain ⟨m,hm⟩:∃ m,m=max np nq:=⟨_,rfl⟩
 have cx:max (np:Int) (nq:Int)=(m:Int):=by omega
 have ct:C<P*Q:=by
  have h1:C<=(P-1)*(Q-1):=by
   rw [hC,jL];exact bI _ (ew _ _)
  have h2:(P-1)*(Q-1)<=(P-1)*Q:=bi _ (by omega);have h3:(P-1)*Q<P*Q:=mA (by omega) (by omega);omega
 have cu:P<18446744073709551616^m:=bd al (aY (by omega) (by omega));have cv:Q<18446744073709551616^m:=bd am (aY (by omega) (by omega));have F1:Hid (∀ W v c d,d<C->Row .u64 W (.slice v (nc+1) c) (digs d (nc+1))->Calls prog 162 #[.slice v (nc+1) c,.int .i64 (nw:Nat)] W fun e w'=>∃ vo vc,e=.returned (.slice vo nw vc)/\Row .u64 w' (.slice vo nw vc) (digs d nw)/\Fresh W (.slice vo nw vc)/\Kept af W w'):=fun W v c d an h=>CJ v (nc+1) c _ d nw (by rw [aB,ax];exact bd (bk an ai) (aY (by omega) (by omega))) (by omega) (by omega) W h (ak (by omega) _ _)
 have FP:Hid (∀ W v c X,X<=P->Row .u64 W (.slice v np c) (digs X np)->Calls prog 162 #[.slice v np c,.int .i64 (m:Nat)] W fun e w'=>∃ vo vc,e=.returned (.slice vo m vc)/\Row .u64 w' (.slice vo m vc) (digs X m)/\Fresh W (.slice vo m vc)/\Kept af W w'):=fun W v c X hX h=>CJ v np c _ X m (by rw [aB,ax (by omega)]) (by omega) (by omega) W h (ak (by omega) _ _)
 have FQ:Hid (∀ W v c X,X<=Q->Row .u64 W (.slice v nq c) (digs X nq)->Calls prog 162 #[.slice v nq c,.int .i64 (m:Nat)] W fun e w'=>∃ vo vc,e=.returned (.slice vo m vc)/\Row .u64 w' (.slice vo m vc) (digs X m)/\Fresh W (.slice vo m vc)/\Kept af W w'):=fun W v c X hX h=>CJ v nq c _ X m (by rw [aB,ax (by omega)]) (by omega) (by omega) W h (ak (by omega) _ _)
 have LP:Hid (∀ W v c,Row .u64 W (.slice v np c) (digs P np)->Calls prog 164 #[.slice v np c] W fun e w'=>∃ vo vc,e=.returned (.slice vo np vc)/\Row .u64 w' (.slice vo np vc) (digs (P-1) np)/\Kept af W w'):=fun W v c h=>vT v np c _ P vP.symm (by omega) (ag _ _ _) (by omega) W h dP
 have LQ:Hid (∀ W v c,Row .u64 W (.slice v nq c) (digs Q nq)->Calls prog 164 #[.slice v nq c] W fun e w'=>∃ vo vc,e=.returned (.slice vo nq vc)/\Row .u64 w' (.slice vo nq vc) (digs (Q-1) nq)/\Kept af W w'):=fun W v c h=>vT v nq c _ Q vQ.symm (by omega) (ag _ _ _) (by omega) W h dQ
 have RP:Hid (∀ W v c v2 c2 d,d<C->Row .u64 W (.slice v (nc+1) c) (digs d (nc+1))->Row .u64 W (.slice v2 np c2) (digs (P-1) np)->Calls prog 163 #[.slice v (nc+1) c,.slice v2 np c2] W fun e w'=>∃ vo vc,e=.returned (.slice vo np vc)/\Row .u64 w' (.slice vo np vc) (digs (d%(P-1)) np)/\Kept af W w'):=fun W v c v2 c2 d an h1 h2=>vU v v2 (nc+1) np c c2 _ _ d (P-1) (by rw [aB,ax];exact bd (bk an ai) (aY (by omega) (by omega))) (by rw [aB,ax (by omega)]) (by omega) (by omega) (by omega) W h1 h2 (ak (by omega) _ _) (ak (by omega) _ _)
 have RQ:Hid (∀ W v c v2 c2 d,d<C->Row .u64 W (.slice v (nc+1) c) (digs d (nc+1))->Row .u64 W (.slice v2 nq c2) (digs (Q-1) nq)->Calls prog 163 #[.slice v (nc+1) c,.slice v2 nq c2] W fun e w'=>∃ vo vc,e=.returned (.slice vo nq vc)/\Row .u64 w' (.slice vo nq vc) (digs (d%(Q-1)) nq)/\Kept af W w'):=fun W v c v2 c2 d an h1 h2=>vU v v2 (nc+1) nq c c2 _ _ d (Q-1) (by rw [aB,ax];exact bd (bk an ai) (aY (by omega) (by omega))) (by rw [aB,ax (by omega)]) (by omega) (by omega) (by omega) W h1 h2 (ak (by omega) _ _) (ak (by omega) _ _)
 have cg:Hid (∀ d,d%(P-1)<=P):=fun d=>by have:=ay d (show 0<P-1 by omega);omega
 have ch:Hid (∀ d,d%(Q-1)<=Q):=fun d=>by have:=ay d (show 0<Q-1 by omega);omega
 have bs:=aa ba;have V:Hid (m=max (ar P) (ar Q)):=by rw [hm,ap,aJ];rfl
 have bp:=aa hC;have cj:Hid (iL L M P Q e):=⟨⟨E.1,j.1⟩,E.2,j.2,by rw [i8];exact hg,p,by rw [i8];exact a9⟩
 have b9:Hid (∀ W,Kept af w W->W.heap[bK]? = some (.cells zeroKey 26 (0,0))):=fun W k=>(k.block _ (lt_of_block bx) (fun f=>f)).trans bx
 have ce:Hid (bK<w.heap.size):=lt_of_block bx;have cf:=aa hB;have HA:=aa ha;have b8:=aa bJ;have cy:bE≠bK:=fun h=>by
  subst h;rw [cell_of_row w _ 0 _ _ _ bx] at b2;cases b2
 clear bN cw bO hg a9 hC bb bC bc ai vC bB hm ct cu cv ha bJ hB bx hu hv bL bM hP hQ E j bD ap aJ aK bS bW bU be bf al am a8 bg bF vP vQ vN dP dQ dN ba z p;go_enter func154,ntmps154;go_wp2_with fail;refine wp_region_held_drew (S:=fun w'=>w'.cell? ⟨bP,0,none⟩=some (.slice ao L D)/\w'.cell? ⟨bQ,0,none⟩=some (.slice bo M t)) (by kernel_rfl) ⟨b0,b1⟩ (fun hS=>?_);refine aT 0 (some 10) (.slice ao L D) hS ?_ (y:=.inl ⟨by rfl,fun w h=>by simp [execOp,go_sem,h.1]⟩);simp only [Act.put,lsA,lsS,lsZ];refine aT 2 (some 12) (.slice bo M t) hS ?_ (y:=.inl ⟨by rfl,fun w h=>by simp [execOp,go_sem,h.2]⟩);simp only [Act.put,lsA,lsS,lsZ]
 refine bV 1 (some 11) 155 [.slice ao L D] (J1) ?_;rintro e w4 ⟨vp,cp,rfl,bZ,_,k4⟩;have aH:w4.cell? ⟨bP,0,none⟩=some (.slice ao L D)/\w4.cell? ⟨bQ,0,none⟩=some (.slice bo M t):=⟨k4.cellN hS.1,k4.cellN hS.2⟩
 refine .inl ⟨_,rfl,aH,?_⟩;simp only [Act.put,lsA,lsS,lsZ];refine bV 3 (some 13) 155 [.slice bo M t] (J2.out w4 (KD.trans k4)) ?_;rintro e w5 ⟨vq,cq,rfl,b3,_,k5⟩;have aI:w5.cell? ⟨bP,0,none⟩=some (.slice ao L D)/\w5.cell? ⟨bQ,0,none⟩=some (.slice bo M t):=⟨k5.cellN aH.1,k5.cellN aH.2⟩
 refine .inl ⟨_,rfl,aI,?_⟩;simp only [Act.put,lsA,lsS,lsZ];refine aT 4 (some 4) (.slice vp np cp) aI ?_;simp only [Act.put,lsA,lsS,lsZ];refine aT 5 (some 5) (.slice vq nq cq) aI ?_;simp only [Act.put,lsA,lsS,lsZ];refine wpAnyH_done (by kernel_rfl) ?_ _;have aS:=aa ((KD.trans k4).trans k5);have aW:=aa (bZ.grew k5);have aZ:=aa b3;have J5:=ad.out w5 vp cp vq cq aW.out aZ.out;clear J1 J2 KD k4 k5 bZ b3 hS aH aI ad b0 b1;go_wp2_with fail;refine J5.mono ?_;rintro e6 w6 ⟨vm,cm,rfl,bX,k6⟩;have J6:=JN.out w6 vm cm bX;clear J5 bX JN;go_wp2_with fail;refine J6.mono ?_;rintro e6 w7 ⟨vn,cn,rfl,bh,bR,k7⟩;have aU:=aa (aS.out.trans (k6.trans k7))
 have bv:=aa (aW.out.grew (k6.trans k7));have bw:=aa (aZ.out.grew (k6.trans k7));have bt:=aa bh;have bq:=aa (bR.after (aS.out.trans k6));have J7:=J.out w7 vn cn bh;have c7:=aU.out.cellN b2;clear J6 bh bR k6 k7 aS aW aZ J;go_wp2_with fail;refine J7.mono ?_;rintro e6 w8 ⟨rfl,k8⟩;have br:=aa (aU.out.trans k8);have aX:=aa (bv.out.grew k8);have a0:=aa (bw.out.grew k8);have bu:=aa (bt.out.grew k8);clear J7 k8 aU bv bw bt;go_wp2_with fail;refine (hR _).mono ?_;rintro e6 w9 ⟨rfl,rfl⟩;have J9:=JI.out w9 vq cq vp cp a0.out aX.out;clear hR JI;go_wp2_with fail;refine J9.mono ?_;rintro e6 bm ⟨vi,ci,T,rfl,HT,aq,aw⟩
 have G:=aa (br.out.trans aw);have H:=aa (aX.out.grew aw);have I:=aa (a0.out.grew aw);have Y:=aa (bu.out.grew aw);have U:=aa aq;have o:Kept af bm bm.drew:=(aj af bm).drew;have bz:=G.out.cellN b2;clear J9 aq aw br aX a0 bu c7;go_wp2_with fail;refine wp_region_held_drew (S:=fun w'=>w'.cell? ⟨bE,0,none⟩=some (.int .u64 (e:Int))) (by kernel_rfl) bz (fun hS=>?_);refine aT 0 (some 26) (.int .u64 (e:Int)) hS ?_ (y:=.inl ⟨by rfl,fun w h=>by simp [execOp,go_sem,h]⟩);simp only [Act.put,lsA,lsS,lsZ];refine aT 1 (some 27) (.slice vp np cp) hS ?_;simp only [Act.put,lsA,lsS,lsZ];refine aT 2 (some 28) (.slice vq nq cq) hS ?_
 simp only [Act.put,lsA,lsS,lsZ];refine bV 3 (some 29) 161 [.slice vp np cp,.slice vq nq cq] (ac.out _ vp cp vq cq (H.out.grew o) (I.out.grew o)) ?_;rintro e6 cB ⟨vc,cc,rfl,au,aL⟩;have l:=aL.cellN hS;refine .inl ⟨_,rfl,l,?_⟩;simp only [Act.put,lsA,lsS,lsZ];refine aT 4 (some 30) (.slice vc nc cc) l ?_;simp only [Act.put,lsA,lsS,lsZ];refine aT 5 (some 31) (.int .i64 0) l ?_;simp only [Act.put,lsA,lsS,lsZ];refine bV 6 (some 32) 160 [.slice vc nc cc,.int .i64 0] (bG vc nc cc cB) ?_;rintro e6 cO ⟨rfl,bj⟩;subst bj;refine .inl ⟨_,rfl,l,?_⟩;simp only [Act.put,lsA,lsS,lsZ]
 refine bV 7 (some 33) 159 [.int .u64 (e:Int),.slice vc nc cc] (JX.out _ vc cc au) ?_;rintro e6 bn ⟨vd,cd,d,rfl,HD,av,aM⟩;have N:=aM.cellN l;refine .inl ⟨_,rfl,N,?_⟩;simp only [Act.put,lsA,lsS,lsZ];refine aT 8 (some 8) (.slice vd (nc+1) cd) N ?_;simp only [Act.put,lsA,lsS,lsZ];refine wpAnyH_done (by kernel_rfl) ?_ _;have b:=aa (G.out.trans ((o.trans aL).trans aM));have q:=(o.trans aL).trans aM;have Z:=aa (H.out.grew q);have ab:=aa (I.out.grew q);have aV:=aa (Y.out.grew q);have aR:=aa (U.out.grew q);have F:=aa av;have s:=b.out.cellN b2
 clear G H I Y U o aL aM q au av hS l N bz ac JX bG;have a1:Kept af bn bn.drew:=(aj af bn).drew;go_wp2_with fail;go_region_held3 (fun w'=>w'.cell? ⟨bE,0,none⟩=some (.int .u64 (e:Int)))
  (((try dsimp only);first | (with_reducible assumption) | (with_reducible refine GT ?_ ?_;(with_reducible assumption);(dsimp only;exact cy)) | (go_keep;done)))
  (first
  | (go_at_call 162;refine (FP.out _ vi ci T (fE HT.out.1) (aR.out.grew aF)).mono ?_;rintro e6 cC ⟨b6,b4,rfl,cA,cs,R⟩;have ae:=aF.trans R;have cM:=ae.cellN s;have g:=b9.out cC (b.out.trans ae);obtain ⟨g0,g1,g2,g3,g4,g5,g6,g7⟩:=bH g;have q0:=dh g 0;have q1:=dh g 1;have q2:=dh g 2;have q3:=dh g 3;have q4:=dh g 4;have q5:=dh g 5;have q6:=dh g 6;have q7:=dh g 7)
  | (go_at_call 162;refine (FQ.out _ z8 y8 _ (ch.out d) s8).mono ?_;rintro e6 cY ⟨z9,y9,rfl,s9,f9,aC⟩;have aF:=a7.trans aC;have cL:=aF.cellN s)
  | (go_at_call 163;refine (RQ.out _ vd cd z7 y7 d HD.out.1 (F.out.grew a6) s7).mono ?_;rintro e6 cW ⟨z8,y8,rfl,s8,aA⟩;have a7:=a6.trans aA;have cK:=a7.cellN s)
  | (go_at_call 164;refine (LQ.out _ vq cq (ab.out.grew a5)).mono ?_;rintro e6 cV ⟨z7,y7,rfl,s7,az⟩;have a6:=a5.trans az;have cJ:=a6.cellN s)
  | (go_at_call 162;refine (FP.out _ z5 y5 _ (cg.out d) s5).mono ?_;rintro e6 cU ⟨z6,y6,rfl,s6,f6,aQ⟩;have a5:=a4.trans aQ;have cI:=a5.cellN s)
  | (go_at_call 163;refine (RP.out _ vd cd z4 y4 d HD.out.1 (F.out.grew a3) s4).mono ?_;rintro e6 cT ⟨z5,y5,rfl,s5,aP⟩;have a4:=a3.trans aP;have cH:=a4.cellN s)
  | (go_at_call 164;refine (LP.out _ vp cp (Z.out.grew a2)).mono ?_;rintro e6 cS ⟨z4,y4,rfl,s4,aO⟩;have a3:=a2.trans aO;have cG:=a3.cellN s)
  | (go_at_call 162;refine (FQ.out _ vq cq Q (leR _) (ab.out.grew aE)).mono ?_;rintro e6 cR ⟨z3,y3,rfl,s3,f3,bl⟩;have a2:=aE.trans bl;have cF:=a2.cellN s)
  | (go_at_call 162;refine (FP.out _ vp cp P (leR _) (Z.out.grew aD)).mono ?_;rintro e6 cQ ⟨z2,y2,rfl,s2,f2,bY⟩;have aE:=aD.trans bY;have cE:=aE.cellN s)
  | (go_at_call 162;refine (F1.out _ vd cd d HD.out.1 (F.out.grew a1)).mono ?_;rintro e6 cP ⟨z1,y1,rfl,s1,f1,cz⟩;have aD:=a1.trans cz;have cD:=aD.cellN s))
 go_end0
 have e1:Fresh w (.slice z1 nw y1):=fun x hx=>by have h1:=f1 x hx;have h2:=(b.out.trans a1).size;omega
 have e2:Fresh w (.slice z2 m y2):=f2.after (b.out.trans aD);have e3:Fresh w (.slice z3 m y3):=f3.after (b.out.trans aE);have e6:Fresh w (.slice z6 m y6):=f6.after (b.out.trans a4);have e9:Fresh w (.slice z9 m y9):=f9.after (b.out.trans a7);have bA:Fresh w (.slice b6 m b4):=cs.after (b.out.trans aF);obtain ⟨b5,b7,A⟩:=oM (HA.out.trans (b.out.trans ae)) b8.out g (.slice vn nw cn) (.int .u64 (e:Nat)) (.slice z1 nw y1) (.slice z2 m y2) (.slice z3 m y3) (.slice z6 m y6) (.slice z9 m y9) (.slice b6 m b4);unfold oe at b5 b7 A;have i:∀ v,Fresh w v->∀ x,v.ownBlock=some x->B<x:=fun v h x hx=>by have h1:=h x hx;have h2:=cf.out;omega
 have O:∀ v,Fresh w v->∀ x,v.ownBlock=some x->¬ x=bK:=fun v h x hx cN=>by have h1:=h x hx;have h2:=ce.out;omega
 have ck:=bY.trans (bl.trans (aO.trans (aP.trans (aQ.trans (az.trans (aA.trans (aC.trans R)))))));have cl:=bl.trans (aO.trans (aP.trans (aQ.trans (az.trans (aA.trans (aC.trans R))))));have co:=aO.trans (aP.trans (aQ.trans (az.trans (aA.trans (aC.trans R)))));have cr:=az.trans (aA.trans (aC.trans R));refine .inl ⟨cj.out,rfl,_,b5,⟨_,_,_,_,_,_,_,d,T,rfl,?_,?_,?_,?_,?_,?_,?_,?_,HT.out.1,HT.out.2,?_⟩,CO (i _ bq.out) (i _ e1) (i _ e2) (i _ e3) (i _ e6) (i _ e9) (i _ bA),(b.out.trans ae).any.trans A,b7⟩
 ·rw [bs.out];exact (aV.out.grew ae).kept A (O _ bq.out)
 ·rw [<- bp.out];exact HD.out.1
 ·rw [<- bp.out];exact HD.out.2
 ·rw [bs.out,ag];exact (s1.grew ck).kept A (O _ e1)
 ·rw [<- V.out];exact (s2.grew cl).kept A (O _ e2)
 ·rw [<- V.out];exact (s3.grew co).kept A (O _ e3)
 ·rw [<- V.out];exact (s6.grew cr).kept A (O _ e6)
 ·rw [<- V.out];exact (s9.grew R).kept A (O _ e9)
 ·rw [<- V.out];exact cA.kept A (O _ bA)

theorem Iv (u v:Value) (xs ys:List Nat) (w:World) (hu:Row .u64 w u xs) (hv:Row .u64 w v ys) (a:Digs xs) (b:Digs ys) (hL:xs.length<=100000000) (hM:ys.length<=100000000) :
  Calls prog 133 #[.pointer none,u,v] w fun e w'=>e=.returned (.int .u64 (cY (decide (val xs<val ys)):Nat))/\Kept af w w':=by
 refine (qC none u v xs ys w (TrRoom.none w 1 (by omega)) (RowT.none hu) (RowT.none hv) a b hL hM).mono ?_;rintro e w' ⟨rfl,o',hd⟩;exact ⟨rfl,hd.none.2⟩

theorem CP (u v:Value) (xs ys:List Nat) (w:World) (hu:Row .u64 w u xs) (hv:Row .u64 w v ys) (a:Digs xs) (b:Digs ys) (hL:xs.length<=100000000) (hM:ys.length<=100000000) :
  Calls prog 93 #[.pointer none,u,v] w fun e w'=>e=.returned (.int .u64 (cY (decide (val xs=val ys)):Nat))/\Kept af w w':=by
 refine (pn none u v xs ys w (TrRoom.none w 1 (by omega)) (RowT.none hu) (RowT.none hv) a b hL hM).mono ?_;rintro e w' ⟨rfl,o',hd⟩;exact ⟨rfl,hd.none.2⟩

theorem kOf (ao bo:Option Addr) (L M c g:Nat) (xs ys:List Nat) (P Q e:Nat) (w:World) (hP:P=val xs) (hQ:Q=val ys) (hu:Row .u64 w (.slice ao L c) xs) (hv:Row .u64 w (.slice bo M g) ys) (h:Digs xs) (j:Digs ys) (hL:L<=1000) (hM:M<=1000) :
  Calls prog 106 #[.slice ao L c,.slice bo M g,.int .u64 (e:Nat)] w fun r w'=>∃ kv E,r=.returned (.tuple #[.agg kv,.int .i64 ((E:Nat):Int)])/\((E=0/\iL L M P Q e/\KeyAt w' P Q e kv)\/(E=190/\¬ iL L M P Q e/\kv=zeroKey))/\kJ w.heap.size kv/\Kept af w w':=by
 have al:=im;have he:∀ args w,(callFunc 154 args).run prog w=.ok (.enter 154 args) w:=fun _ _=>by simp [go_sem]
 have V:=tV w (.slice ao L c) (.slice bo M g) (.int .u64 (e:Nat)) 23 23 24;obtain ⟨W0,J⟩:∃ W0,W0=((w.alloc (.cells #[.slice ao L c] 23)).alloc (.cells #[.slice bo M g] 23)).alloc (.cells #[.int .u64 (e:Nat)] 24):=⟨_,rfl⟩
 rw [<- J] at V;obtain ⟨k0,x1,x2,x3,hs⟩:=V;obtain ⟨W,hW⟩:∃ W,W=W0.alloc (.cells zeroKey 26):=⟨_,rfl⟩
 have kW:Kept af W0 W:=by rw [hW];exact (aj af W0).alloc _
 have N:W.heap.size=W0.heap.size+1:=by rw [hW];simp
 have bK:W.heap[W0.heap.size]? = some (.cells zeroKey 26 (0,0)):=by rw [hW];exact heap_alloc_new _ _
 rw [hs] at bK N;have kE:=(aj af W).alloc (.cells #[.int .i64 0] 32);have xe:Box (W.alloc (.cells #[.int .i64 0] 32)) W.heap.size (.int .i64 0) 32:=Box.new W (.int .i64 0) 32;have Z:(W.alloc (.cells #[.int .i64 0] 32)).heap.size=W.heap.size+1:=by simp
 have k1:Kept af w (W.alloc (.cells #[.int .i64 0] 32)):=(k0.trans kW).trans kE;have o:(W.alloc (.cells #[.int .i64 0] 32)).heap[w.heap.size+1+1+1]? = some (.cells zeroKey 26 (0,0)):=au bK;have c0:=((x1.grew kW).grew kE).cell;have c1:=((x2.grew kW).grew kE).cell;have c2:=((x3.grew kW).grew kE).cell;have k:Calls prog 154 #[.pointer (some ⟨w.heap.size,0,none⟩),.pointer (some ⟨w.heap.size+1,0,none⟩),.pointer (some ⟨w.heap.size+1+1,0,none⟩),.pointer (some ⟨w.heap.size+1+1+1,0,none⟩)] (W.alloc (.cells #[.int .i64 0] 32)) fun r w'=>OfEnd L M P Q e W.heap.size (w.heap.size+1+1+1) w (W.alloc (.cells #[.int .i64 0] 32)) r w':=by
  by_cases hA:L<=300/\eO P
  ·by_cases hB:M<=300/\eO Q
   ·by_cases hC:fW (di P Q) e=0
    ·by_cases hD:Nat.gcd Q P=1
     ·by_cases hE:Nat.gcd (jL P Q) e=1
      ·exact GR _ _ _ _ ao bo L M c g xs ys P Q e _ hP hQ hA hB hC hD hE _ _ (hu.grew k1) (hv.grew k1) h j c0 c1 c2 k1 (by omega) Z o
      ·exact GQ _ _ _ _ ao bo L M c g xs ys P Q e _ hP hQ hA hB hC hD hE _ _ (hu.grew k1) (hv.grew k1) h j c0 c1 c2
     ·exact GP _ _ _ _ ao bo L M c g xs ys P Q e _ hP hQ hA hB hC hD _ _ (hu.grew k1) (hv.grew k1) h j c0 c1 c2
    ·exact GO _ _ _ _ ao bo L M c g xs ys P Q e _ hP hQ hA hB hC _ _ (hu.grew k1) (hv.grew k1) h j c0 c1 c2
   ·exact GN _ _ _ _ ao bo L M c g xs ys P Q e _ hP hQ hM hA hB _ _ (hu.grew k1) (hv.grew k1) h j c0 c1
  ·exact GM _ _ _ _ ao bo L M c g xs P Q e _ hP hL hA _ _ (hu.grew k1) h c0 c1
 have T:=mO 154 _ W (fun n W'=>(n=0/\iL L M P Q e/\∃ kv,W'.heap[w.heap.size+1+1+1]? = some (.cells kv 26 (0,0))/\KeyAt W' P Q e kv/\kJ W.heap.size kv/\Kept af w W')\/(n=190/\¬ iL L M P Q e/\W'.heap[w.heap.size+1+1+1]? = some (.cells zeroKey 26 (0,0))/\Kept af w W')) he (k.mono (by
  rintro r w' (⟨C,rfl,kv,h1,h2,h3,h4,h5⟩ | ⟨B,rfl,h1⟩)
  ·exact ⟨xe.kept h4 (by omega),.inl ⟨rfl,.inl ⟨rfl,C,kv,h1,h2,h3,h5⟩⟩⟩
  ·exact ⟨xe.grew h1,.inr ⟨_,rfl,.inr ⟨rfl,B,(h1.block _ (lt_of_block o) (fun f=>f)).trans o,k1.trans h1⟩⟩⟩))
 have ai:=aa J;have HW:=aa hW;have i:=aa N;have ah:=aa hs;clear hu hv h j hP hQ hL hM k0 kW kE k1 x1 x2 x3 xe hs Z J hW N bK o c0 c1 c2 he k;unfold zeroKey at HW;go_enter func106,ntmps106;go_wp2_with (first | rw [<- ai.out] | rw [<- HW.out]);rw [ah.out];refine T.mono ?_;rintro r w' ⟨n,w1,rfl,⟨hq,U⟩,rfl⟩;clear T;rcases hq with ⟨rfl,C,kv,hx,A,hfar,hk⟩ | ⟨rfl,B,hx,hk⟩
 ·obtain ⟨vn,vd,vp,vq,am,an,ap,d,u,rfl,rn,X,Y,rd,rp,rq,O,R,ab,ac,S⟩:=A;obtain ⟨no,nl,nc,rfl,-,-,-,-,-⟩:=rn.open;obtain ⟨dO,dl,dc,rfl,-,-,-,-,-⟩:=rd.open;obtain ⟨po,pl,pc,rfl,-,-,-,-,-⟩:=rp.open;obtain ⟨qo,ql,qc,rfl,-,-,-,-,-⟩:=rq.open;obtain ⟨s,q,p,rfl,-,-,-,-,-⟩:=O.open;obtain ⟨z,y,t,rfl,-,-,-,-,-⟩:=R.open;obtain ⟨G,F,D,rfl,-,-,-,-,-⟩:=S.open;have A:KeyAt w1 P Q e #[.slice no nl nc,.int .u64 (e:Nat),.slice dO dl dc,.slice po pl pc,.slice qo ql qc,.slice s q p,.slice z y t,.slice G F D]:=⟨_,_,_,_,_,_,_,d,u,rfl,rn,X,Y,rd,rp,rq,O,R,ab,ac,S⟩
  have kb:=aD w1 W.heap.size (.int .i64 0);have l:=A.kept kb (fun v hv x hx ak=>by have:=hfar v hv x hx;omega);have b:=fM hx (a:=⟨W.heap.size,0,none⟩) (by show _≠W.heap.size;have:=i.out;omega) (.int .i64 0);have m:=hk.next kb (fun x hx e=>by have:=i.out;omega)
  obtain ⟨z1,z2,z3⟩:=oM m (by omega:w.heap.size<=w.heap.size+1+1+1) b (.slice no nl nc) (.int .u64 (e:Nat)) (.slice dO dl dc) (.slice po pl pc) (.slice qo ql qc) (.slice s q p) (.slice z y t) (.slice G F D);unfold oe at z1 z2 z3;have ad:=aa (l.kept z3 (fun v hv x hx ak=>by have h1:=hfar v hv x hx;have h2:=i.out;omega));have H:Hid (kJ w.heap.size #[.slice no nl nc,.int .u64 (e:Nat),.slice dO dl dc,.slice po pl pc,.slice qo ql qc,.slice s q p,.slice z y t,.slice G F D]):=fun v hv x hx=>by have h1:=hfar v hv x hx;have h2:=i.out;omega
  have I:=aa z2;obtain ⟨r0,r1,r2,r3,r4,r5,r6,r7⟩:=bH z1;obtain ⟨c0,c1,c2,c3,c4,c5,c6,c7⟩:=bH b;have f0:=dh b 0;have f1:=dh b 1;have f2:=dh b 2;have f3:=dh b 3;have f4:=dh b 4;have f5:=dh b 5;have f6:=dh b 6;have f7:=dh b 7;have ag:=aa C;clear rn rd rp rq O R S A kb l hx hk m hfar b z1 z2 z3 U C X Y ab ac;generalize w1.setCell ⟨W.heap.size,0,none⟩ (.int .i64 0)=W2 at *;go_wp2_with fail
  exact bodyPost_ret (v:=.tuple #[.agg #[.slice no nl nc,.int .u64 (e:Nat),.slice dO dl dc,.slice po pl pc,.slice qo ql qc,.slice s q p,.slice z y t,.slice G F D],.int .i64 0]) (by simp [results,results106,go_sem,r0,r1,r2,r3,r4,r5,r6,r7]) rfl ⟨_,0,rfl,.inl ⟨rfl,ag.out,ad.out⟩,H.out,I.out⟩
 ·have kb:=aD w1 W.heap.size (.int .i64 190);have b:=fM hx (a:=⟨W.heap.size,0,none⟩) (by show _≠W.heap.size;have:=i.out;omega) (.int .i64 190);have m:=hk.next kb (fun x hx e=>by have:=i.out;omega)
  obtain ⟨z1,z2,-⟩:=oM m (by omega:w.heap.size<=w.heap.size+1+1+1) b (.slice none 0 0) (.int .u64 0) (.slice none 0 0) (.slice none 0 0) (.slice none 0 0) (.slice none 0 0) (.slice none 0 0) (.slice none 0 0);unfold oe at z1 z2;have I:=aa z2;obtain ⟨r0,r1,r2,r3,r4,r5,r6,r7⟩:=bH z1;obtain ⟨c0,c1,c2,c3,c4,c5,c6,c7⟩:=bH b;have f0:=dh b 0;have f1:=dh b 1;have f2:=dh b 2;have f3:=dh b 3;have f4:=dh b 4;have f5:=dh b 5;have f6:=dh b 6;have f7:=dh b 7;have ae:=aa B;clear kb hx hk m b z1 z2 U B;generalize w1.setCell ⟨W.heap.size,0,none⟩ (.int .i64 190)=W2 at *;go_wp2_with fail
  exact bodyPost_ret (v:=.tuple #[.agg zeroKey,.int .i64 190]) (by simp [results,results106,go_sem,r0,r1,r2,r3,r4,r5,r6,r7]) rfl ⟨_,190,rfl,.inr ⟨rfl,ae.out,rfl⟩,tR _,I.out⟩

theorem EY (b n:Nat) (hn:n<=1000) (A A':Nat->Option Addr) (F G F' G':Nat->Nat) (X Y:Nat->List Nat) (w:World)
  (hc:∀ i,i<n->w.cell? ⟨b,i*2,none⟩=some (.slice (A i) (F i) (G i))/\w.cell? ⟨b,i*2+1,none⟩=some (.slice (A' i) (F' i) (G' i)))
  (hr:∀ i,i<n->Row .u64 w (.slice (A i) (F i) (G i)) (X i)/\Row .u64 w (.slice (A' i) (F' i) (G' i)) (Y i)/\Digs (X i)/\Digs (Y i)/\(Y i).length<=1000) (R:Bool) (hR:R=true↔∀ i,i<n->X i=Y i) :
  Calls prog 108 #[.slice (some ⟨b,0,none⟩) n n] w fun e w'=>e=.returned (.bool R)/\Kept af w w':=by
 have HC:=aa hc;have HR:=aa hr;have C:=aa hR;clear hc hr hR;go_enter func108,ntmps108;go_wp2_with fail;go_loopw [7] (fun i wr=>∃ k:Nat,k<=n/\i=.int .i64 (k:Int)/\Hid (∀ j,j<k->X j=Y j)/\Hid (Kept af w wr)) (fun i _=>((n:Int)-intOf i).toNat)
 case atStart=>exact ⟨0,aP _,rfl,fun j hj=>by omega,aj _ _⟩
 case round=>
  obtain ⟨k,hk,rfl,l,HK⟩:=hrel;by_cases hkn:k<n
  ·have E:(k:Int)<(n:Int):=by omega
   obtain ⟨q0,q1⟩:=HC.out k hkn;have p0:=HK.out.cellN q0;have p1:=HK.out.cellN q1;obtain ⟨rx,ry,dx,dy,y⟩:=HR.out k hkn;have rx:=rx.grew HK.out;have ry:=ry.grew HK.out;obtain ⟨xs,d⟩:∃ xs,xs=X k:=⟨_,rfl⟩
   obtain ⟨ys,f⟩:∃ ys,ys=Y k:=⟨_,rfl⟩
   obtain ⟨ao,q⟩:∃ ao,ao=A k:=⟨_,rfl⟩
   obtain ⟨bo,r⟩:∃ bo,bo=A' k:=⟨_,rfl⟩
   obtain ⟨la,v⟩:∃ la,la=F k:=⟨_,rfl⟩
   obtain ⟨ca,s⟩:∃ ca,ca=G k:=⟨_,rfl⟩
   obtain ⟨lb,x⟩:∃ lb,lb=F' k:=⟨_,rfl⟩
   obtain ⟨cb,t⟩:∃ cb,cb=G' k:=⟨_,rfl⟩
   rw [<- q,<- v,<- s] at p0 rx;rw [<- r,<- x,<- t] at p1 ry;rw [<- d] at rx dx;rw [<- f] at ry dy y;have p:Hid (xs=ys->∀ j,j<k+1->X j=Y j):=fun h j hj=>by
    by_cases e:j=k
    ·subst e;rw [<- d,<- f];exact h
    ·exact l.out j (by omega)
   have g:Hid (xs≠ys->R=false):=fun h=>by
    cases e:R with
    | false=>rfl
    | true=>exact absurd (by rw [d,f];exact C.out.1 e k hkn) h
   obtain ⟨_,_,_,e1,c,-,-,-,-⟩:=rx.open;cases e1
   obtain ⟨_,_,_,e1,a,-,-,-,-⟩:=ry.open;cases e1
   obtain ⟨W,hW⟩:∃ W,W=wr.alloc (.cells #[.slice ao la ca,.slice bo lb cb] 154):=⟨_,rfl⟩
   have kW:Kept af wr W:=by rw [hW];exact (aj af wr).alloc _
   have hb:W.heap[wr.heap.size]? = some (.cells #[.slice ao la ca,.slice bo lb cb] 154 (0,0)):=by rw [hW];exact heap_alloc_new _ _
   have s0:W.cell? ⟨wr.heap.size,0,none⟩=some (.slice ao la ca):=(cell_of_row W _ 0 _ _ _ hb).trans rfl;have s1:W.cell? ⟨wr.heap.size,1,none⟩=some (.slice bo lb cb):=(cell_of_row W _ 1 _ _ _ hb).trans rfl;have HW:=aa hW;have B:=aa (HK.out.trans kW);have m:=aa c.out;have o:=aa a.out;by_cases hlen:la=lb
   ·have J:=CP _ _ xs ys W (rx.grew kW) (ry.grew kW) dx dy (by rw [c.out,hlen,<- a.out];omega) (by omega);have g0:¬ (la:Int)≠(lb:Int):=by omega
    have g1:(la:Int)=(lb:Int):=by omega
    have g2:((la:Int) != (lb:Int))=false:=by simpa using g1
    by_cases hv:val xs=val ys
    ·have D:xs=ys:=by
      have i1:xs=digs (val xs) la:=b8 (by omega) dx c.out (by rw [ax];rw [<- c.out];exact aE (by omega) dx);have i2:ys=digs (val ys) la:=b8 (by omega) dy (by rw [a.out,hlen]) (by rw [ax];rw [hlen,<- a.out];exact aE (by omega) dy);rw [i1,i2,hv]
     have HT:=aa (p.out D);rw [dL hv] at J;have J':Calls prog 93 #[.pointer none,.slice ao la ca,.slice bo lb cb] W fun e w'=>e=.returned (.int .u64 1)/\Kept af W w':=J
     clear rx ry dx dy y hW kW hb c a hv J q0 q1 d f q r v s x t p g m o D hlen;go_wp2_with (rw [<- HW.out]);refine J'.mono ?_;rintro e w5 ⟨rfl,k5⟩;have z:=aa (B.out.trans k5);clear J' k5 g0 g1 g2;go_wp2_with fail;go_roundw
     case rel=>exact ⟨k+1,by omega,by go_num,HT.out,z.out⟩
     case measure=>simp [intOf];omega
    ·have HF:=aa (g.out (fun h=>hv (by rw [h])));rw [cP hv] at J;have J':Calls prog 93 #[.pointer none,.slice ao la ca,.slice bo lb cb] W fun e w'=>e=.returned (.int .u64 0)/\Kept af W w':=J
     clear rx ry dx dy y hW kW hb c a hv J q0 q1 d f q r v s x t p g m o hlen;go_wp2_with (rw [<- HW.out]);refine J'.mono ?_;rintro e w5 ⟨rfl,k5⟩;have z:=aa (B.out.trans k5);clear J' k5 g0 g1 g2;go_wp2_with fail;go_ret;exact ⟨by rw [HF.out];rfl,z.out⟩
   ·have HF:=aa (g.out (fun h=>hlen (by rw [<- m.out,<- o.out,h])));have g1:¬ (la:Int)=(lb:Int):=by omega
    have g2:((la:Int) != (lb:Int))=true:=by simp;omega
    clear rx ry dx dy y hW kW hb c a q0 q1 d f q r v s x t p g m o hlen;go_wp2_with (rw [<- HW.out]);go_ret;exact ⟨by rw [HF.out];rfl,B.out⟩
  ·have E:¬ (k:Int)<(n:Int):=by omega
   have e:k=n:=by omega
   subst e;have HT:Hid (R=true):=C.out.2 l.out;go_wp2_with fail;go_ret;exact ⟨by rw [HT.out];rfl,HK.out⟩

theorem GJ (b:Nat) (s:KS) (l:KL) (E:Nat) (hE:(E=0/\KeyGood l.n l.d l.p l.q l.dp l.dq l.qi s.en)\/(E=190/\¬ KeyGood l.n l.d l.p l.q l.dp l.dq l.qi s.en)) (O:s.pl<=1000) (P:s.ql<=1000) (w:World) (hr:s.Rows w l) (hd:l.Digs) (hx:w.heap[b]? = some (.cells s.v 26 (0,0))) :
  Calls prog 104 #[.pointer (some ⟨b,0,none⟩)] w fun r w'=>AttE E r/\Kept af w w':=by
 obtain ⟨_,_,_,e1,I,-,-,-,-⟩:=hr.p.open;cases e1
 obtain ⟨_,_,_,e1,J,-,-,-,-⟩:=hr.q.open;cases e1
 have hO:=(kOf s.po s.qo s.pl s.ql s.pc s.qc l.p l.q _ _ s.en w rfl rfl hr.p hr.q hd.p hd.q O P).mono fun _ _ h=>IC h
 have JC:Hid (∀ W,Kept af w W->W.cell? ⟨b,0,none⟩=some (.slice s.no s.nl s.nc)/\W.cell? ⟨b,1,none⟩=some (.int .u64 ((s.en:Nat):Int))/\W.cell? ⟨b,2,none⟩=some (.slice s.dO s.dl s.dc)/\W.cell? ⟨b,3,none⟩=some (.slice s.po s.pl s.pc)/\W.cell? ⟨b,4,none⟩=some (.slice s.qo s.ql s.qc)/\W.cell? ⟨b,5,none⟩=some (.slice s.dpo s.dpl s.dpc)/\W.cell? ⟨b,6,none⟩=some (.slice s.dqo s.dql s.dqc)/\W.cell? ⟨b,7,none⟩=some (.slice s.qio s.qil s.qic)):=fun W k=>bH ((k.block _ (lt_of_block hx) (fun f=>f)).trans hx)
 obtain ⟨c0,c1,c2,c3,c4,c5,c6,c7⟩:=JC.out w (aj _ _);have hG:∀ (E2 en:Nat) (m:KL),KeySays s.pl s.ql (val l.p) (val l.q) s.en E2 en m->(KeyGood l.n l.d l.p l.q l.dp l.dq l.qi s.en↔E2=0/\l=m):=fun E2 en m hs=>by
  constructor
  ·rintro ⟨c,d,u,a⟩;rw [I.out,J.out] at c;have h0:KeySays s.pl s.ql (val l.p) (val l.q) s.en 0 s.en l:=.inl ⟨rfl,c,rfl,d,u,a⟩;obtain ⟨h1,_,h2⟩:=hs.uniq h0;exact ⟨h1.symm,h2⟩
  ·rintro ⟨rfl,rfl⟩;rcases hs with ⟨_,c,rfl,d,u,a⟩ | ⟨h,_⟩
   ·exact ⟨by rw [I.out,J.out];exact c,d,u,a⟩
   ·exact absurd h (by decide)
 have HG:=aa hG;have HE:=aa hE;have HR:=aa hr;have HD:=aa hd;clear hr hd hx hE I J hG O P;go_enter func104,ntmps104;go_wp2_with fail;refine hO.mono ?_;rintro r w1 ⟨t,E2,rfl,m,Q,S,_,k1⟩;have x:=aa S;have F:=aa Q;have A:=aa k1;clear hO c0 c1 c2 c3 c4 c5 c6 c7 Q k1;unfold KS.v;rcases S with ⟨rfl,-,-,d,u,a⟩ | ⟨rfl,hno,-,-⟩
 ·have M:Hid (m.n.length<=1000/\m.d.length<=1000/\m.p.length<=1000/\m.q.length<=1000/\m.dp.length<=1000/\m.dq.length<=1000/\m.qi.length<=1000):=by
   obtain ⟨c⟩:Nonempty (iL s.pl s.ql (val l.p) (val l.q) s.en):=by
    rcases x.out with ⟨_,h,_⟩ | ⟨h,_⟩
    ·exact ⟨h⟩
    ·exact absurd h (by decide)
   obtain ⟨_,_,_,_,a1,a2,a3,a4,a5,a6,a7⟩:=a;have Y:ar (val l.p)<=128:=cX (n:=128) (by have:=c.2.1.2.2;omega);have Z:ar (val l.q)<=128:=cX (n:=128) (by have:=c.2.2.1.2.2;omega);have T:(di (val l.p) (val l.q)).length<=1000:=by
    have h:=c.2.2.2.2.1;unfold fW at h;by_cases hc:1000<(di (val l.p) (val l.q)).length
    ·rw [ah (.inr (.inl hc))] at h;exact absurd h (by decide)
    ·omega
   rw [a1,a2,a3,a4,a5,a6,a7];simp only [ag];refine ⟨T,T,?_,?_,?_,?_,?_⟩ <;> exact Nat.max_le.2 ⟨by omega,by omega⟩
  have J2:=Fc t.no t.dO t.po t.qo t.dpo t.dqo t.qio t.nl t.nc t.en t.dl t.dc t.pl t.pc t.ql t.qc t.dpl t.dpc t.dql t.dqc t.qil t.qic w1;clear a;go_wp2_with fail;refine J2.mono ?_;rintro r w2 ⟨rfl,k2⟩;obtain ⟨W,hW⟩:∃ W,W=w2.alloc (.cells t.v 26):=⟨_,rfl⟩
  have kW:Kept af w2 W:=by rw [hW];exact (aj af w2).alloc _
  have U:W.heap[w2.heap.size]? = some (.cells t.v 26 (0,0)):=by rw [hW];exact heap_alloc_new _ _
  obtain ⟨d0,d1,d2,d3,d4,d5,d6,d7⟩:=bH U;obtain ⟨c0,c1,c2,c3,c4,c5,c6,c7⟩:=JC.out W ((A.out.trans k2).trans kW);obtain ⟨V,hV⟩:∃ V,V=W.alloc (.cells #[.slice s.no s.nl s.nc,.slice t.no t.nl t.nc,.slice s.dO s.dl s.dc,.slice t.dO t.dl t.dc,.slice s.po s.pl s.pc,.slice t.po t.pl t.pc,.slice s.qo s.ql s.qc,.slice t.qo t.ql t.qc,.slice s.dpo s.dpl s.dpc,.slice t.dpo t.dpl t.dpc,.slice s.dqo s.dql s.dqc,.slice t.dqo t.dql t.dqc,.slice s.qio s.qil s.qic,.slice t.qio t.qil t.qic] 154):=⟨_,rfl⟩
  have kV:Kept af W V:=by rw [hV];exact (aj af W).alloc _
  have C:=heap_alloc_new W (.cells #[.slice s.no s.nl s.nc,.slice t.no t.nl t.nc,.slice s.dO s.dl s.dc,.slice t.dO t.dl t.dc,.slice s.po s.pl s.pc,.slice t.po t.pl t.pc,.slice s.qo s.ql s.qc,.slice t.qo t.ql t.qc,.slice s.dpo s.dpl s.dpc,.slice t.dpo t.dpl t.dpc,.slice s.dqo s.dql s.dqc,.slice t.dqo t.dql t.dqc,.slice s.qio s.qil s.qic,.slice t.qio t.qil t.qic] 154);rw [<- hV] at C;have D:=aa (((A.out.trans k2).trans kW).trans kV);have X:=(k2.trans kW).trans kV;have g:=HR.out.grew D.out;have o:=F.out.grew X;have j:=x.out.digs;have e:=HD.out;obtain ⟨h1,h2,h3,h4,h5,h6,h7⟩:=M.out;obtain ⟨R,hR⟩:∃ R:Bool,(R=true↔l=m):=by
   by_cases h:l=m
   ·exact ⟨true,iff_of_true rfl h⟩
   ·exact ⟨false,iff_of_false (by decide) h⟩
  have JA:=EY W.heap.size 7 (by omega) (fun i=>[s.no,s.dO,s.po,s.qo,s.dpo,s.dqo,s.qio].getD i none) (fun i=>[t.no,t.dO,t.po,t.qo,t.dpo,t.dqo,t.qio].getD i none) (fun i=>[s.nl,s.dl,s.pl,s.ql,s.dpl,s.dql,s.qil].getD i 0) (fun i=>[s.nc,s.dc,s.pc,s.qc,s.dpc,s.dqc,s.qic].getD i 0) (fun i=>[t.nl,t.dl,t.pl,t.ql,t.dpl,t.dql,t.qil].getD i 0) (fun i=>[t.nc,t.dc,t.pc,t.qc,t.dpc,t.dqc,t.qic].getD i 0) (fun i=>[l.n,l.d,l.p,l.q,l.dp,l.dq,l.qi].getD i []) (fun i=>[m.n,m.d,m.p,m.q,m.dp,m.dq,m.qi].getD i []) V
   (fun i hi=>by
    have:i=0\/i=1\/i=2\/i=3\/i=4\/i=5\/i=6:=by omega
    rcases this with rfl | rfl | rfl | rfl | rfl | rfl | rfl <;> exact ⟨(cell_of_row V _ _ _ _ _ C).trans rfl,(cell_of_row V _ _ _ _ _ C).trans rfl⟩)
   (fun i hi=>by
    have:i=0\/i=1\/i=2\/i=3\/i=4\/i=5\/i=6:=by omega
    rcases this with rfl | rfl | rfl | rfl | rfl | rfl | rfl
    ·exact ⟨g.n,o.n,e.n,j.n,h1⟩
    ·exact ⟨g.d,o.d,e.d,j.d,h2⟩
    ·exact ⟨g.p,o.p,e.p,j.p,h3⟩
    ·exact ⟨g.q,o.q,e.q,j.q,h4⟩
    ·exact ⟨g.dp,o.dp,e.dp,j.dp,h5⟩
    ·exact ⟨g.dq,o.dq,e.dq,j.dq,h6⟩
    ·exact ⟨g.qi,o.qi,e.qi,j.qi,h7⟩) R (hR.trans ⟨fun h i hi=>by rw [h],fun h=>by
     have g0:l.n=m.n:=h 0 (by omega);have g1:l.d=m.d:=h 1 (by omega);have g2:l.p=m.p:=h 2 (by omega);have g3:l.q=m.q:=h 3 (by omega);have g4:l.dp=m.dp:=h 4 (by omega);have g5:l.dq=m.dq:=h 5 (by omega);have g6:l.qi=m.qi:=h 6 (by omega);cases l
     cases m
     simp only at g0 g1 g2 g3 g4 g5 g6;subst g0 g1 g2 g3 g4 g5 g6;rfl⟩)
  have z:=aa ((HG.out 0 _ m x.out).trans ⟨fun h=>h.2,fun h=>⟨rfl,h⟩⟩);have B:=aa hR;have G:=aa hW;have N:=aa hV;clear J2 k2 hW kW U hV kV C X g o j e h1 h2 h3 h4 h5 h6 h7 hR HR F HD HG x M A JC;unfold KS.v at G;go_wp2_with (first | rw [<- G.out] | rw [<- N.out]);refine JA.mono ?_;rintro r w4 ⟨rfl,k4⟩;have L:=aa (D.out.trans k4);clear JA k4 D d0 d1 d2 d3 d4 d5 d6 d7 c0 c1 c2 c3 c4 c5 c6 c7 G N;cases R with
  | true=>
   have H:=de 190 w4;have y:Hid (E=0):=by
    rcases HE.out with ⟨h,_⟩ | ⟨_,h⟩
    ·exact h
    ·exact absurd (z.out.2 (B.out.1 rfl)) h
   clear HE z B;go_wp2_with fail;refine H.mono ?_;rintro r w5 ⟨rfl,rfl⟩;go_wp2;go_end0
   rw [y.out];exact ⟨.ok,L.out⟩
  | false=>
   have H:=dM 190 w4;have y:Hid (E=190):=by
    rcases HE.out with ⟨_,h⟩ | ⟨h,_⟩
    ·exact absurd (B.out.2 (z.out.1 h)) (by decide)
    ·exact h
   clear HE z B;go_wp2_with fail;refine H.mono ?_;rintro r w5 ⟨rfl,rfl⟩;exact ⟨rfl,by rw [y.out];exact .no (by decide),L.out⟩
 ·have J2:=CN t.no t.dO t.po t.qo t.dpo t.dqo t.qio t.nl t.nc t.en t.dl t.dc t.pl t.pc t.ql t.qc t.dpl t.dpc t.dql t.dqc t.qil t.qic 190 (by decide) w1;have y:Hid (E=190):=by
   rcases HE.out with ⟨_,h⟩ | ⟨h,_⟩
   ·exact absurd ((HG.out 190 _ m x.out).1 h).1 (by decide)
   ·exact h
  clear HE HG HR F HD x JC hno;go_wp2_with fail;refine J2.mono ?_;rintro r w2 ⟨rfl,k2⟩;exact ⟨rfl,by rw [y.out];exact .no (by decide),A.out.trans k2⟩

theorem CH (s:KS) (l:KL) (E:Nat) (hE:(E=0/\KeyGood l.n l.d l.p l.q l.dp l.dq l.qi s.en)\/(E=190/\¬ KeyGood l.n l.d l.p l.q l.dp l.dq l.qi s.en)) (a:s.pl<=1000) (b:s.ql<=1000) (w:World) (hr:s.Rows w l) (hd:l.Digs) :
  Calls prog 61 #[.agg s.v] w fun r w'=>r=.returned (.int .i64 (E:Nat))/\Kept af w w':=by
 have f:=im;have he:∀ args w,(callFunc 104 args).run prog w=.ok (.enter 104 args) w:=fun _ _=>by simp [go_sem]
 obtain ⟨W,hW⟩:∃ W,W=w.alloc (.cells s.v 26):=⟨_,rfl⟩
 have k0:Kept af w W:=by rw [hW];exact (aj af w).alloc _
 have hx:W.heap[w.heap.size]? = some (.cells s.v 26 (0,0)):=by rw [hW];exact heap_alloc_new _ _
 have kE:=(aj af W).alloc (.cells #[.int .i64 0] 32);have hA:=qz 104 #[.pointer (some ⟨w.heap.size,0,none⟩)] W E he (GJ w.heap.size s l E hE a b _ (hr.grew (k0.trans kE)) hd (au hx));have HW:=aa hW;have c:=aa k0;clear hE a b hr hd hW k0 hx kE he;unfold KS.v at HW ⊢;go_enter func61,ntmps61;go_wp2_with (rw [<- HW.out]);refine hA.mono ?_;rintro r w1 ⟨rfl,k1⟩;have e:=aa (c.out.trans k1);clear hA k1;go_wp2;go_ret;exact ⟨rfl,e.out⟩

end Go.Proofs.YtkaojflnghfmcaaGreatDoor
