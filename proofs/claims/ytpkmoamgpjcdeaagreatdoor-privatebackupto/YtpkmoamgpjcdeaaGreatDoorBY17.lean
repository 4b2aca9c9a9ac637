/- Put together of: Kex6 Kex7 LimQ Kex8 Kex9 Prw7 Prw8 Law22d. -/
import Derived.Test.YtpkmoamgpjcdeaaGreatDoorBY16
import Derived.Laws.StructEq

namespace Go.Proofs.YtpkmoamgpjcdeaaGreatDoor
open _root_.Go.Proofs.Tryz
set_option maxRecDepth 100000
set_option maxHeartbeats 4000000
open Go.RowKit
variable {P Q e:Nat} {w:World}

def OfEnd (L M P Q e B bK:Nat) (a w:World) (r:Ending) (w':World):Prop:=
 (eR L M P Q e/\r=.returned (.tuple #[])/\∃ kv,w'.heap[bK]? = some (.cells kv 26 (0,0))/\KeyAt w' P Q e kv/\kQ B kv/\Kept (fun b=>b=bK) w w'/\Kept af a w')\/(¬ eR L M P Q e/\r=.panicked [refusal 190]/\Kept af w w')

theorem OfEnd.no {L M B bK:Nat} {a w':World} (h:¬ eR L M P Q e) (k:Kept af w w'):OfEnd L M P Q e B bK a w (.panicked [refusal 190]) w':=.inr ⟨h,rfl,k⟩

theorem kn (h:0<P*Q):cK P Q=digs (P*Q) (am (P*Q)):=by
 unfold cK;have:¬ am (P*Q)<=0:=fun h1=>by
  have:=(aC _ _).1 h1;rw [cP] at this;omega
 rw [Nat.max_eq_left (by omega)]

theorem KeyAt.kept {S:Nat->Prop} {w':World} {kv:Array Value} (h:KeyAt w P Q e kv) (k:Kept S w w') (hs:∀ v ∈ kv.toList,∀ x,v.ownBlock=some x->¬ S x):KeyAt w' P Q e kv:=by
 obtain ⟨vn,vd,vp,vq,a,b,c,d,u,rfl,rn,f,g,rd,rp,rq,l,m,i,j,n⟩:=h;exact ⟨vn,vd,vp,vq,a,b,c,d,u,rfl,rn.kept k (hs vn (by simp)),f,g,rd.kept k (hs vd (by simp)),rp.kept k (hs vp (by simp)),rq.kept k (hs vq (by simp)),l.kept k (hs a (by simp)),m.kept k (hs b (by simp)),i,j,n.kept k (hs c (by simp))⟩

theorem Jj {W:World} {a:Addr} {p:Nat} {x0 x1 x2 x3 x4 x5 x6 x7 q:Value} (h:W.cell? a=some q) (b:a.block≠p):((((((((W.setCell ⟨p,0,none⟩ x0).setCell ⟨p,1,none⟩ x1).setCell ⟨p,2,none⟩ x2).setCell ⟨p,3,none⟩ x3).setCell ⟨p,4,none⟩ x4).setCell ⟨p,5,none⟩ x5).setCell ⟨p,6,none⟩ x6).setCell ⟨p,7,none⟩ x7).cell? a=some q:=by
 have h1:∀ (V:World) (j:Nat) (x:Value),V.cell? a=some q->(V.setCell ⟨p,j,none⟩ x).cell? a=some q:=fun V j x hv=>by
  unfold World.cell? at hv ⊢;rw [Below.heap_setCell V ⟨p,j,none⟩ x a.block b];exact hv
 exact h1 _ _ _ (h1 _ _ _ (h1 _ _ _ (h1 _ _ _ (h1 _ _ _ (h1 _ _ _ (h1 _ _ _ (h1 _ _ _ h)))))))

theorem Jb (bP bQ bE bK:Nat) (ao bo:OA) (L M b c:Nat) (xs:LN) (P Q e B:Nat) (hP:P=val xs) (g:L<=1000) (d:¬ (L<=300/\eI P)) (a w:World) (hu:Row .u64 w (.slice ao L b) xs) (f:Digs xs) (b0:w.cell? ⟨bP,0,none⟩=some (.slice ao L b)) (b1:w.cell? ⟨bQ,0,none⟩=some (.slice bo M c)) :
  ClZ 138 #[.pointer (some ⟨bP,0,none⟩),.pointer (some ⟨bQ,0,none⟩),.pointer (some ⟨bE,0,none⟩),.pointer (some ⟨bK,0,none⟩)] w fun r w'=>OfEnd L M P Q e B bK a w r w':=by
 have hN:¬ eR L M P Q e:=fun h=>d ⟨h.1.1,h.2.1⟩
 have KD:Kept af w w.drew:=(ah af w).drew;have J1:=uS ao L b xs P hP (by omega) d w.drew (hu.g KD) f;clear hu f hP d;delta ClZ;go_in;go_wp2_with fail;refine wp_region_held_drew (S:=fun w'=>w'.cell? ⟨bP,0,none⟩=some (.slice ao L b)/\w'.cell? ⟨bQ,0,none⟩=some (.slice bo M c)) (by kernel_rfl) ⟨b0,b1⟩ (fun hS=>?_);refine aO 0 (some 10) (.slice ao L b) hS ?_ (y:=dL fun w h=>by simp [execOp,go_sem,h.1]);refine aO 2 (some 12) (.slice bo M c) hS ?_ (y:=dL fun w h=>by simp [execOp,go_sem,h.2]);simp only [aU];refine cD 1 (some 11) 139 [.slice ao L b] (J1) ?_;rintro e w4 ⟨rfl,k4⟩
 exact .inr ⟨_,rfl,rfl,.no hN (KD.trans k4)⟩

theorem Jc (bP bQ bE bK:Nat) (ao bo:OA) (L M c b:Nat) (xs ys:LN) (P Q e B:Nat) (hP:P=val xs) (hQ:Q=val ys) (l:M<=1000) (i:L<=300/\eI P) (d:¬ (M<=300/\eI Q)) (a w:World) (hu:Row .u64 w (.slice ao L c) xs) (hv:Row .u64 w (.slice bo M b) ys) (f:Digs xs) (g:Digs ys) (b0:w.cell? ⟨bP,0,none⟩=some (.slice ao L c)) (b1:w.cell? ⟨bQ,0,none⟩=some (.slice bo M b)) :
  ClZ 138 #[.pointer (some ⟨bP,0,none⟩),.pointer (some ⟨bQ,0,none⟩),.pointer (some ⟨bE,0,none⟩),.pointer (some ⟨bK,0,none⟩)] w fun r w'=>OfEnd L M P Q e B bK a w r w':=by
 have hN:¬ eR L M P Q e:=fun h=>d ⟨h.1.2,h.2.2.1⟩
 have KD:Kept af w w.drew:=(ah af w).drew;have J1:=og ao L c xs P (am P) hP rfl i w.drew (hu.g KD) f;have J2:HzD (∀ W,Kept af w W->ClZ 139 #[.slice bo M b] W fun e w'=>e=.panicked [refusal 190]/\Kept af W w'):=fun W k=>uS bo M b ys Q hQ (by omega) d W (hv.g k) g
 clear hu hv f g hP hQ d i;delta ClZ;go_in;go_wp2_with fail;refine wp_region_held_drew (S:=fun w'=>w'.cell? ⟨bP,0,none⟩=some (.slice ao L c)/\w'.cell? ⟨bQ,0,none⟩=some (.slice bo M b)) (by kernel_rfl) ⟨b0,b1⟩ (fun hS=>?_);refine aO 0 (some 10) (.slice ao L c) hS ?_ (y:=dL fun w h=>by simp [execOp,go_sem,h.1]);refine aO 2 (some 12) (.slice bo M b) hS ?_ (y:=dL fun w h=>by simp [execOp,go_sem,h.2]);simp only [aU];refine cD 1 (some 11) 139 [.slice ao L c] (J1) ?_;rintro e w4 ⟨vo,vc,rfl,_,_,k4⟩
 have j:w4.cell? ⟨bP,0,none⟩=some (.slice ao L c)/\w4.cell? ⟨bQ,0,none⟩=some (.slice bo M b):=⟨k4.cellN hS.1,k4.cellN hS.2⟩
 refine .inl ⟨_,rfl,j,?_⟩;simp only [aU];refine cD 3 (some 13) 139 [.slice bo M b] (J2.o w4 (KD.trans k4)) ?_;rintro e w5 ⟨rfl,k5⟩;exact .inr ⟨_,rfl,rfl,.no hN ((KD.trans k4).trans k5)⟩

theorem Je (bP bQ bE bK:Nat) (ao bo:OA) (L M f d:Nat) (xs ys:LN) (P Q e B:Nat) (hP:P=val xs) (hQ:Q=val ys) (i:L<=300/\eI P) (b:M<=300/\eI Q) (o:gU (cK P Q) e≠0) (a w:World) (hu:Row .u64 w (.slice ao L f) xs) (hv:Row .u64 w (.slice bo M d) ys) (N:Digs xs) (O:Digs ys) (b0:w.cell? ⟨bP,0,none⟩=some (.slice ao L f)) (b1:w.cell? ⟨bQ,0,none⟩=some (.slice bo M d)) (b2:w.cell? ⟨bE,0,none⟩=some (.int .u64 (e:Int))) :
  ClZ 138 #[.pointer (some ⟨bP,0,none⟩),.pointer (some ⟨bQ,0,none⟩),.pointer (some ⟨bE,0,none⟩),.pointer (some ⟨bK,0,none⟩)] w fun r w'=>OfEnd L M P Q e B bK a w r w':=by
 have I:0<P*Q:=gI (by have:=i.2.1;omega) (by have:=b.2.1;omega);obtain ⟨np,z⟩:=aj (am P)
 obtain ⟨nq,C⟩:=aj (am Q)
 obtain ⟨nw,p⟩:=aj (am (P*Q))
 have ab:=i.2.1;have ad:=b.2.1;have ac:=i.2.2.1;have A:np<=128:=by rw [z];exact cX (n:=128) (by have:=i.2.2.2;omega)
 have D:nq<=128:=by rw [C];exact cX (n:=128) (by have:=b.2.2.2;omega)
 have t:P<18446744073709551616^np:=(aC P np).1 (by omega);have x:Q<18446744073709551616^nq:=(aC Q nq).1 (by omega);have s:P*Q<18446744073709551616^(np+nq):=by rw [aL];exact mx t x
 have E:nw<=np+nq:=by rw [p];exact (aC _ _).2 s
 have J:P*Q<18446744073709551616^nw:=(aC _ nw).1 (by omega);have vP:val (digs P np)=P:=by rw [ay,aB t]
 have vQ:val (digs Q nq)=Q:=by rw [ay,aB x]
 have vN:val (digs (P*Q) nw)=P*Q:=by rw [ay,aB J]
 have dP:Digs (digs P np):=ak (by omega) _ _;have dQ:Digs (digs Q nq):=ak (by omega) _ _;have dN:Digs (digs (P*Q) nw):=ak (by omega) _ _;have R:cK P Q=digs (P*Q) nw:=by rw [p];exact kn I
 have KD:Kept af w w.drew:=(ah af w).drew;have J1:=og ao L f xs P np hP z i w.drew (hu.g KD) N;have J2:HzD (∀ W,Kept af w W->ClZ 139 #[.slice bo M d] W fun e w'=>∃ vo vc,e=.returned (.slice vo nq vc)/\Row .u64 w' (.slice vo nq vc) (digs Q nq)/\Fresh W (.slice vo nq vc)/\Kept af W w'):=fun W k=>og bo M d ys Q nq hQ C b W (hv.g k) O
 have j:HzD (∀ W va ca vb cb,Row .u64 W (.slice va np ca) (digs P np)->Row .u64 W (.slice vb nq cb) (digs Q nq)->ClZ 110 #[.pointer none,.slice va np ca,.slice vb nq cb] W fun e w'=>∃ vo vc,e=.returned (.slice vo (np+nq) vc)/\Row .u64 w' (.slice vo (np+nq) vc) (digs (P*Q) (np+nq))/\Kept af W w'):=fun W va ca vb cb h1 h2=>by
  refine (CO va vb np nq ca cb _ _ W h1 h2 dP dQ).mono ?_;rintro e w' ⟨v',rfl,hr,k⟩;rw [vP,vQ] at hr;unfold kD at hr;rw [cf] at hr;obtain ⟨vo,vn,vc,rfl,hl,_,_,_,_⟩:=hr.open;obtain rfl:np+nq=vn:=by rw [<- hl.o,ag]
  exact ⟨_,_,rfl,hr,k⟩
 have JN:HzD (∀ W v c,Row .u64 W (.slice v (np+nq) c) (digs (P*Q) (np+nq))->ClZ 140 #[.slice v (np+nq) c] W fun e w'=>∃ vo vc,e=.returned (.slice vo nw vc)/\Row .u64 w' (.slice vo nw vc) (digs (P*Q) nw)/\Fresh W (.slice vo nw vc)/\Kept af W w'):=fun W v c h=>sm v (np+nq) c _ (P*Q) nw (by rw [ay,aB s]) p (by omega) W h (ak (by omega) _ _) (by rw [ag];omega)
 have g:HzD (∀ W v c,Row .u64 W (.slice v nw c) (digs (P*Q) nw)->ClZ 141 #[.slice v nw c,.int .u64 (e:Nat)] W fun r w'=>r=.returned (.int .i64 ((gU (digs (P*Q) nw) e:Nat):Int))/\Kept af W w'):=fun W v c h=>E0 v nw c _ e W h dN
 have hN:¬ eR L M P Q e:=fun h=>o h.2.2.2.2.1
 rw [R] at o;rw [(lJ _ _).resolve_left o] at g;have hY:=eJ 190;clear hu hv N O hP hQ i b I z C p ab ad ac A D t x s E J vP vQ vN dP dQ dN R o;delta ClZ;go_in;go_wp2_with fail;refine wp_region_held_drew (S:=fun w'=>w'.cell? ⟨bP,0,none⟩=some (.slice ao L f)/\w'.cell? ⟨bQ,0,none⟩=some (.slice bo M d)) (by kernel_rfl) ⟨b0,b1⟩ (fun hS=>?_);refine aO 0 (some 10) (.slice ao L f) hS ?_ (y:=dL fun w h=>by simp [execOp,go_sem,h.1]);refine aO 2 (some 12) (.slice bo M d) hS ?_ (y:=dL fun w h=>by simp [execOp,go_sem,h.2]);simp only [aU]
 refine cD 1 (some 11) 139 [.slice ao L f] (J1) ?_;rintro e w4 ⟨vp,cp,rfl,V,_,k4⟩;have l:w4.cell? ⟨bP,0,none⟩=some (.slice ao L f)/\w4.cell? ⟨bQ,0,none⟩=some (.slice bo M d):=⟨k4.cellN hS.1,k4.cellN hS.2⟩
 refine .inl ⟨_,rfl,l,?_⟩;simp only [aU];refine cD 3 (some 13) 139 [.slice bo M d] (J2.o w4 (KD.trans k4)) ?_;rintro e w5 ⟨vq,cq,rfl,X,_,k5⟩;have m:w5.cell? ⟨bP,0,none⟩=some (.slice ao L f)/\w5.cell? ⟨bQ,0,none⟩=some (.slice bo M d):=⟨k5.cellN l.1,k5.cellN l.2⟩
 refine .inl ⟨_,rfl,m,?_⟩;refine aO 4 (some 4) (.slice vp np cp) m ?_;refine aO 5 (some 5) (.slice vq nq cq) m ?_;simp only [aU];refine wpAnyH_done (by kernel_rfl) ?_ _;have F:=aa ((KD.trans k4).trans k5);have G:=aa (V.g k5);have H:=aa X;have J5:=j.o w5 vp cp vq cq G.o H.o;clear J1 J2 KD k4 k5 V X hS l m j b0 b1;go_wp2_with fail;refine J5.mono ?_;rintro e6 w6 ⟨vm,cm,rfl,T,k6⟩;have J6:=JN.o w6 vm cm T;clear J5 T JN;go_wp2_with fail;refine J6.mono ?_;rintro e6 w7 ⟨vn,cn,rfl,U,Z,k7⟩;have q:=aa (F.o.trans (k6.trans k7));have J7:=g.o w7 vn cn U;have c7:=q.o.cellN b2
 clear J6 U Z k6 k7 F G H g;go_wp2_with fail;refine J7.mono ?_;rintro e6 w8 ⟨rfl,k8⟩;have Y:=aa (q.o.trans k8);clear J7 k8 q;go_wp2_with fail;refine (hY _).mono ?_;rintro e6 w9 ⟨rfl,rfl⟩;exact ⟨rfl,.no hN Y.o⟩

theorem Jf (bP bQ bE bK:Nat) (ao bo:OA) (L M g d:Nat) (xs ys:LN) (P Q e B:Nat) (hP:P=val xs) (hQ:Q=val ys) (l:L<=300/\eI P) (b:M<=300/\eI Q) (i:gU (cK P Q) e=0) (E:Nat.gcd Q P≠1) (a w:World) (hu:Row .u64 w (.slice ao L g) xs) (hv:Row .u64 w (.slice bo M d) ys) (X:Digs xs) (Y:Digs ys) (b0:w.cell? ⟨bP,0,none⟩=some (.slice ao L g)) (b1:w.cell? ⟨bQ,0,none⟩=some (.slice bo M d)) (b2:w.cell? ⟨bE,0,none⟩=some (.int .u64 (e:Int))) :
  ClZ 138 #[.pointer (some ⟨bP,0,none⟩),.pointer (some ⟨bQ,0,none⟩),.pointer (some ⟨bE,0,none⟩),.pointer (some ⟨bK,0,none⟩)] w fun r w'=>OfEnd L M P Q e B bK a w r w':=by
 have U:0<P*Q:=gI (by have:=l.2.1;omega) (by have:=b.2.1;omega);obtain ⟨np,q⟩:=aj (am P)
 obtain ⟨nq,G⟩:=aj (am Q)
 obtain ⟨nw,s⟩:=aj (am (P*Q))
 have aw:=l.2.1;have ax:=b.2.1;have ac:=l.2.2.1;have F:np<=128:=by rw [q];exact cX (n:=128) (by have:=l.2.2.2;omega)
 have H:nq<=128:=by rw [G];exact cX (n:=128) (by have:=b.2.2.2;omega)
 have C:P<18446744073709551616^np:=(aC P np).1 (by omega);have D:Q<18446744073709551616^nq:=(aC Q nq).1 (by omega);have A:P*Q<18446744073709551616^(np+nq):=by rw [aL];exact mx C D
 have I:nw<=np+nq:=by rw [s];exact (aC _ _).2 A
 have V:P*Q<18446744073709551616^nw:=(aC _ nw).1 (by omega);have vP:val (digs P np)=P:=by rw [ay,aB C]
 have vQ:val (digs Q nq)=Q:=by rw [ay,aB D]
 have vN:val (digs (P*Q) nw)=P*Q:=by rw [ay,aB V]
 have dP:Digs (digs P np):=ak (by omega) _ _;have dQ:Digs (digs Q nq):=ak (by omega) _ _;have dN:Digs (digs (P*Q) nw):=ak (by omega) _ _;have Z:cK P Q=digs (P*Q) nw:=by rw [s];exact kn U
 have KD:Kept af w w.drew:=(ah af w).drew;have J1:=og ao L g xs P np hP q l w.drew (hu.g KD) X;have J2:HzD (∀ W,Kept af w W->ClZ 139 #[.slice bo M d] W fun e w'=>∃ vo vc,e=.returned (.slice vo nq vc)/\Row .u64 w' (.slice vo nq vc) (digs Q nq)/\Fresh W (.slice vo nq vc)/\Kept af W w'):=fun W k=>og bo M d ys Q nq hQ G b W (hv.g k) Y
 have m:HzD (∀ W va ca vb cb,Row .u64 W (.slice va np ca) (digs P np)->Row .u64 W (.slice vb nq cb) (digs Q nq)->ClZ 110 #[.pointer none,.slice va np ca,.slice vb nq cb] W fun e w'=>∃ vo vc,e=.returned (.slice vo (np+nq) vc)/\Row .u64 w' (.slice vo (np+nq) vc) (digs (P*Q) (np+nq))/\Kept af W w'):=fun W va ca vb cb h1 h2=>by
  refine (CO va vb np nq ca cb _ _ W h1 h2 dP dQ).mono ?_;rintro e w' ⟨v',rfl,hr,k⟩;rw [vP,vQ] at hr;unfold kD at hr;rw [cf] at hr;obtain ⟨vo,vn,vc,rfl,hl,_,_,_,_⟩:=hr.open;obtain rfl:np+nq=vn:=by rw [<- hl.o,ag]
  exact ⟨_,_,rfl,hr,k⟩
 have JN:HzD (∀ W v c,Row .u64 W (.slice v (np+nq) c) (digs (P*Q) (np+nq))->ClZ 140 #[.slice v (np+nq) c] W fun e w'=>∃ vo vc,e=.returned (.slice vo nw vc)/\Row .u64 w' (.slice vo nw vc) (digs (P*Q) nw)/\Fresh W (.slice vo nw vc)/\Kept af W w'):=fun W v c h=>sm v (np+nq) c _ (P*Q) nw (by rw [ay,aB A]) s (by omega) W h (ak (by omega) _ _) (by rw [ag];omega)
 have j:HzD (∀ W v c,Row .u64 W (.slice v nw c) (digs (P*Q) nw)->ClZ 141 #[.slice v nw c,.int .u64 (e:Nat)] W fun r w'=>r=.returned (.int .i64 ((gU (digs (P*Q) nw) e:Nat):Int))/\Kept af W w'):=fun W v c h=>E0 v nw c _ e W h dN
 have f:=i;rw [Z] at f;have ab:=(ot dN (by rw [ag];omega) e).1 f;rw [vN] at ab;obtain ⟨-,-,aq,ar,au⟩:=ab;rw [f] at j;have hR:=dJ 190;have hN:¬ eR L M P Q e:=fun h=>E (by rw [ft];exact h.2.2.2.1)
 have JI:HzD (∀ W va ca vb cb,Row .u64 W (.slice va nq ca) (digs Q nq)->Row .u64 W (.slice vb np cb) (digs P np)->ClZ 142 #[.slice va nq ca,.slice vb np cb] W fun e w'=>e=.panicked [refusal 190]/\Kept af W w'):=fun W va ca vb cb h1 h2=>zI va vb nq np ca cb _ _ Q P vQ.symm vP.symm (by omega) ac q (by omega) (by omega) E W h1 h2 dQ dP
 clear aq ar au E hu hv X Y hP hQ l b U q G s aw ax ac F H C D A I V vP vQ vN dP dQ dN Z f i;delta ClZ;go_in;go_wp2_with fail;refine wp_region_held_drew (S:=fun w'=>w'.cell? ⟨bP,0,none⟩=some (.slice ao L g)/\w'.cell? ⟨bQ,0,none⟩=some (.slice bo M d)) (by kernel_rfl) ⟨b0,b1⟩ (fun hS=>?_);refine aO 0 (some 10) (.slice ao L g) hS ?_ (y:=dL fun w h=>by simp [execOp,go_sem,h.1]);refine aO 2 (some 12) (.slice bo M d) hS ?_ (y:=dL fun w h=>by simp [execOp,go_sem,h.2]);simp only [aU];refine cD 1 (some 11) 139 [.slice ao L g] (J1) ?_;rintro e w4 ⟨vp,cp,rfl,ae,_,k4⟩
 have o:w4.cell? ⟨bP,0,none⟩=some (.slice ao L g)/\w4.cell? ⟨bQ,0,none⟩=some (.slice bo M d):=⟨k4.cellN hS.1,k4.cellN hS.2⟩
 refine .inl ⟨_,rfl,o,?_⟩;simp only [aU];refine cD 3 (some 13) 139 [.slice bo M d] (J2.o w4 (KD.trans k4)) ?_;rintro e w5 ⟨vq,cq,rfl,ai,_,k5⟩;have p:w5.cell? ⟨bP,0,none⟩=some (.slice ao L g)/\w5.cell? ⟨bQ,0,none⟩=some (.slice bo M d):=⟨k5.cellN o.1,k5.cellN o.2⟩
 refine .inl ⟨_,rfl,p,?_⟩;refine aO 4 (some 4) (.slice vp np cp) p ?_;refine aO 5 (some 5) (.slice vq nq cq) p ?_;simp only [aU];refine wpAnyH_done (by kernel_rfl) ?_ _;have N:=aa ((KD.trans k4).trans k5);have x:=aa (ae.g k5);have z:=aa ai;have J5:=m.o w5 vp cp vq cq x.o z.o;clear J1 J2 KD k4 k5 ae ai hS o p m b0 b1;go_wp2_with fail;refine J5.mono ?_;rintro e6 w6 ⟨vm,cm,rfl,ad,k6⟩;have J6:=JN.o w6 vm cm ad;clear J5 ad JN;go_wp2_with fail;refine J6.mono ?_;rintro e6 w7 ⟨vn,cn,rfl,J,av,k7⟩;have t:=aa (N.o.trans (k6.trans k7));have R:=aa (x.o.g (k6.trans k7))
 have T:=aa (z.o.g (k6.trans k7));have O:=aa J;have J7:=j.o w7 vn cn J;have c7:=t.o.cellN b2;clear J6 J av k6 k7 N x z j;go_wp2_with fail;refine J7.mono ?_;rintro e6 w8 ⟨rfl,k8⟩;have al:=aa (t.o.trans k8);have an:=aa (R.o.g k8);have ap:=aa (T.o.g k8);have aA:=aa (O.o.g k8);clear J7 k8 t R T O;go_wp2_with fail;refine (hR _).mono ?_;rintro e6 w9 ⟨rfl,rfl⟩;have J9:=JI.o w9 vq cq vp cp ap.o an.o;clear hR JI;go_wp2_with fail;refine J9.mono ?_;rintro e6 aD ⟨rfl,az⟩;exact ⟨rfl,.no hN (al.o.trans az)⟩

theorem Jg (bP bQ bE bK:Nat) (ao bo:OA) (L M i d:Nat) (xs ys:LN) (P Q e B:Nat) (hP:P=val xs) (hQ:Q=val ys) (o:L<=300/\eI P) (b:M<=300/\eI Q) (j:gU (cK P Q) e=0) (hg:Nat.gcd Q P=1) (Y:Nat.gcd (eW P Q) e≠1) (a w:World) (hu:Row .u64 w (.slice ao L i) xs) (hv:Row .u64 w (.slice bo M d) ys) (aF:Digs xs) (aG:Digs ys) (b0:w.cell? ⟨bP,0,none⟩=some (.slice ao L i)) (b1:w.cell? ⟨bQ,0,none⟩=some (.slice bo M d)) (b2:w.cell? ⟨bE,0,none⟩=some (.int .u64 (e:Int))) :
  ClZ 138 #[.pointer (some ⟨bP,0,none⟩),.pointer (some ⟨bQ,0,none⟩),.pointer (some ⟨bE,0,none⟩),.pointer (some ⟨bK,0,none⟩)] w fun r w'=>OfEnd L M P Q e B bK a w r w':=by
 have aD:0<P*Q:=gI (by have:=o.2.1;omega) (by have:=b.2.1;omega);obtain ⟨np,A⟩:=aj (am P)
 obtain ⟨nq,ab⟩:=aj (am Q)
 obtain ⟨nw,D⟩:=aj (am (P*Q))
 have aK:=o.2.1;have aP:=b.2.1;have aN:=o.2.2.1;have Z:np<=128:=by rw [A];exact cX (n:=128) (by have:=o.2.2.2;omega)
 have ac:nq<=128:=by rw [ab];exact cX (n:=128) (by have:=b.2.2.2;omega)
 have s:P<18446744073709551616^np:=(aC P np).1 (by omega);have t:Q<18446744073709551616^nq:=(aC Q nq).1 (by omega);have U:P*Q<18446744073709551616^(np+nq):=by rw [aL];exact mx s t
 have ad:nw<=np+nq:=by rw [D];exact (aC _ _).2 U
 have aE:P*Q<18446744073709551616^nw:=(aC _ nw).1 (by omega);have vP:val (digs P np)=P:=by rw [ay,aB s]
 have vQ:val (digs Q nq)=Q:=by rw [ay,aB t]
 have vN:val (digs (P*Q) nw)=P*Q:=by rw [ay,aB aE]
 have dP:Digs (digs P np):=ak (by omega) _ _;have dQ:Digs (digs Q nq):=ak (by omega) _ _;have dN:Digs (digs (P*Q) nw):=ak (by omega) _ _;have aJ:cK P Q=digs (P*Q) nw:=by rw [D];exact kn aD
 have KD:Kept af w w.drew:=(ah af w).drew;have J1:=og ao L i xs P np hP A o w.drew (hu.g KD) aF;have J2:HzD (∀ W,Kept af w W->ClZ 139 #[.slice bo M d] W fun e w'=>∃ vo vc,e=.returned (.slice vo nq vc)/\Row .u64 w' (.slice vo nq vc) (digs Q nq)/\Fresh W (.slice vo nq vc)/\Kept af W w'):=fun W k=>og bo M d ys Q nq hQ ab b W (hv.g k) aG
 have q:HzD (∀ W va ca vb cb,Row .u64 W (.slice va np ca) (digs P np)->Row .u64 W (.slice vb nq cb) (digs Q nq)->ClZ 110 #[.pointer none,.slice va np ca,.slice vb nq cb] W fun e w'=>∃ vo vc,e=.returned (.slice vo (np+nq) vc)/\Row .u64 w' (.slice vo (np+nq) vc) (digs (P*Q) (np+nq))/\Kept af W w'):=fun W va ca vb cb h1 h2=>by
  refine (CO va vb np nq ca cb _ _ W h1 h2 dP dQ).mono ?_;rintro e w' ⟨v',rfl,hr,k⟩;rw [vP,vQ] at hr;unfold kD at hr;rw [cf] at hr;obtain ⟨vo,vn,vc,rfl,hl,_,_,_,_⟩:=hr.open;obtain rfl:np+nq=vn:=by rw [<- hl.o,ag]
  exact ⟨_,_,rfl,hr,k⟩
 have JN:HzD (∀ W v c,Row .u64 W (.slice v (np+nq) c) (digs (P*Q) (np+nq))->ClZ 140 #[.slice v (np+nq) c] W fun e w'=>∃ vo vc,e=.returned (.slice vo nw vc)/\Row .u64 w' (.slice vo nw vc) (digs (P*Q) nw)/\Fresh W (.slice vo nw vc)/\Kept af W w'):=fun W v c h=>sm v (np+nq) c _ (P*Q) nw (by rw [ay,aB U]) D (by omega) W h (ak (by omega) _ _) (by rw [ag];omega)
 have l:HzD (∀ W v c,Row .u64 W (.slice v nw c) (digs (P*Q) nw)->ClZ 141 #[.slice v nw c,.int .u64 (e:Nat)] W fun r w'=>r=.returned (.int .i64 ((gU (digs (P*Q) nw) e:Nat):Int))/\Kept af W w'):=fun W v c h=>E0 v nw c _ e W h dN
 have g:=j;rw [aJ] at g;have aM:=(ot dN (by rw [ag];omega) e).1 g;rw [vN] at aM;obtain ⟨-,-,aH,aZ,aI⟩:=aM;rw [g] at l;have hR:=dJ 190;have hN:¬ eR L M P Q e:=fun h=>Y (by rw [ft];exact h.2.2.2.2.2)
 have JI:HzD (∀ W va ca vb cb,Row .u64 W (.slice va nq ca) (digs Q nq)->Row .u64 W (.slice vb np cb) (digs P np)->ClZ 142 #[.slice va nq ca,.slice vb np cb] W fun e w'=>∃ vo vc T,e=.returned (.slice vo np vc)/\HzD (T<P/\Q*T%P=1)/\Row .u64 w' (.slice vo np vc) (digs T np)/\Kept af W w'):=fun W va ca vb cb h1 h2=>G7 va vb nq np ca cb _ _ Q P vQ.symm vP.symm (by omega) aN A (by omega) (by omega) hg W h1 h2 dQ dP
 obtain ⟨C,hC⟩:=aj (eW P Q)
 obtain ⟨nc,V⟩:=aj (am C)
 have az:C<18446744073709551616^(np+nq):=by rw [hC];exact qk s t
 have X:nc<=np+nq:=by rw [V];exact (aC _ _).2 az
 have aA:C<18446744073709551616^nc:=(aC C nc).1 (by omega);have vC:val (digs C nc)=C:=by rw [ay,aB aA]
 have aX:2<=C:=by rw [hC];exact x8 aK aP
 have R:HzD (∀ W va ca vb cb,Row .u64 W (.slice va np ca) (digs P np)->Row .u64 W (.slice vb nq cb) (digs Q nq)->ClZ 145 #[.slice va np ca,.slice vb nq cb] W fun e w'=>∃ vo vc,e=.returned (.tuple #[.slice vo nc vc,.int .i64 0])/\Row .u64 w' (.slice vo nc vc) (digs C nc)/\Kept af W w'):=fun W va ca vb cb h1 h2=>by
  refine (I9 va vb np nq ca cb _ _ P Q 0 _ vP.symm vQ.symm (by omega) (by omega) (.inl ⟨rfl,by omega,by omega⟩) (by rw [ai rfl,<- hC,<- V]) W h1 h2 dP dQ).mono ?_;rintro e w' ⟨v',rfl,hr,_,k⟩;obtain ⟨vo,vn,vc,rfl,hl,_,_,_,_⟩:=hr.open;obtain rfl:nc=vn:=by rw [<- hl.o,ag]
  exact ⟨_,_,rfl,hr,k⟩
 have aY:=fun v n c W=>mY v n c W
 have JX:HzD (∀ W v c,Row .u64 W (.slice v nc c) (digs C nc)->ClZ 143 #[.int .u64 (e:Nat),.slice v nc c] W fun r w'=>r=.panicked [refusal 190]/\Kept af W w'):=fun W v c h=>EY v nc c _ C e vC.symm aH aI (by omega) (by omega) (by rw [hC];exact Y) W h (ak (by omega) _ _)
 clear aH aZ aI Y hg hC V az X aA vC aX hu hv aF aG hP hQ o b aD A ab D aK aP aN Z ac s t U ad aE vP vQ vN dP dQ dN aJ g j;delta ClZ;go_in;go_wp2_with fail;refine wp_region_held_drew (S:=fun w'=>w'.cell? ⟨bP,0,none⟩=some (.slice ao L i)/\w'.cell? ⟨bQ,0,none⟩=some (.slice bo M d)) (by kernel_rfl) ⟨b0,b1⟩ (fun hS=>?_);refine aO 0 (some 10) (.slice ao L i) hS ?_ (y:=dL fun w h=>by simp [execOp,go_sem,h.1]);refine aO 2 (some 12) (.slice bo M d) hS ?_ (y:=dL fun w h=>by simp [execOp,go_sem,h.2]);simp only [aU];refine cD 1 (some 11) 139 [.slice ao L i] (J1) ?_
 rintro e w4 ⟨vp,cp,rfl,aS,_,k4⟩;have x:w4.cell? ⟨bP,0,none⟩=some (.slice ao L i)/\w4.cell? ⟨bQ,0,none⟩=some (.slice bo M d):=⟨k4.cellN hS.1,k4.cellN hS.2⟩
 refine .inl ⟨_,rfl,x,?_⟩;simp only [aU];refine cD 3 (some 13) 139 [.slice bo M d] (J2.o w4 (KD.trans k4)) ?_;rintro e w5 ⟨vq,cq,rfl,aT,_,k5⟩;have z:w5.cell? ⟨bP,0,none⟩=some (.slice ao L i)/\w5.cell? ⟨bQ,0,none⟩=some (.slice bo M d):=⟨k5.cellN x.1,k5.cellN x.2⟩
 refine .inl ⟨_,rfl,z,?_⟩;refine aO 4 (some 4) (.slice vp np cp) z ?_;refine aO 5 (some 5) (.slice vq nq cq) z ?_;simp only [aU];refine wpAnyH_done (by kernel_rfl) ?_ _;have ar:=aa ((KD.trans k4).trans k5);have H:=aa (aS.g k5);have N:=aa aT;have J5:=q.o w5 vp cp vq cq H.o N.o;clear J1 J2 KD k4 k5 aS aT hS x z q b0 b1;go_wp2_with fail;refine J5.mono ?_;rintro e6 w6 ⟨vm,cm,rfl,aQ,k6⟩;have J6:=JN.o w6 vm cm aQ;clear J5 aQ JN;go_wp2_with fail;refine J6.mono ?_;rintro e6 w7 ⟨vn,cn,rfl,an,a0,k7⟩;have F:=aa (ar.o.trans (k6.trans k7));have aw:=aa (H.o.g (k6.trans k7))
 have ax:=aa (N.o.g (k6.trans k7));have av:=aa an;have J7:=l.o w7 vn cn an;have c7:=F.o.cellN b2;clear J6 an a0 k6 k7 ar H N l;go_wp2_with fail;refine J7.mono ?_;rintro e6 w8 ⟨rfl,k8⟩;have au:=aa (F.o.trans k8);have I:=aa (aw.o.g k8);have O:=aa (ax.o.g k8);have aV:=aa (av.o.g k8);clear J7 k8 F aw ax av;go_wp2_with fail;refine (hR _).mono ?_;rintro e6 w9 ⟨rfl,rfl⟩;have J9:=JI.o w9 vq cq vp cp O.o I.o;clear hR JI;go_wp2_with fail;refine J9.mono ?_;rintro e6 aq ⟨vi,ci,T,rfl,HT,ae,E⟩;have p:=aa (au.o.trans E);have G:=aa (I.o.g E);have J:=aa (O.o.g E)
 have m:Kept af aq aq.drew:=(ah af aq).drew;have aW:=p.o.cellN b2;clear J9 ae E au I O aV c7;go_wp2_with fail;refine wp_region_held_drew (S:=fun w'=>w'.cell? ⟨bE,0,none⟩=some (.int .u64 (e:Int))) (by kernel_rfl) aW (fun hS=>?_);refine aO 0 (some 26) (.int .u64 (e:Int)) hS ?_ (y:=dL fun w h=>by simp [execOp,go_sem,h]);refine aO 1 (some 27) (.slice vp np cp) hS ?_;refine aO 2 (some 28) (.slice vq nq cq) hS ?_;simp only [aU];refine cD 3 (some 29) 145 [.slice vp np cp,.slice vq nq cq] (R.o _ vp cp vq cq (G.o.g m) (J.o.g m)) ?_;rintro e6 a2 ⟨vc,cc,rfl,al,aR⟩;have f:=aR.cellN hS
 refine .inl ⟨_,rfl,f,?_⟩;refine aO 4 (some 30) (.slice vc nc cc) f ?_;refine aO 5 (some 31) (.int .i64 0) f ?_;simp only [aU];refine cD 6 (some 32) 144 [.slice vc nc cc,.int .i64 0] (aY vc nc cc a2) ?_;rintro e6 a3 ⟨rfl,ap⟩;subst ap;refine .inl ⟨_,rfl,f,?_⟩;simp only [aU];refine cD 7 (some 33) 143 [.int .u64 (e:Int),.slice vc nc cc] (JX.o _ vc cc al) ?_;rintro e6 a4 ⟨rfl,a1⟩;exact .inr ⟨_,rfl,rfl,.no hN ((p.o.trans (m.trans aR)).trans a1)⟩

theorem Jh (bP bQ bE bK:Nat) (ao bo:OA) (L M D t:Nat) (xs ys:LN) (P Q e B:Nat) (hP:P=val xs) (hQ:Q=val ys) (E:L<=300/\eI P) (j:M<=300/\eI Q) (p:gU (cK P Q) e=0) (hg:Nat.gcd Q P=1) (bb:Nat.gcd (eW P Q) e=1) (a w:World) (hu:Row .u64 w (.slice ao L D) xs) (hv:Row .u64 w (.slice bo M t) ys) (bM:Digs xs) (bN:Digs ys) (b0:w.cell? ⟨bP,0,none⟩=some (.slice ao L D)) (b1:w.cell? ⟨bQ,0,none⟩=some (.slice bo M t)) (b2:w.cell? ⟨bE,0,none⟩=some (.int .u64 (e:Int))) (ha:Kept af a w) (bL:a.heap.size<=bK) (hB:w.heap.size=B+1) (bx:w.heap[bK]? = some (.cells zeroKey 26 (0,0))) :
  ClZ 138 #[.pointer (some ⟨bP,0,none⟩),.pointer (some ⟨bQ,0,none⟩),.pointer (some ⟨bE,0,none⟩),.pointer (some ⟨bK,0,none⟩)] w fun r w'=>OfEnd L M P Q e B bK a w r w':=by
 have bF:0<P*Q:=gI (by have:=E.2.1;omega) (by have:=j.2.1;omega);obtain ⟨np,ar⟩:=aj (am P)
 obtain ⟨nq,aJ⟩:=aj (am Q)
 obtain ⟨nw,aK⟩:=aj (am (P*Q))
 have bT:=E.2.1;have bW:=j.2.1;have bV:=E.2.2.1;have bf:np<=128:=by rw [ar];exact cX (n:=128) (by have:=E.2.2.2;omega)
 have bg:nq<=128:=by rw [aJ];exact cX (n:=128) (by have:=j.2.2.2;omega)
 have an:P<18446744073709551616^np:=(aC P np).1 (by omega);have ap:Q<18446744073709551616^nq:=(aC Q nq).1 (by omega);have ba:P*Q<18446744073709551616^(np+nq):=by rw [aL];exact mx an ap
 have bh:nw<=np+nq:=by rw [aK];exact (aC _ _).2 ba
 have bI:P*Q<18446744073709551616^nw:=(aC _ nw).1 (by omega);have vP:val (digs P np)=P:=by rw [ay,aB an]
 have vQ:val (digs Q nq)=Q:=by rw [ay,aB ap]
 have vN:val (digs (P*Q) nw)=P*Q:=by rw [ay,aB bI]
 have dP:Digs (digs P np):=ak (by omega) _ _;have dQ:Digs (digs Q nq):=ak (by omega) _ _;have dN:Digs (digs (P*Q) nw):=ak (by omega) _ _;have bc:cK P Q=digs (P*Q) nw:=by rw [aK];exact kn bF
 have KD:Kept af w w.drew:=(ah af w).drew;have J1:=og ao L D xs P np hP ar E w.drew (hu.g KD) bM;have J2:HzD (∀ W,Kept af w W->ClZ 139 #[.slice bo M t] W fun e w'=>∃ vo vc,e=.returned (.slice vo nq vc)/\Row .u64 w' (.slice vo nq vc) (digs Q nq)/\Fresh W (.slice vo nq vc)/\Kept af W w'):=fun W k=>og bo M t ys Q nq hQ aJ j W (hv.g k) bN
 have ad:HzD (∀ W va ca vb cb,Row .u64 W (.slice va np ca) (digs P np)->Row .u64 W (.slice vb nq cb) (digs Q nq)->ClZ 110 #[.pointer none,.slice va np ca,.slice vb nq cb] W fun e w'=>∃ vo vc,e=.returned (.slice vo (np+nq) vc)/\Row .u64 w' (.slice vo (np+nq) vc) (digs (P*Q) (np+nq))/\Kept af W w'):=fun W va ca vb cb h1 h2=>by
  refine (CO va vb np nq ca cb _ _ W h1 h2 dP dQ).mono ?_;rintro e w' ⟨v',rfl,hr,k⟩;rw [vP,vQ] at hr;unfold kD at hr;rw [cf] at hr;obtain ⟨vo,vn,vc,rfl,hl,_,_,_,_⟩:=hr.open;obtain rfl:np+nq=vn:=by rw [<- hl.o,ag]
  exact ⟨_,_,rfl,hr,k⟩
 have JN:HzD (∀ W v c,Row .u64 W (.slice v (np+nq) c) (digs (P*Q) (np+nq))->ClZ 140 #[.slice v (np+nq) c] W fun e w'=>∃ vo vc,e=.returned (.slice vo nw vc)/\Row .u64 w' (.slice vo nw vc) (digs (P*Q) nw)/\Fresh W (.slice vo nw vc)/\Kept af W w'):=fun W v c h=>sm v (np+nq) c _ (P*Q) nw (by rw [ay,aB ba]) aK (by omega) W h (ak (by omega) _ _) (by rw [ag];omega)
 have J:HzD (∀ W v c,Row .u64 W (.slice v nw c) (digs (P*Q) nw)->ClZ 141 #[.slice v nw c,.int .u64 (e:Nat)] W fun r w'=>r=.returned (.int .i64 ((gU (digs (P*Q) nw) e:Nat):Int))/\Kept af W w'):=fun W v c h=>E0 v nw c _ e W h dN
 have z:=p;rw [bc] at z;have bU:=(ot dN (by rw [ag];omega) e).1 z;rw [vN] at bU;obtain ⟨-,-,bO,cx,bR⟩:=bU;rw [z] at J;have hR:=dJ 190;have JI:HzD (∀ W va ca vb cb,Row .u64 W (.slice va nq ca) (digs Q nq)->Row .u64 W (.slice vb np cb) (digs P np)->ClZ 142 #[.slice va nq ca,.slice vb np cb] W fun e w'=>∃ vo vc T,e=.returned (.slice vo np vc)/\HzD (T<P/\Q*T%P=1)/\Row .u64 w' (.slice vo np vc) (digs T np)/\Kept af W w'):=fun W va ca vb cb h1 h2=>G7 va vb nq np ca cb _ _ Q P vQ.symm vP.symm (by omega) bV ar (by omega) (by omega) hg W h1 h2 dQ dP
 obtain ⟨C,hC⟩:=aj (eW P Q)
 obtain ⟨nc,bd⟩:=aj (am C)
 have bD:C<18446744073709551616^(np+nq):=by rw [hC];exact qk an ap
 have be:nc<=np+nq:=by rw [bd];exact (aC _ _).2 bD
 have al:C<18446744073709551616^nc:=(aC C nc).1 (by omega);have vC:val (digs C nc)=C:=by rw [ay,aB al]
 have bC:2<=C:=by rw [hC];exact x8 bT bW
 have ac:HzD (∀ W va ca vb cb,Row .u64 W (.slice va np ca) (digs P np)->Row .u64 W (.slice vb nq cb) (digs Q nq)->ClZ 145 #[.slice va np ca,.slice vb nq cb] W fun e w'=>∃ vo vc,e=.returned (.tuple #[.slice vo nc vc,.int .i64 0])/\Row .u64 w' (.slice vo nc vc) (digs C nc)/\Kept af W w'):=fun W va ca vb cb h1 h2=>by
  refine (I9 va vb np nq ca cb _ _ P Q 0 _ vP.symm vQ.symm (by omega) (by omega) (.inl ⟨rfl,by omega,by omega⟩) (by rw [ai rfl,<- hC,<- bd]) W h1 h2 dP dQ).mono ?_;rintro e w' ⟨v',rfl,hr,_,k⟩;obtain ⟨vo,vn,vc,rfl,hl,_,_,_,_⟩:=hr.open;obtain rfl:nc=vn:=by rw [<- hl.o,ag]
  exact ⟨_,_,rfl,hr,k⟩
 have bJ:=fun v n c W=>mY v n c W
 have JX:HzD (∀ W v c,Row .u64 W (.slice v nc c) (digs C nc)->ClZ 143 #[.int .u64 (e:Nat),.slice v nc c] W fun r w'=>∃ vo vc d,r=.returned (.slice vo (nc+1) vc)/\HzD (d<C/\e*d%C=1)/\Row .u64 w' (.slice vo (nc+1) vc) (digs d (nc+1))/\Kept af W w'):=fun W v c h=>LU v nc c _ C e vC.symm bC bO bR (by omega) (by omega) (by rw [hC];exact bb) W h (ak (by omega) _ _)
 obtain ⟨m,hm⟩:=aj (max np nq)
 have cy:max (np:Int) (nq:Int)=(m:Int):=by omega
 have cu:C<P*Q:=by
  have h1:C<=(P-1)*(Q-1):=by
   rw [hC,eW];exact cF _ (em _ _)
  have h2:(P-1)*(Q-1)<=(P-1)*Q:=bG _ (by omega);have h3:(P-1)*Q<P*Q:=nJ (by omega) (by omega);omega
 have cv:P<18446744073709551616^m:=bi an (bj (by omega) (by omega));have cw:Q<18446744073709551616^m:=bi ap (bj (by omega) (by omega));have F1:HzD (∀ W v c d,d<C->Row .u64 W (.slice v (nc+1) c) (digs d (nc+1))->ClZ 146 #[.slice v (nc+1) c,.int .i64 (nw:Nat)] W fun e w'=>∃ vo vc,e=.returned (.slice vo nw vc)/\Row .u64 w' (.slice vo nw vc) (digs d nw)/\Fresh W (.slice vo nw vc)/\Kept af W w'):=fun W v c d aq h=>EZ v (nc+1) c _ d nw (by rw [ay,aB];exact bi (bH aq al) (bj (by omega) (by omega))) (by omega) (by omega) W h (ak (by omega) _ _)
 have FP:HzD (∀ W v c X,X<=P->Row .u64 W (.slice v np c) (digs X np)->ClZ 146 #[.slice v np c,.int .i64 (m:Nat)] W fun e w'=>∃ vo vc,e=.returned (.slice vo m vc)/\Row .u64 w' (.slice vo m vc) (digs X m)/\Fresh W (.slice vo m vc)/\Kept af W w'):=fun W v c X hX h=>EZ v np c _ X m (by rw [ay,dH]) (by omega) (by omega) W h (ak (by omega) _ _)
 have FQ:HzD (∀ W v c X,X<=Q->Row .u64 W (.slice v nq c) (digs X nq)->ClZ 146 #[.slice v nq c,.int .i64 (m:Nat)] W fun e w'=>∃ vo vc,e=.returned (.slice vo m vc)/\Row .u64 w' (.slice vo m vc) (digs X m)/\Fresh W (.slice vo m vc)/\Kept af W w'):=fun W v c X hX h=>EZ v nq c _ X m (by rw [ay,dH]) (by omega) (by omega) W h (ak (by omega) _ _)
 have LP:HzD (∀ W v c,Row .u64 W (.slice v np c) (digs P np)->ClZ 148 #[.slice v np c] W fun e w'=>∃ vo vc,e=.returned (.slice vo np vc)/\Row .u64 w' (.slice vo np vc) (digs (P-1) np)/\Kept af W w'):=fun W v c h=>zJ v np c _ P vP.symm (by omega) (ag _ _ _) (by omega) W h dP
 have LQ:HzD (∀ W v c,Row .u64 W (.slice v nq c) (digs Q nq)->ClZ 148 #[.slice v nq c] W fun e w'=>∃ vo vc,e=.returned (.slice vo nq vc)/\Row .u64 w' (.slice vo nq vc) (digs (Q-1) nq)/\Kept af W w'):=fun W v c h=>zJ v nq c _ Q vQ.symm (by omega) (ag _ _ _) (by omega) W h dQ
 have RP:HzD (∀ W v c v2 c2 d,d<C->Row .u64 W (.slice v (nc+1) c) (digs d (nc+1))->Row .u64 W (.slice v2 np c2) (digs (P-1) np)->ClZ 147 #[.slice v (nc+1) c,.slice v2 np c2] W fun e w'=>∃ vo vc,e=.returned (.slice vo np vc)/\Row .u64 w' (.slice vo np vc) (digs (d%(P-1)) np)/\Kept af W w'):=fun W v c v2 c2 d aq h1 h2=>zK v v2 (nc+1) np c c2 _ _ d (P-1) (by rw [ay,aB];exact bi (bH aq al) (bj (by omega) (by omega))) (by rw [ay,dH]) (by omega) (by omega) (by omega) W h1 h2 (ak (by omega) _ _) (ak (by omega) _ _)
 have RQ:HzD (∀ W v c v2 c2 d,d<C->Row .u64 W (.slice v (nc+1) c) (digs d (nc+1))->Row .u64 W (.slice v2 nq c2) (digs (Q-1) nq)->ClZ 147 #[.slice v (nc+1) c,.slice v2 nq c2] W fun e w'=>∃ vo vc,e=.returned (.slice vo nq vc)/\Row .u64 w' (.slice vo nq vc) (digs (d%(Q-1)) nq)/\Kept af W w'):=fun W v c v2 c2 d aq h1 h2=>zK v v2 (nc+1) nq c c2 _ _ d (Q-1) (by rw [ay,aB];exact bi (bH aq al) (bj (by omega) (by omega))) (by rw [ay,dH]) (by omega) (by omega) (by omega) W h1 h2 (ak (by omega) _ _) (ak (by omega) _ _)
 have ch:HzD (∀ d,d%(P-1)<=P):=fun d=>by have:=aY d (show 0<P-1 by omega);omega
 have cj:HzD (∀ d,d%(Q-1)<=Q):=fun d=>by have:=aY d (show 0<Q-1 by omega);omega
 have bt:=aa bc;have V:HzD (m=max (am P) (am Q)):=by rw [hm,ar,aJ];rfl
 have bq:=aa hC;have ck:HzD (eR L M P Q e):=⟨⟨E.1,j.1⟩,E.2,j.2,by rw [ft];exact hg,p,by rw [ft];exact bb⟩
 have b9:HzD (∀ W,Kept af w W->W.heap[bK]? = some (.cells zeroKey 26 (0,0))):=fun W k=>(k.block _ (lt_of_block bx) (fun f=>f)).trans bx
 have ce:HzD (bK<w.heap.size):=lt_of_block bx;have cg:=aa hB;have HA:=aa ha;have b8:=aa bL;have cz:bE≠bK:=fun h=>by
  subst h;rw [cell_of_row w _ 0 _ _ _ bx] at b2;cases b2
 clear bO cx bR hg bb hC bd bD be al vC bC hm cu cv cw ha bL hB bx hu hv bM bN hP hQ E j bF ar aJ aK bT bW bV bf bg an ap ba bh bI vP vQ vN dP dQ dN bc z p;delta ClZ;go_in;go_wp2_with fail;refine wp_region_held_drew (S:=fun w'=>w'.cell? ⟨bP,0,none⟩=some (.slice ao L D)/\w'.cell? ⟨bQ,0,none⟩=some (.slice bo M t)) (by kernel_rfl) ⟨b0,b1⟩ (fun hS=>?_);refine aO 0 (some 10) (.slice ao L D) hS ?_ (y:=dL fun w h=>by simp [execOp,go_sem,h.1]);refine aO 2 (some 12) (.slice bo M t) hS ?_ (y:=dL fun w h=>by simp [execOp,go_sem,h.2]);simp only [aU]
 refine cD 1 (some 11) 139 [.slice ao L D] (J1) ?_;rintro e w4 ⟨vp,cp,rfl,bZ,_,k4⟩;have aH:w4.cell? ⟨bP,0,none⟩=some (.slice ao L D)/\w4.cell? ⟨bQ,0,none⟩=some (.slice bo M t):=⟨k4.cellN hS.1,k4.cellN hS.2⟩
 refine .inl ⟨_,rfl,aH,?_⟩;simp only [aU];refine cD 3 (some 13) 139 [.slice bo M t] (J2.o w4 (KD.trans k4)) ?_;rintro e w5 ⟨vq,cq,rfl,b3,_,k5⟩;have aI:w5.cell? ⟨bP,0,none⟩=some (.slice ao L D)/\w5.cell? ⟨bQ,0,none⟩=some (.slice bo M t):=⟨k5.cellN aH.1,k5.cellN aH.2⟩
 refine .inl ⟨_,rfl,aI,?_⟩;refine aO 4 (some 4) (.slice vp np cp) aI ?_;refine aO 5 (some 5) (.slice vq nq cq) aI ?_;simp only [aU];refine wpAnyH_done (by kernel_rfl) ?_ _;have aT:=aa ((KD.trans k4).trans k5);have aX:=aa (bZ.g k5);have a1:=aa b3;have J5:=ad.o w5 vp cp vq cq aX.o a1.o;clear J1 J2 KD k4 k5 bZ b3 hS aH aI ad b0 b1;go_wp2_with fail;refine J5.mono ?_;rintro e6 w6 ⟨vm,cm,rfl,bX,k6⟩;have J6:=JN.o w6 vm cm bX;clear J5 bX JN;go_wp2_with fail;refine J6.mono ?_;rintro e6 w7 ⟨vn,cn,rfl,bk,bS,k7⟩;have aV:=aa (aT.o.trans (k6.trans k7));have bw:=aa (aX.o.g (k6.trans k7))
 have bz:=aa (a1.o.g (k6.trans k7));have bu:=aa bk;have br:=aa (bS.b (aT.o.trans k6));have J7:=J.o w7 vn cn bk;have c7:=aV.o.cellN b2;clear J6 bk bS k6 k7 aT aX a1 J;go_wp2_with fail;refine J7.mono ?_;rintro e6 w8 ⟨rfl,k8⟩;have bs:=aa (aV.o.trans k8);have a0:=aa (bw.o.g k8);have a2:=aa (bz.o.g k8);have bv:=aa (bu.o.g k8);clear J7 k8 aV bw bz bu;go_wp2_with fail;refine (hR _).mono ?_;rintro e6 w9 ⟨rfl,rfl⟩;have J9:=JI.o w9 vq cq vp cp a2.o a0.o;clear hR JI;go_wp2_with fail;refine J9.mono ?_;rintro e6 bn ⟨vi,ci,T,rfl,HT,au,ax⟩;have G:=aa (bs.o.trans ax);have H:=aa (a0.o.g ax)
 have I:=aa (a2.o.g ax);have Y:=aa (bv.o.g ax);have U:=aa au;have o:Kept af bn bn.drew:=(ah af bn).drew;have bA:=G.o.cellN b2;clear J9 au ax bs a0 a2 bv c7;go_wp2_with fail;refine wp_region_held_drew (S:=fun w'=>w'.cell? ⟨bE,0,none⟩=some (.int .u64 (e:Int))) (by kernel_rfl) bA (fun hS=>?_);refine aO 0 (some 26) (.int .u64 (e:Int)) hS ?_ (y:=dL fun w h=>by simp [execOp,go_sem,h]);refine aO 1 (some 27) (.slice vp np cp) hS ?_;refine aO 2 (some 28) (.slice vq nq cq) hS ?_;simp only [aU]
 refine cD 3 (some 29) 145 [.slice vp np cp,.slice vq nq cq] (ac.o _ vp cp vq cq (H.o.g o) (I.o.g o)) ?_;rintro e6 cC ⟨vc,cc,rfl,av,aM⟩;have l:=aM.cellN hS;refine .inl ⟨_,rfl,l,?_⟩;refine aO 4 (some 30) (.slice vc nc cc) l ?_;refine aO 5 (some 31) (.int .i64 0) l ?_;simp only [aU];refine cD 6 (some 32) 144 [.slice vc nc cc,.int .i64 0] (bJ vc nc cc cC) ?_;rintro e6 cT ⟨rfl,bl⟩;subst bl;refine .inl ⟨_,rfl,l,?_⟩;simp only [aU];refine cD 7 (some 33) 143 [.int .u64 (e:Int),.slice vc nc cc] (JX.o _ vc cc av) ?_;rintro e6 bp ⟨vd,cd,d,rfl,HD,aw,aN⟩;have N:=aN.cellN l
 refine .inl ⟨_,rfl,N,?_⟩;refine aO 8 (some 8) (.slice vd (nc+1) cd) N ?_;simp only [aU];refine wpAnyH_done (by kernel_rfl) ?_ _;have b:=aa (G.o.trans ((o.trans aM).trans aN));have q:=(o.trans aM).trans aN;have Z:=aa (H.o.g q);have ab:=aa (I.o.g q);have aW:=aa (Y.o.g q);have aS:=aa (U.o.g q);have F:=aa aw;have s:=b.o.cellN b2;clear G H I Y U o aM aN q av aw hS l N bA ac JX bJ;have a3:Kept af bp bp.drew:=(ah af bp).drew;go_wp2_with fail;go_region_held3 (fun w'=>w'.cell? ⟨bE,0,none⟩=some (.int .u64 (e:Int)))
  (((try dsimp only);first | (with_reducible assumption) | (with_reducible refine Jj ?_ ?_;(with_reducible assumption);(dsimp only;exact cz)) | (go_keep;done)))
  (first
  | (go_at_call 146;refine (FP.o _ vi ci T (eH HT.o.1) (aS.o.g aG)).mono ?_;rintro e6 cE ⟨b6,b4,rfl,cB,ct,R⟩;have ae:=aG.trans R;have cR:=ae.cellN s;have g:=b9.o cE (b.o.trans ae);obtain ⟨g0,g1,g2,g3,g4,g5,g6,g7⟩:=aZ g;have q0:=cL g 0;have q1:=cL g 1;have q2:=cL g 2;have q3:=cL g 3;have q4:=cL g 4;have q5:=cL g 5;have q6:=cL g 6;have q7:=cL g 7)
  | (go_at_call 146;refine (FQ.o _ z8 y8 _ (cj.o d) s8).mono ?_;rintro e6 c4 ⟨z9,y9,rfl,s9,f9,aD⟩;have aG:=a9.trans aD;have cQ:=aG.cellN s)
  | (go_at_call 147;refine (RQ.o _ vd cd z7 y7 d HD.o.1 (F.o.g a8) s7).mono ?_;rintro e6 c3 ⟨z8,y8,rfl,s8,aA⟩;have a9:=a8.trans aA;have cP:=a9.cellN s)
  | (go_at_call 148;refine (LQ.o _ vq cq (ab.o.g a7)).mono ?_;rintro e6 c1 ⟨z7,y7,rfl,s7,az⟩;have a8:=a7.trans az;have cO:=a8.cellN s)
  | (go_at_call 146;refine (FP.o _ z5 y5 _ (ch.o d) s5).mono ?_;rintro e6 c0 ⟨z6,y6,rfl,s6,f6,aR⟩;have a7:=a6.trans aR;have cN:=a7.cellN s)
  | (go_at_call 147;refine (RP.o _ vd cd z4 y4 d HD.o.1 (F.o.g a5) s4).mono ?_;rintro e6 cZ ⟨z5,y5,rfl,s5,aQ⟩;have a6:=a5.trans aQ;have cM:=a6.cellN s)
  | (go_at_call 148;refine (LP.o _ vp cp (Z.o.g a4)).mono ?_;rintro e6 cY ⟨z4,y4,rfl,s4,aP⟩;have a5:=a4.trans aP;have cJ:=a5.cellN s)
  | (go_at_call 146;refine (FQ.o _ vq cq Q (leR _) (ab.o.g aF)).mono ?_;rintro e6 cW ⟨z3,y3,rfl,s3,f3,bm⟩;have a4:=aF.trans bm;have cI:=a4.cellN s)
  | (go_at_call 146;refine (FP.o _ vp cp P (leR _) (Z.o.g aE)).mono ?_;rintro e6 cV ⟨z2,y2,rfl,s2,f2,bY⟩;have aF:=aE.trans bY;have cH:=aF.cellN s)
  | (go_at_call 146;refine (F1.o _ vd cd d HD.o.1 (F.o.g a3)).mono ?_;rintro e6 cU ⟨z1,y1,rfl,s1,f1,cA⟩;have aE:=a3.trans cA;have cG:=aE.cellN s))
 go_end0
 have e1:Fresh w (.slice z1 nw y1):=fun x hx=>by have h1:=f1 x hx;have h2:=(b.o.trans a3).size;omega
 have e2:Fresh w (.slice z2 m y2):=f2.b (b.o.trans aE);have e3:Fresh w (.slice z3 m y3):=f3.b (b.o.trans aF);have e6:Fresh w (.slice z6 m y6):=f6.b (b.o.trans a6);have e9:Fresh w (.slice z9 m y9):=f9.b (b.o.trans a9);have bB:Fresh w (.slice b6 m b4):=ct.b (b.o.trans aG);obtain ⟨b5,b7,A⟩:=mC (HA.o.trans (b.o.trans ae)) b8.o g (.slice vn nw cn) (.int .u64 (e:Nat)) (.slice z1 nw y1) (.slice z2 m y2) (.slice z3 m y3) (.slice z6 m y6) (.slice z9 m y9) (.slice b6 m b4);unfold ow at b5 b7 A;have i:∀ v,Fresh w v->∀ x,v.ownBlock=some x->B<x:=fun v h x hx=>by have h1:=h x hx;have h2:=cg.o;omega
 have O:∀ v,Fresh w v->∀ x,v.ownBlock=some x->¬ x=bK:=fun v h x hx cS=>by have h1:=h x hx;have h2:=ce.o;omega
 have cl:=bY.trans (bm.trans (aP.trans (aQ.trans (aR.trans (az.trans (aA.trans (aD.trans R)))))));have co:=bm.trans (aP.trans (aQ.trans (aR.trans (az.trans (aA.trans (aD.trans R))))));have cr:=aP.trans (aQ.trans (aR.trans (az.trans (aA.trans (aD.trans R)))));have cs:=az.trans (aA.trans (aD.trans R));refine .inl ⟨ck.o,rfl,_,b5,⟨_,_,_,_,_,_,_,d,T,rfl,?_,?_,?_,?_,?_,?_,?_,?_,HT.o.1,HT.o.2,?_⟩,zL (i _ br.o) (i _ e1) (i _ e2) (i _ e3) (i _ e6) (i _ e9) (i _ bB),(b.o.trans ae).any.trans A,b7⟩
 ·rw [bt.o];exact (aW.o.g ae).kept A (O _ br.o)
 ·rw [<- bq.o];exact HD.o.1
 ·rw [<- bq.o];exact HD.o.2
 ·rw [bt.o,ag];exact (s1.g cl).kept A (O _ e1)
 ·rw [<- V.o];exact (s2.g co).kept A (O _ e2)
 ·rw [<- V.o];exact (s3.g cr).kept A (O _ e3)
 ·rw [<- V.o];exact (s6.g cs).kept A (O _ e6)
 ·rw [<- V.o];exact (s9.g R).kept A (O _ e9)
 ·rw [<- V.o];exact cB.kept A (O _ bB)

theorem LW (u v:Value) (xs ys:LN) (w:World) (hu:Row .u64 w u xs) (hv:Row .u64 w v ys) (a:Digs xs) (b:Digs ys) (hL:xs.length<=100000000) (hM:ys.length<=100000000) :
  ClZ 112 #[.pointer none,u,v] w fun e w'=>e=.returned (.int .u64 (dF (decide (val xs<val ys)):Nat))/\Kept af w w':=by
 refine (sr none u v xs ys w (TrRoom.none w 1 (by omega)) (RowT.none hu) (RowT.none hv) a b hL hM).mono ?_;rintro e w' ⟨rfl,o',hd⟩;exact ⟨rfl,hd.none.2⟩

theorem E6 (u v:Value) (xs ys:LN) (w:World) (hu:Row .u64 w u xs) (hv:Row .u64 w v ys) (a:Digs xs) (b:Digs ys) (hL:xs.length<=100000000) (hM:ys.length<=100000000) :
  ClZ 66 #[.pointer none,u,v] w fun e w'=>e=.returned (.int .u64 (dF (decide (val xs=val ys)):Nat))/\Kept af w w':=by
 refine (qN none u v xs ys w (TrRoom.none w 1 (by omega)) (RowT.none hu) (RowT.none hv) a b hL hM).mono ?_;rintro e w' ⟨rfl,o',hd⟩;exact ⟨rfl,hd.none.2⟩

theorem kOf (ao bo:OA) (L M c g:Nat) (xs ys:LN) (P Q e:Nat) (w:World) (hP:P=val xs) (hQ:Q=val ys) (hu:Row .u64 w (.slice ao L c) xs) (hv:Row .u64 w (.slice bo M g) ys) (h:Digs xs) (j:Digs ys) (hL:L<=1000) (hM:M<=1000) :
  ClZ 89 #[.slice ao L c,.slice bo M g,.int .u64 (e:Nat)] w fun r w'=>∃ kv E,r=.returned (.tuple #[.agg kv,.int .i64 ((E:Nat):Int)])/\((E=0/\eR L M P Q e/\KeyAt w' P Q e kv)\/(E=190/\¬ eR L M P Q e/\kv=zeroKey))/\kQ w.heap.size kv/\Kept af w w':=by
 have he:∀ args w,(callFunc 138 args).run prog w=.ok (.enter 138 args) w:=fun _ _=>by simp [go_sem]
 have V:=xW w (.slice ao L c) (.slice bo M g) (.int .u64 (e:Nat)) 23 23 24;obtain ⟨W0,J⟩:=aj (((w.alloc (.cells #[.slice ao L c] 23)).alloc (.cells #[.slice bo M g] 23)).alloc (.cells #[.int .u64 (e:Nat)] 24))
 rw [<- J] at V;obtain ⟨k0,x1,x2,x3,hs⟩:=V;obtain ⟨W,hW⟩:=aj (W0.alloc (.cells zeroKey 26))
 have kW:Kept af W0 W:=by rw [hW];exact (ah af W0).alloc _
 have N:W.heap.size=W0.heap.size+1:=by rw [hW];simp
 have bK:W.heap[W0.heap.size]? = some (.cells zeroKey 26 (0,0)):=by rw [hW];exact heap_alloc_new _ _
 rw [hs] at bK N;have kE:=(ah af W).alloc (.cells #[.int .i64 0] 35);have xe:Box (W.alloc (.cells #[.int .i64 0] 35)) W.heap.size (.int .i64 0) 35:=Box.new W (.int .i64 0) 35;have Z:(W.alloc (.cells #[.int .i64 0] 35)).heap.size=W.heap.size+1:=by simp
 have k1:Kept af w (W.alloc (.cells #[.int .i64 0] 35)):=(k0.trans kW).trans kE;have o:(W.alloc (.cells #[.int .i64 0] 35)).heap[w.heap.size+1+1+1]? = some (.cells zeroKey 26 (0,0)):=aw bK;have c0:=((x1.g kW).g kE).cell;have c1:=((x2.g kW).g kE).cell;have c2:=((x3.g kW).g kE).cell;have k:ClZ 138 #[.pointer (some ⟨w.heap.size,0,none⟩),.pointer (some ⟨w.heap.size+1,0,none⟩),.pointer (some ⟨w.heap.size+1+1,0,none⟩),.pointer (some ⟨w.heap.size+1+1+1,0,none⟩)] (W.alloc (.cells #[.int .i64 0] 35)) fun r w'=>OfEnd L M P Q e W.heap.size (w.heap.size+1+1+1) w (W.alloc (.cells #[.int .i64 0] 35)) r w':=by
  by_cases hA:L<=300/\eI P
  ·by_cases hB:M<=300/\eI Q
   ·by_cases hC:gU (cK P Q) e=0
    ·by_cases hD:Nat.gcd Q P=1
     ·by_cases hE:Nat.gcd (eW P Q) e=1
      ·exact Jh _ _ _ _ ao bo L M c g xs ys P Q e _ hP hQ hA hB hC hD hE _ _ (hu.g k1) (hv.g k1) h j c0 c1 c2 k1 (by omega) Z o
      ·exact Jg _ _ _ _ ao bo L M c g xs ys P Q e _ hP hQ hA hB hC hD hE _ _ (hu.g k1) (hv.g k1) h j c0 c1 c2
     ·exact Jf _ _ _ _ ao bo L M c g xs ys P Q e _ hP hQ hA hB hC hD _ _ (hu.g k1) (hv.g k1) h j c0 c1 c2
    ·exact Je _ _ _ _ ao bo L M c g xs ys P Q e _ hP hQ hA hB hC _ _ (hu.g k1) (hv.g k1) h j c0 c1 c2
   ·exact Jc _ _ _ _ ao bo L M c g xs ys P Q e _ hP hQ hM hA hB _ _ (hu.g k1) (hv.g k1) h j c0 c1
  ·exact Jb _ _ _ _ ao bo L M c g xs P Q e _ hP hL hA _ _ (hu.g k1) h c0 c1
 have T:=oe 138 _ W (fun n W'=>(n=0/\eR L M P Q e/\∃ kv,W'.heap[w.heap.size+1+1+1]? = some (.cells kv 26 (0,0))/\KeyAt W' P Q e kv/\kQ W.heap.size kv/\Kept af w W')\/(n=190/\¬ eR L M P Q e/\W'.heap[w.heap.size+1+1+1]? = some (.cells zeroKey 26 (0,0))/\Kept af w W')) he (k.mono (by
  rintro r w' (⟨C,rfl,kv,h1,h2,h3,h4,h5⟩ | ⟨B,rfl,h1⟩)
  ·exact ⟨xe.kept h4 (by omega),.inl ⟨rfl,.inl ⟨rfl,C,kv,h1,h2,h3,h5⟩⟩⟩
  ·exact ⟨xe.g h1,.inr ⟨_,rfl,.inr ⟨rfl,B,(h1.block _ (lt_of_block o) (fun f=>f)).trans o,k1.trans h1⟩⟩⟩))
 have ak:=aa J;have HW:=aa hW;have i:=aa N;have ai:=aa hs;clear hu hv h j hP hQ hL hM k0 kW kE k1 x1 x2 x3 xe hs Z J hW N bK o c0 c1 c2 he k;unfold zeroKey at HW;delta ClZ;go_in;go_wp2_with (first | rw [<- ak.o] | rw [<- HW.o]);rw [ai.o];refine T.mono ?_;rintro r w' ⟨n,w1,rfl,⟨hq,U⟩,rfl⟩;clear T;rcases hq with ⟨rfl,C,kv,hx,A,hfar,hk⟩ | ⟨rfl,B,hx,hk⟩
 ·obtain ⟨vn,vd,vp,vq,am,an,ap,d,u,rfl,rn,X,Y,rd,rp,rq,O,R,ab,ac,S⟩:=A;obtain ⟨no,nl,nc,rfl,-,-,-,-,-⟩:=rn.open;obtain ⟨dO,dl,dc,rfl,-,-,-,-,-⟩:=rd.open;obtain ⟨po,pl,pc,rfl,-,-,-,-,-⟩:=rp.open;obtain ⟨qo,ql,qc,rfl,-,-,-,-,-⟩:=rq.open;obtain ⟨s,q,p,rfl,-,-,-,-,-⟩:=O.open;obtain ⟨z,y,t,rfl,-,-,-,-,-⟩:=R.open;obtain ⟨G,F,D,rfl,-,-,-,-,-⟩:=S.open;have A:KeyAt w1 P Q e #[.slice no nl nc,.int .u64 (e:Nat),.slice dO dl dc,.slice po pl pc,.slice qo ql qc,.slice s q p,.slice z y t,.slice G F D]:=⟨_,_,_,_,_,_,_,d,u,rfl,rn,X,Y,rd,rp,rq,O,R,ab,ac,S⟩
  have kb:=aF w1 W.heap.size (.int .i64 0);have l:=A.kept kb (fun v hv x hx al=>by have:=hfar v hv x hx;omega);have b:=gY hx (a:=⟨W.heap.size,0,none⟩) (by show _≠W.heap.size;have:=i.o;omega) (.int .i64 0);have m:=hk.next kb (fun x hx e=>by have:=i.o;omega)
  obtain ⟨z1,z2,z3⟩:=mC m (by omega:w.heap.size<=w.heap.size+1+1+1) b (.slice no nl nc) (.int .u64 (e:Nat)) (.slice dO dl dc) (.slice po pl pc) (.slice qo ql qc) (.slice s q p) (.slice z y t) (.slice G F D);unfold ow at z1 z2 z3;have ad:=aa (l.kept z3 (fun v hv x hx al=>by have h1:=hfar v hv x hx;have h2:=i.o;omega));have H:HzD (kQ w.heap.size #[.slice no nl nc,.int .u64 (e:Nat),.slice dO dl dc,.slice po pl pc,.slice qo ql qc,.slice s q p,.slice z y t,.slice G F D]):=fun v hv x hx=>by have h1:=hfar v hv x hx;have h2:=i.o;omega
  have I:=aa z2;obtain ⟨r0,r1,r2,r3,r4,r5,r6,r7⟩:=aZ z1;obtain ⟨c0,c1,c2,c3,c4,c5,c6,c7⟩:=aZ b;have f0:=cL b 0;have f1:=cL b 1;have f2:=cL b 2;have f3:=cL b 3;have f4:=cL b 4;have f5:=cL b 5;have f6:=cL b 6;have f7:=cL b 7;have ag:=aa C;clear rn rd rp rq O R S A kb l hx hk m hfar b z1 z2 z3 U C X Y ab ac;generalize w1.setCell ⟨W.heap.size,0,none⟩ (.int .i64 0)=W2 at *;go_wp2_with fail
  exact bodyPost_ret (v:=.tuple #[.agg #[.slice no nl nc,.int .u64 (e:Nat),.slice dO dl dc,.slice po pl pc,.slice qo ql qc,.slice s q p,.slice z y t,.slice G F D],.int .i64 0]) (by simp [results,results89,go_sem,r0,r1,r2,r3,r4,r5,r6,r7]) rfl ⟨_,0,rfl,.inl ⟨rfl,ag.o,ad.o⟩,H.o,I.o⟩
 ·have kb:=aF w1 W.heap.size (.int .i64 190);have b:=gY hx (a:=⟨W.heap.size,0,none⟩) (by show _≠W.heap.size;have:=i.o;omega) (.int .i64 190);have m:=hk.next kb (fun x hx e=>by have:=i.o;omega)
  obtain ⟨z1,z2,-⟩:=mC m (by omega:w.heap.size<=w.heap.size+1+1+1) b (.slice none 0 0) (.int .u64 0) (.slice none 0 0) (.slice none 0 0) (.slice none 0 0) (.slice none 0 0) (.slice none 0 0) (.slice none 0 0);unfold ow at z1 z2;have I:=aa z2;obtain ⟨r0,r1,r2,r3,r4,r5,r6,r7⟩:=aZ z1;obtain ⟨c0,c1,c2,c3,c4,c5,c6,c7⟩:=aZ b;have f0:=cL b 0;have f1:=cL b 1;have f2:=cL b 2;have f3:=cL b 3;have f4:=cL b 4;have f5:=cL b 5;have f6:=cL b 6;have f7:=cL b 7;have ae:=aa B;clear kb hx hk m b z1 z2 U B;generalize w1.setCell ⟨W.heap.size,0,none⟩ (.int .i64 190)=W2 at *;go_wp2_with fail
  exact bodyPost_ret (v:=.tuple #[.agg zeroKey,.int .i64 190]) (by simp [results,results89,go_sem,r0,r1,r2,r3,r4,r5,r6,r7]) rfl ⟨_,190,rfl,.inr ⟨rfl,ae.o,rfl⟩,el _,I.o⟩

theorem G5 (b n:Nat) (hn:n<=1000) (A A':Nat->OA) (F G F' G':Nat->Nat) (X Y:Nat->LN) (w:World)
  (hc:∀ i,i<n->w.cell? ⟨b,i*2,none⟩=some (.slice (A i) (F i) (G i))/\w.cell? ⟨b,i*2+1,none⟩=some (.slice (A' i) (F' i) (G' i)))
  (hr:∀ i,i<n->Row .u64 w (.slice (A i) (F i) (G i)) (X i)/\Row .u64 w (.slice (A' i) (F' i) (G' i)) (Y i)/\Digs (X i)/\Digs (Y i)/\(Y i).length<=1000) (R:Bool) (hR:R=true↔∀ i,i<n->X i=Y i) :
  ClZ 91 #[.slice (some ⟨b,0,none⟩) n n] w fun e w'=>e=.returned (.bool R)/\Kept af w w':=by
 have HC:=aa hc;have HR:=aa hr;have C:=aa hR;clear hc hr hR;delta ClZ;go_in;go_wp2_with fail;go_loopw [7] (fun i wr=>∃ k:Nat,k<=n/\i=.int .i64 (k:Int)/\HzD (∀ j,j<k->X j=Y j)/\HzD (Kept af w wr)) (fun i _=>((n:Int)-intOf i).toNat)
 case atStart=>exact ⟨0,aQ _,rfl,fun j hj=>by omega,ah _ _⟩
 case round=>
  obtain ⟨k,hk,rfl,l,HK⟩:=hrel;by_cases hkn:k<n
  ·have E:(k:Int)<(n:Int):=by omega
   obtain ⟨q0,q1⟩:=HC.o k hkn;have p0:=HK.o.cellN q0;have p1:=HK.o.cellN q1;obtain ⟨rx,ry,dx,dy,y⟩:=HR.o k hkn;have rx:=rx.g HK.o;have ry:=ry.g HK.o;obtain ⟨xs,d⟩:=aj (X k)
   obtain ⟨ys,f⟩:=aj (Y k)
   obtain ⟨ao,q⟩:=aj (A k)
   obtain ⟨bo,r⟩:=aj (A' k)
   obtain ⟨la,v⟩:=aj (F k)
   obtain ⟨ca,s⟩:=aj (G k)
   obtain ⟨lb,x⟩:=aj (F' k)
   obtain ⟨cb,t⟩:=aj (G' k)
   rw [<- q,<- v,<- s] at p0 rx;rw [<- r,<- x,<- t] at p1 ry;rw [<- d] at rx dx;rw [<- f] at ry dy y;have p:HzD (xs=ys->∀ j,j<k+1->X j=Y j):=fun h j hj=>by
    by_cases e:j=k
    ·subst e;rw [<- d,<- f];exact h
    ·exact l.o j (by omega)
   have g:HzD (xs≠ys->R=false):=fun h=>by
    cases e:R with
    | false=>rfl
    | true=>exact absurd (by rw [d,f];exact C.o.1 e k hkn) h
   obtain ⟨_,_,_,e1,c,-,-,-,-⟩:=rx.open;cases e1
   obtain ⟨_,_,_,e1,a,-,-,-,-⟩:=ry.open;cases e1
   obtain ⟨W,hW⟩:=aj (wr.alloc (.cells #[.slice ao la ca,.slice bo lb cb] 131))
   have kW:Kept af wr W:=by rw [hW];exact (ah af wr).alloc _
   have hb:W.heap[wr.heap.size]? = some (.cells #[.slice ao la ca,.slice bo lb cb] 131 (0,0)):=by rw [hW];exact heap_alloc_new _ _
   have s0:W.cell? ⟨wr.heap.size,0,none⟩=some (.slice ao la ca):=(cell_of_row W _ 0 _ _ _ hb).trans rfl;have s1:W.cell? ⟨wr.heap.size,1,none⟩=some (.slice bo lb cb):=(cell_of_row W _ 1 _ _ _ hb).trans rfl;have HW:=aa hW;have B:=aa (HK.o.trans kW);have m:=aa c.o;have o:=aa a.o;by_cases hlen:la=lb
   ·have J:=E6 _ _ xs ys W (rx.g kW) (ry.g kW) dx dy (by rw [c.o,hlen,<- a.o];omega) (by omega);have g0:¬ (la:Int)≠(lb:Int):=by omega
    have g1:(la:Int)=(lb:Int):=by omega
    have g2:((la:Int) != (lb:Int))=false:=by simpa using g1
    by_cases hv:val xs=val ys
    ·have D:xs=ys:=by
      have i1:xs=digs (val xs) la:=cS (by omega) dx c.o (by rw [aB];rw [<- c.o];exact aE (by omega) dx);have i2:ys=digs (val ys) la:=cS (by omega) dy (by rw [a.o,hlen]) (by rw [aB];rw [hlen,<- a.o];exact aE (by omega) dy);rw [i1,i2,hv]
     have HT:=aa (p.o D);rw [dV hv] at J;have J':ClZ 66 #[.pointer none,.slice ao la ca,.slice bo lb cb] W fun e w'=>e=.returned (.int .u64 1)/\Kept af W w':=J
     clear rx ry dx dy y hW kW hb c a hv J q0 q1 d f q r v s x t p g m o D hlen;go_wp2_with (rw [<- HW.o]);refine J'.mono ?_;rintro e w5 ⟨rfl,k5⟩;have z:=aa (B.o.trans k5);clear J' k5 g0 g1 g2;go_wp2_with fail;go_roundw
     case rel=>exact ⟨k+1,by omega,by go_num,HT.o,z.o⟩
     case measure=>simp [intOf];omega
    ·have HF:=aa (g.o (fun h=>hv (by rw [h])));rw [cI hv] at J;have J':ClZ 66 #[.pointer none,.slice ao la ca,.slice bo lb cb] W fun e w'=>e=.returned (.int .u64 0)/\Kept af W w':=J
     clear rx ry dx dy y hW kW hb c a hv J q0 q1 d f q r v s x t p g m o hlen;go_wp2_with (rw [<- HW.o]);refine J'.mono ?_;rintro e w5 ⟨rfl,k5⟩;have z:=aa (B.o.trans k5);clear J' k5 g0 g1 g2;go_wp2_with fail;go_ret;exact ⟨by rw [HF.o];rfl,z.o⟩
   ·have HF:=aa (g.o (fun h=>hlen (by rw [<- m.o,<- o.o,h])));have g1:¬ (la:Int)=(lb:Int):=by omega
    have g2:((la:Int) != (lb:Int))=true:=by simp;omega
    clear rx ry dx dy y hW kW hb c a q0 q1 d f q r v s x t p g m o hlen;go_wp2_with (rw [<- HW.o]);go_ret;exact ⟨by rw [HF.o];rfl,B.o⟩
  ·have E:¬ (k:Int)<(n:Int):=by omega
   have e:k=n:=by omega
   subst e;have HT:HzD (R=true):=C.o.2 l.o;go_wp2_with fail;go_ret;exact ⟨by rw [HT.o];rfl,HK.o⟩

theorem I8 (b:Nat) (s:KS) (l:KL) (E:Nat) (hE:(E=0/\KeyGood l.n l.d l.p l.q l.dp l.dq l.qi s.en)\/(E=190/\¬ KeyGood l.n l.d l.p l.q l.dp l.dq l.qi s.en)) (O:s.pl<=1000) (P:s.ql<=1000) (w:World) (hr:s.Rows w l) (hd:l.Digs) (hx:w.heap[b]? = some (.cells s.v 26 (0,0))) :
  ClZ 87 #[.pointer (some ⟨b,0,none⟩)] w fun r w'=>AttE E r/\Kept af w w':=by
 obtain ⟨_,_,_,e1,I,-,-,-,-⟩:=hr.p.open;cases e1
 obtain ⟨_,_,_,e1,J,-,-,-,-⟩:=hr.q.open;cases e1
 have hO:=(kOf s.po s.qo s.pl s.ql s.pc s.qc l.p l.q _ _ s.en w rfl rfl hr.p hr.q hd.p hd.q O P).mono fun _ _ h=>L4 h
 have JC:HzD (∀ W,Kept af w W->W.cell? ⟨b,0,none⟩=some (.slice s.no s.nl s.nc)/\W.cell? ⟨b,1,none⟩=some (.int .u64 ((s.en:Nat):Int))/\W.cell? ⟨b,2,none⟩=some (.slice s.dO s.dl s.dc)/\W.cell? ⟨b,3,none⟩=some (.slice s.po s.pl s.pc)/\W.cell? ⟨b,4,none⟩=some (.slice s.qo s.ql s.qc)/\W.cell? ⟨b,5,none⟩=some (.slice s.dpo s.dpl s.dpc)/\W.cell? ⟨b,6,none⟩=some (.slice s.dqo s.dql s.dqc)/\W.cell? ⟨b,7,none⟩=some (.slice s.qio s.qil s.qic)):=fun W k=>aZ ((k.block _ (lt_of_block hx) (fun f=>f)).trans hx)
 obtain ⟨c0,c1,c2,c3,c4,c5,c6,c7⟩:=JC.o w (ah _ _);have hG:∀ (E2 en:Nat) (m:KL),KeySays s.pl s.ql (val l.p) (val l.q) s.en E2 en m->(KeyGood l.n l.d l.p l.q l.dp l.dq l.qi s.en↔E2=0/\l=m):=fun E2 en m hs=>by
  constructor
  ·rintro ⟨c,d,u,a⟩;rw [I.o,J.o] at c;have h0:KeySays s.pl s.ql (val l.p) (val l.q) s.en 0 s.en l:=.inl ⟨rfl,c,rfl,d,u,a⟩;obtain ⟨h1,_,h2⟩:=hs.uniq h0;exact ⟨h1.symm,h2⟩
  ·rintro ⟨rfl,rfl⟩;rcases hs with ⟨_,c,rfl,d,u,a⟩ | ⟨h,_⟩
   ·exact ⟨by rw [I.o,J.o];exact c,d,u,a⟩
   ·exact absurd h (by decide)
 have HG:=aa hG;have HE:=aa hE;have HR:=aa hr;have HD:=aa hd;clear hr hd hx hE I J hG O P;delta ClZ;go_in;go_wp2_with fail;refine hO.mono ?_;rintro r w1 ⟨t,E2,rfl,m,Q,S,_,k1⟩;have x:=aa S;have F:=aa Q;have A:=aa k1;clear hO c0 c1 c2 c3 c4 c5 c6 c7 Q k1;unfold KS.v;rcases S with ⟨rfl,-,-,d,u,a⟩ | ⟨rfl,hno,-,-⟩
 ·have M:HzD (m.n.length<=1000/\m.d.length<=1000/\m.p.length<=1000/\m.q.length<=1000/\m.dp.length<=1000/\m.dq.length<=1000/\m.qi.length<=1000):=by
   obtain ⟨c⟩:Nonempty (eR s.pl s.ql (val l.p) (val l.q) s.en):=by
    rcases x.o with ⟨_,h,_⟩ | ⟨h,_⟩
    ·exact ⟨h⟩
    ·exact absurd h (by decide)
   obtain ⟨_,_,_,_,a1,a2,a3,a4,a5,a6,a7⟩:=a;have Y:am (val l.p)<=128:=cX (n:=128) (by have:=c.2.1.2.2;omega);have Z:am (val l.q)<=128:=cX (n:=128) (by have:=c.2.2.1.2.2;omega);have T:(cK (val l.p) (val l.q)).length<=1000:=by
    have h:=c.2.2.2.2.1;unfold gU at h;by_cases hc:1000<(cK (val l.p) (val l.q)).length
    ·rw [ai (.inr (.inl hc))] at h;exact absurd h (by decide)
    ·omega
   rw [a1,a2,a3,a4,a5,a6,a7];simp only [ag];refine ⟨T,T,?_,?_,?_,?_,?_⟩ <;> exact Nat.max_le.2 ⟨by omega,by omega⟩
  have J2:=Hg t.no t.dO t.po t.qo t.dpo t.dqo t.qio t.nl t.nc t.en t.dl t.dc t.pl t.pc t.ql t.qc t.dpl t.dpc t.dql t.dqc t.qil t.qic w1;clear a;go_wp2_with fail;refine J2.mono ?_;rintro r w2 ⟨rfl,k2⟩;obtain ⟨W,hW⟩:=aj (w2.alloc (.cells t.v 26))
  have kW:Kept af w2 W:=by rw [hW];exact (ah af w2).alloc _
  have U:W.heap[w2.heap.size]? = some (.cells t.v 26 (0,0)):=by rw [hW];exact heap_alloc_new _ _
  obtain ⟨d0,d1,d2,d3,d4,d5,d6,d7⟩:=aZ U;obtain ⟨c0,c1,c2,c3,c4,c5,c6,c7⟩:=JC.o W ((A.o.trans k2).trans kW);obtain ⟨V,hV⟩:=aj (W.alloc (.cells #[.slice s.no s.nl s.nc,.slice t.no t.nl t.nc,.slice s.dO s.dl s.dc,.slice t.dO t.dl t.dc,.slice s.po s.pl s.pc,.slice t.po t.pl t.pc,.slice s.qo s.ql s.qc,.slice t.qo t.ql t.qc,.slice s.dpo s.dpl s.dpc,.slice t.dpo t.dpl t.dpc,.slice s.dqo s.dql s.dqc,.slice t.dqo t.dql t.dqc,.slice s.qio s.qil s.qic,.slice t.qio t.qil t.qic] 131))
  have kV:Kept af W V:=by rw [hV];exact (ah af W).alloc _
  have C:=heap_alloc_new W (.cells #[.slice s.no s.nl s.nc,.slice t.no t.nl t.nc,.slice s.dO s.dl s.dc,.slice t.dO t.dl t.dc,.slice s.po s.pl s.pc,.slice t.po t.pl t.pc,.slice s.qo s.ql s.qc,.slice t.qo t.ql t.qc,.slice s.dpo s.dpl s.dpc,.slice t.dpo t.dpl t.dpc,.slice s.dqo s.dql s.dqc,.slice t.dqo t.dql t.dqc,.slice s.qio s.qil s.qic,.slice t.qio t.qil t.qic] 131);rw [<- hV] at C;have D:=aa (((A.o.trans k2).trans kW).trans kV);have X:=(k2.trans kW).trans kV;have g:=HR.o.g D.o;have o:=F.o.g X;have j:=x.o.digs;have e:=HD.o;obtain ⟨h1,h2,h3,h4,h5,h6,h7⟩:=M.o;obtain ⟨R,hR⟩:∃ R:Bool,(R=true↔l=m):=by
   by_cases h:l=m
   ·exact ⟨true,iff_of_true rfl h⟩
   ·exact ⟨false,iff_of_false (by decide) h⟩
  have JA:=G5 W.heap.size 7 (by omega) (fun i=>[s.no,s.dO,s.po,s.qo,s.dpo,s.dqo,s.qio].getD i none) (fun i=>[t.no,t.dO,t.po,t.qo,t.dpo,t.dqo,t.qio].getD i none) (fun i=>[s.nl,s.dl,s.pl,s.ql,s.dpl,s.dql,s.qil].getD i 0) (fun i=>[s.nc,s.dc,s.pc,s.qc,s.dpc,s.dqc,s.qic].getD i 0) (fun i=>[t.nl,t.dl,t.pl,t.ql,t.dpl,t.dql,t.qil].getD i 0) (fun i=>[t.nc,t.dc,t.pc,t.qc,t.dpc,t.dqc,t.qic].getD i 0) (fun i=>[l.n,l.d,l.p,l.q,l.dp,l.dq,l.qi].getD i []) (fun i=>[m.n,m.d,m.p,m.q,m.dp,m.dq,m.qi].getD i []) V
   (fun i hi=>by
    have:i=0\/i=1\/i=2\/i=3\/i=4\/i=5\/i=6:=by omega
    rcases this with rfl | rfl | rfl | rfl | rfl | rfl | rfl <;> exact ⟨(cell_of_row V _ _ _ _ _ C).trans rfl,(cell_of_row V _ _ _ _ _ C).trans rfl⟩)
   (fun i hi=>by
    have:i=0\/i=1\/i=2\/i=3\/i=4\/i=5\/i=6:=by omega
    rcases this with rfl | rfl | rfl | rfl | rfl | rfl | rfl
    ·exact ⟨g.n,o.n,e.n,j.n,h1⟩
    ·exact ⟨g.d,o.d,e.d,j.d,h2⟩
    ·exact ⟨g.p,o.p,e.p,j.p,h3⟩
    ·exact ⟨g.q,o.q,e.q,j.q,h4⟩
    ·exact ⟨g.dp,o.dp,e.dp,j.dp,h5⟩
    ·exact ⟨g.dq,o.dq,e.dq,j.dq,h6⟩
    ·exact ⟨g.qi,o.qi,e.qi,j.qi,h7⟩) R (hR.trans ⟨fun h i hi=>by rw [h],fun h=>by
     have g0:l.n=m.n:=h 0 (by omega);have g1:l.d=m.d:=h 1 (by omega);have g2:l.p=m.p:=h 2 (by omega);have g3:l.q=m.q:=h 3 (by omega);have g4:l.dp=m.dp:=h 4 (by omega);have g5:l.dq=m.dq:=h 5 (by omega);have g6:l.qi=m.qi:=h 6 (by omega);cases l
     cases m
     simp only at g0 g1 g2 g3 g4 g5 g6;subst g0 g1 g2 g3 g4 g5 g6;rfl⟩)
  have z:=aa ((HG.o 0 _ m x.o).trans ⟨fun h=>h.2,fun h=>⟨rfl,h⟩⟩);have B:=aa hR;have G:=aa hW;have N:=aa hV;clear J2 k2 hW kW U hV kV C X g o j e h1 h2 h3 h4 h5 h6 h7 hR HR F HD HG x M A JC;unfold KS.v at G;go_wp2_with (first | rw [<- G.o] | rw [<- N.o]);refine JA.mono ?_;rintro r w4 ⟨rfl,k4⟩;have L:=aa (D.o.trans k4);clear JA k4 D d0 d1 d2 d3 d4 d5 d6 d7 c0 c1 c2 c3 c4 c5 c6 c7 G N;cases R with
  | true=>
   have H:=dJ 190 w4;have y:HzD (E=0):=by
    rcases HE.o with ⟨h,_⟩ | ⟨_,h⟩
    ·exact h
    ·exact absurd (z.o.2 (B.o.1 rfl)) h
   clear HE z B;go_wp2_with fail;refine H.mono ?_;rintro r w5 ⟨rfl,rfl⟩;go_wp2;go_end0
   rw [y.o];exact ⟨.ok,L.o⟩
  | false=>
   have H:=eJ 190 w4;have y:HzD (E=190):=by
    rcases HE.o with ⟨_,h⟩ | ⟨h,_⟩
    ·exact absurd (B.o.2 (z.o.1 h)) (by decide)
    ·exact h
   clear HE z B;go_wp2_with fail;refine H.mono ?_;rintro r w5 ⟨rfl,rfl⟩;exact ⟨rfl,by rw [y.o];exact .no (by decide),L.o⟩
 ·have J2:=E4 t.no t.dO t.po t.qo t.dpo t.dqo t.qio t.nl t.nc t.en t.dl t.dc t.pl t.pc t.ql t.qc t.dpl t.dpc t.dql t.dqc t.qil t.qic 190 (by decide) w1;have y:HzD (E=190):=by
   rcases HE.o with ⟨_,h⟩ | ⟨h,_⟩
   ·exact absurd ((HG.o 190 _ m x.o).1 h).1 (by decide)
   ·exact h
  clear HE HG HR F HD x JC hno;go_wp2_with fail;refine J2.mono ?_;rintro r w2 ⟨rfl,k2⟩;exact ⟨rfl,by rw [y.o];exact .no (by decide),A.o.trans k2⟩

theorem EX (s:KS) (l:KL) (E:Nat) (hE:(E=0/\KeyGood l.n l.d l.p l.q l.dp l.dq l.qi s.en)\/(E=190/\¬ KeyGood l.n l.d l.p l.q l.dp l.dq l.qi s.en)) (a:s.pl<=1000) (b:s.ql<=1000) (w:World) (hr:s.Rows w l) (hd:l.Digs) :
  ClZ 57 #[.agg s.v] w fun r w'=>r=.returned (.int .i64 (E:Nat))/\Kept af w w':=by
 have he:∀ args w,(callFunc 87 args).run prog w=.ok (.enter 87 args) w:=fun _ _=>by simp [go_sem]
 obtain ⟨W,hW⟩:=aj (w.alloc (.cells s.v 26))
 have k0:Kept af w W:=by rw [hW];exact (ah af w).alloc _
 have hx:W.heap[w.heap.size]? = some (.cells s.v 26 (0,0)):=by rw [hW];exact heap_alloc_new _ _
 have kE:=(ah af W).alloc (.cells #[.int .i64 0] 35);have hA:=sl 87 #[.pointer (some ⟨w.heap.size,0,none⟩)] W E he (I8 w.heap.size s l E hE a b _ (hr.g (k0.trans kE)) hd (aw hx));have HW:=aa hW;have c:=aa k0;clear hE a b hr hd hW k0 hx kE he;unfold KS.v at HW ⊢;delta ClZ;go_in;go_wp2_with (rw [<- HW.o]);refine hA.mono ?_;rintro r w1 ⟨rfl,k1⟩;have e:=aa (c.o.trans k1);clear hA k1;go_wp2;go_ret;exact ⟨rfl,e.o⟩

theorem zZ:GI:=by
 intro p B bs ns ao L o r1 r2 r3 r4 w A h hB C D hu F y;have G:∀ args w,(callFunc 38 args).run prog w=.ok (.enter 38 args) w:=fun _ _=>by simp [go_sem]
 have E:=sY w (.pointer p) (.slice ao L o) (.slice none 0 0) (.int .i64 0) 38 23 23 3;obtain ⟨W,hW⟩:=aj ((((w.alloc (.cells #[.pointer p] 38)).alloc (.cells #[.slice ao L o] 23)).alloc (.cells #[.slice none 0 0] 23)).alloc (.cells #[.int .i64 0] 3))
 rw [<- hW] at E;obtain ⟨k0,x1,x2,x3,x4,hs⟩:=E;have kE:=(ah af W).alloc (.cells #[.int .i64 0] 35);have xe:Box (W.alloc (.cells #[.int .i64 0] 35)) W.heap.size (.int .i64 0) 35:=Box.new W (.int .i64 0) 35;have k1:=k0.trans kE;have a:∀ x,w.heap.size<=x->¬ ofP p x:=fun x hx f=>by have:=(h.inP f).2;omega
 have j:=H9 p B bs ns ao L o (w.heap.size+1) w.heap.size (w.heap.size+1+1) (w.heap.size+1+1+1) r1 r2 r3 r4 _ A (h.g k1) (aI hB k1.size) ⟨by omega,by omega⟩ C D (hu.g k1) F y (x2.g kE) (x1.g kE) (x3.g kE) (x4.g kE) (by omega) (fun x f=>⟨fun e=>a _ (by omega) f,fun e=>a _ (by omega) f,fun e=>a _ (by omega) f,fun e=>a _ (by omega) f⟩);have s:=oW 38 _ W (fun c W'=>c=(r3:Nat)/\Kept (ofP p) w W'/\Lsc W' p B r4/\∃ v,Row .u64 W' v r1/\HzD (∀ x,v.ownBlock=some x->w.heap.size<=x/\x≠W.heap.size/\x≠w.heap.size+1+1/\x≠w.heap.size+1+1+1)/\Box W' (w.heap.size+1+1) v 23/\Box W' (w.heap.size+1+1+1) (.int .i64 (r2:Nat)) 3) G (j.mono (by
  rintro e w' (⟨h0,rfl,v,w1,hr,hf,i,kk,rfl⟩ | ⟨h0,rfl,q1,q2,i,kk⟩)
  ·have q:Box w1 W.heap.size (.int .i64 0) 35:=xe.kept kk (a _ (by omega));have O:=(x3.g kE).kept kk (a _ (by omega));have P:=(x4.g kE).kept kk (a _ (by omega));have r:∀ x,v.ownBlock=some x->w.heap.size<=x/\x≠W.heap.size/\x≠w.heap.size+1+1/\x≠w.heap.size+1+1+1:=fun x hx=>by
    have h1:=hf x hx;rw [World.size_alloc] at h1;omega
   have k:=(hr.kept (aF w1 (w.heap.size+1+1) v) (fun x hx e=>(r x hx).2.2.1 e)).kept (aF _ (w.heap.size+1+1+1) (.int .i64 (r2:Nat))) (fun x hx e=>(r x hx).2.2.2 e);have d:=O.set v;have g:=P.other ⟨w.heap.size+1+1,0,none⟩ (by show w.heap.size+1+1+1≠w.heap.size+1+1;omega) v;have M:=q.other ⟨w.heap.size+1+1,0,none⟩ (by show W.heap.size≠w.heap.size+1+1;omega) v;have m:=d.other ⟨w.heap.size+1+1+1,0,none⟩ (by show w.heap.size+1+1≠w.heap.size+1+1+1;omega) (.int .i64 (r2:Nat));have n:=g.set (.int .i64 (r2:Nat));have N:=M.other ⟨w.heap.size+1+1+1,0,none⟩ (by show W.heap.size≠w.heap.size+1+1+1;omega) (.int .i64 (r2:Nat))
   refine ⟨N,.inl ⟨rfl,by rw [h0];rfl,?_,?_,v,k,r,m,n⟩⟩
   ·exact ((k1.any.trans kk).next (aF w1 (w.heap.size+1+1) v) (fun x hx e=>by omega)).next (aF _ (w.heap.size+1+1+1) (.int .i64 (r2:Nat))) (fun x hx e=>by omega)
   ·exact (i.kept (aF w1 (w.heap.size+1+1) v) (fun x hx e=>by omega)).kept (aF _ (w.heap.size+1+1+1) (.int .i64 (r2:Nat))) (fun x hx e=>by omega)
  ·have q:Box w' W.heap.size (.int .i64 0) 35:=xe.kept kk (a _ (by omega));refine ⟨q,.inr ⟨_,rfl,rfl,k1.any.trans kk,i,.slice none 0 0,by rw [q1];exact Row.nil _ _,(fun x hx=>by cases hx),(x3.g kE).kept kk (a _ (by omega)),?_⟩⟩;rw [q2];exact (x4.g kE).kept kk (a _ (by omega))))
 have HW:=aa hW;have J:=aa hs;have HB:=aa hB;clear j hu F y C D h hB A hW k0 kE k1 x1 x2 x3 x4 xe G hs a;delta ClZ;go_in;go_wp2_with (rw [<- HW.o]);refine s.mono ?_;rintro e w' ⟨c,w1,rfl,⟨⟨rfl,k2,i,v,hr,hf,hI,hR⟩,Q⟩,rfl⟩;have R:W.heap.size=w.heap.size+1+1+1+1:=J.o;have k4:=k2.next (aF w1 W.heap.size (.int .i64 (r3:Nat))) (fun x hx e=>by omega)
 have k:=hr.kept (aF w1 W.heap.size (.int .i64 (r3:Nat))) (fun x hx e=>(hf.o x hx).2.1 e);have l:=i.kept (aF w1 W.heap.size (.int .i64 (r3:Nat))) (fun x hx e=>by have:=HB.o;omega);have d:=hI.other ⟨W.heap.size,0,none⟩ (by show w.heap.size+1+1≠W.heap.size;omega) (.int .i64 (r3:Nat));have g:=hR.other ⟨W.heap.size,0,none⟩ (by show w.heap.size+1+1+1≠W.heap.size;omega) (.int .i64 (r3:Nat));generalize w1.setCell ⟨W.heap.size,0,none⟩ (.int .i64 (r3:Nat))=w2 at *;obtain ⟨vo,vn,vc,rfl,-⟩:=k.open;have c1:=d.cell;have f1:=d.free;have c2:=g.cell;have f2:=g.free;have m:=d.set (.slice vo vn vc)
 have n:=g.other ⟨w.heap.size+1+1,0,none⟩ (by show w.heap.size+1+1+1≠w.heap.size+1+1;omega) (.slice vo vn vc);have t:=m.other ⟨w.heap.size+1+1+1,0,none⟩ (by show w.heap.size+1+1≠w.heap.size+1+1+1;omega) (.int .i64 (r2:Nat));have z:=n.set (.int .i64 (r2:Nat));have c3:=t.cell;have c4:=z.cell;have H:=aa ((k.kept (aF w2 (w.heap.size+1+1) (.slice vo vn vc)) (fun x hx e=>(hf.o x hx).2.2.1 e)).kept (aF _ (w.heap.size+1+1+1) (.int .i64 (r2:Nat))) (fun x hx e=>(hf.o x hx).2.2.2 e))
 have I:=aa ((l.kept (aF w2 (w.heap.size+1+1) (.slice vo vn vc)) (fun x hx e=>by have:=HB.o;omega)).kept (aF _ (w.heap.size+1+1+1) (.int .i64 (r2:Nat))) (fun x hx e=>by have:=HB.o;omega));have HK:=aa ((k4.next (aF w2 (w.heap.size+1+1) (.slice vo vn vc)) (fun x hx e=>by omega)).next (aF _ (w.heap.size+1+1+1) (.int .i64 (r2:Nat))) (fun x hx e=>by omega));have HF:HzD (∀ b,(Value.slice vo vn vc).ownBlock=some b->w.heap.size<=b):=fun b hb=>(hf.o b hb).1
 clear s hr k i l hI hR d g m n t z k2 k4 Q R hf;go_wp2_with fail;go_region
 all_goals
  go_wp2;exact bodyPost_ret (v:=.tuple #[.slice vo vn vc,.int .i64 (r2:Nat),.int .i64 (r3:Nat)]) (by simp [results,results14,go_sem,c3,c4]) rfl ⟨_,rfl,⟨H.o.g (ah _ _).drew,HF.o⟩,I.o.g (ah _ _).drew,HK.o.trans (ah _ _).drew⟩

theorem Dp (s:KS) (l:KL) (co:OA) (cl cc:Nat) (cs:LN) (w:World) (hr:s.Rows w l) (hd:l.Digs) (hl:s.light) (hc:Row .u8 w (.slice co cl cc) cs) (hg:¬ KeyGood l.n l.d l.p l.q l.dp l.dq l.qi s.en) :
  ClZ 23 #[.agg #[.slice s.no s.nl s.nc,.int .u64 (s.en:Nat),.slice s.dO s.dl s.dc,.slice s.po s.pl s.pc,.slice s.qo s.ql s.qc,.slice s.dpo s.dpl s.dpc,.slice s.dqo s.dql s.dqc,.slice s.qio s.qil s.qic],.slice co cl cc] w fun e w'=>e=.panicked [refusal 190]/\Kept af w w':=by
 obtain ⟨_,_,_,e1,f,-,-,-,-⟩:=hc.open;cases e1
 obtain ⟨h0,h1,h2,h3,h4,h5,h6⟩:=hl;obtain ⟨W,hW⟩:=aj (w.alloc (.cells #[.slice s.no s.nl s.nc,.int .u64 (s.en:Nat),.slice s.dO s.dl s.dc,.slice s.po s.pl s.pc,.slice s.qo s.ql s.qc,.slice s.dpo s.dpl s.dpc,.slice s.dqo s.dql s.dqc,.slice s.qio s.qil s.qic] 26))
 have k0:Kept af w W:=by rw [hW];exact (ah af w).alloc _
 have a:W.heap[w.heap.size]? = some (.cells #[.slice s.no s.nl s.nc,.int .u64 (s.en:Nat),.slice s.dO s.dl s.dc,.slice s.po s.pl s.pc,.slice s.qo s.ql s.qc,.slice s.dpo s.dpl s.dpc,.slice s.dqo s.dql s.dqc,.slice s.qio s.qil s.qic] 26 (0,0)):=by rw [hW];exact heap_alloc_new _ _
 obtain ⟨q0,q1,q2,q3,q4,q5,q6,q7⟩:=aZ a;have J1:=EX s l 190 (.inr ⟨rfl,hg⟩) (by omega) (by omega) W (hr.g k0) hd;unfold KS.v at J1;have HW:=aa hW;have b:=aa k0;have hY:=ic 190;clear hr hd hc hW k0 a hg f;delta ClZ;go_in;go_wp2_with (rw [<- HW.o]);refine J1.mono ?_;rintro e w1 ⟨rfl,k1⟩;have c:=aa (b.o.trans k1);clear J1 k1 q0 q1 q2 q3 q4 q5 q6 q7;go_wp2_with fail;refine (hY _).mono ?_;rintro e w2 ⟨rfl,rfl⟩;exact ⟨rfl,rfl,c.o⟩

theorem Dq (s:KS) (l:KL) (co:OA) (cl cc:Nat) (cs:LN) (w:World) (hr:s.Rows w l) (hd:l.Digs) (hl:s.light) (hc:Row .u8 w (.slice co cl cc) cs) (hg:KeyGood l.n l.d l.p l.q l.dp l.dq l.qi s.en) (b:cs.length≠fI (val l.n)) :
  ClZ 23 #[.agg #[.slice s.no s.nl s.nc,.int .u64 (s.en:Nat),.slice s.dO s.dl s.dc,.slice s.po s.pl s.pc,.slice s.qo s.ql s.qc,.slice s.dpo s.dpl s.dpc,.slice s.dqo s.dql s.dqc,.slice s.qio s.qil s.qic],.slice co cl cc] w fun e w'=>e=.panicked [refusal 1]/\Kept af w w':=by
 obtain ⟨_,_,_,e1,f,-,-,-,-⟩:=hc.open;cases e1
 obtain ⟨h0,h1,h2,h3,h4,h5,h6⟩:=hl;obtain ⟨W,hW⟩:=aj (w.alloc (.cells #[.slice s.no s.nl s.nc,.int .u64 (s.en:Nat),.slice s.dO s.dl s.dc,.slice s.po s.pl s.pc,.slice s.qo s.ql s.qc,.slice s.dpo s.dpl s.dpc,.slice s.dqo s.dql s.dqc,.slice s.qio s.qil s.qic] 26))
 have k0:Kept af w W:=by rw [hW];exact (ah af w).alloc _
 have a:W.heap[w.heap.size]? = some (.cells #[.slice s.no s.nl s.nc,.int .u64 (s.en:Nat),.slice s.dO s.dl s.dc,.slice s.po s.pl s.pc,.slice s.qo s.ql s.qc,.slice s.dpo s.dpl s.dpc,.slice s.dqo s.dql s.dqc,.slice s.qio s.qil s.qic] 26 (0,0)):=by rw [hW];exact heap_alloc_new _ _
 obtain ⟨q0,q1,q2,q3,q4,q5,q6,q7⟩:=aZ a;have J1:=EX s l 0 (.inl ⟨rfl,hg⟩) (by omega) (by omega) W (hr.g k0) hd;unfold KS.v at J1;have HW:=aa hW;have h:=aa k0;have JS:=aa fun W' (k:Kept af w W')=>Hf s.no s.nl s.nc l.n W' (hr.n.g k) hd.n
 obtain ⟨z,hz⟩:=aj (fI (val l.n))
 rw [<- hz] at JS;have j:=eZ 0;have hY:=ic 1;have x:¬ (cl:Int)=(z:Int):=by have:=f.o;omega
 have m:((cl:Int) != (z:Int))=true:=by simp;omega
 clear hr hd hc hW k0 hg f b hz h0 h1 h2 h3 h4 h5 h6;delta ClZ;go_in;go_wp2_with (rw [<- HW.o]);refine J1.mono ?_;rintro e w1 ⟨rfl,k1⟩;have t:=k1;have c:=aa (h.o.trans k1);obtain ⟨p0,-⟩:=aZ (au a k1);have g:=au a k1;clear J1 k1 t q0 q1 q2 q3 q4 q5 q6 q7 a;go_wp2_with fail;refine (j _).mono ?_;rintro e A ⟨rfl,o⟩;obtain rfl:=o.symm;have J2:=JS.o w1 c.o;go_wp2_with fail;refine J2.mono ?_;rintro e w2 ⟨rfl,k2⟩;have i:=aa (c.o.trans k2);have r:=au g k2;obtain ⟨y,-⟩:=aZ r;clear J2 k2 JS p0 g;go_wp2_with fail;try rw [m]
 refine (hY _).mono ?_;rintro e w3 ⟨rfl,rfl⟩;exact ⟨rfl,rfl,i.o⟩

theorem pT {a v b c g i l:LN} {n:Nat} (h:KeyGood a v b c g i l e) (hn:a.length=n) (H:n<=1000):n<=130/\n=am (val a)/\b.length=max (am (val b)) (am (val c))/\c.length=max (am (val b)) (am (val c))/\g.length=max (am (val b)) (am (val c))/\i.length=max (am (val b)) (am (val c))/\eS (val a)=0/\eS (val b)=0/\eS (val c)=0:=by
 have hf:=h.a;obtain ⟨I,d,u,E,F,J,L,r,G,x,z,o,p,y⟩:=h;obtain ⟨f1,f2,f3,f4,f5,f6⟩:=hf;generalize hP:val b=P at *;generalize hQ:val c=Q at *;have m:val a=P*Q:=f1;have hl:a.length=am (P*Q):=by
  rw [r,cK,ag];have:0<am (P*Q):=Nat.pos_of_ne_zero fun e=>by
   have h9:=(aC (P*Q) 0).1 (by omega);rw [cP] at h9;have:=er f2.1 f3.1;omega
  omega
 have q:gU a e=0:=f4;have k:a.length<=1000:=by omega
 have j:=(ot (xs:=a) (by rw [r,cK];exact ak (by omega) _ _) k e).1 q;rw [m] at j;obtain ⟨⟨C,D⟩,⟨hW,ho⟩,-⟩:=j;have f:am (P*Q)<=128:=cX (n:=128);have A:P<=P*Q:=Nat.le_mul_of_pos_right _ (by have:=f3.1;omega);have B:Q<=P*Q:=Nat.le_mul_of_pos_left _ (by have:=f2.1;omega);have s:am P<=128:=(aC P 128).2 (fF A ((aC _ 128).1 f));have t:am Q<=128:=(aC Q 128).2 (fF B ((aC _ 128).1 f));have w:eS (P*Q)=0:=jW (by have:=er f2.1 f3.1;omega) ho
 refine ⟨by omega,by rw [m];omega,by rw [x,ag],by rw [z,ag],by rw [o,ag],by rw [p,ag],by rw [m];exact w,jW (by have:=f2.1;omega) f2.2.1,jW (by have:=f3.1;omega) f3.2.1⟩

theorem Dr (s:KS) (l:KL) (co:OA) (cl cc:Nat) (cs:LN) (w:World) (hr:s.Rows w l) (hd:l.Digs) (hl:s.light) (hc:Row .u8 w (.slice co cl cc) cs) (o:Digs cs 256) (hg:KeyGood l.n l.d l.p l.q l.dp l.dq l.qi s.en) (c:cs.length=fI (val l.n)) (hlt:¬ bev cs<val l.n) :
  ClZ 23 #[.agg #[.slice s.no s.nl s.nc,.int .u64 (s.en:Nat),.slice s.dO s.dl s.dc,.slice s.po s.pl s.pc,.slice s.qo s.ql s.qc,.slice s.dpo s.dpl s.dpc,.slice s.dqo s.dql s.dqc,.slice s.qio s.qil s.qic],.slice co cl cc] w fun e w'=>e=.panicked [refusal 1]/\Kept af w w':=by
 obtain ⟨_,_,_,e1,f,-,-,-,-⟩:=hc.open;cases e1
 obtain ⟨h0,h1,h2,h3,h4,h5,h6⟩:=hl;obtain ⟨W,hW⟩:=aj (w.alloc (.cells #[.slice s.no s.nl s.nc,.int .u64 (s.en:Nat),.slice s.dO s.dl s.dc,.slice s.po s.pl s.pc,.slice s.qo s.ql s.qc,.slice s.dpo s.dpl s.dpc,.slice s.dqo s.dql s.dqc,.slice s.qio s.qil s.qic] 26))
 have k0:Kept af w W:=by rw [hW];exact (ah af w).alloc _
 have g:W.heap[w.heap.size]? = some (.cells #[.slice s.no s.nl s.nc,.int .u64 (s.en:Nat),.slice s.dO s.dl s.dc,.slice s.po s.pl s.pc,.slice s.qo s.ql s.qc,.slice s.dpo s.dpl s.dpc,.slice s.dqo s.dql s.dqc,.slice s.qio s.qil s.qic] 26 (0,0)):=by rw [hW];exact heap_alloc_new _ _
 obtain ⟨q0,q1,q2,q3,q4,q5,q6,q7⟩:=aZ g;have J1:=EX s l 0 (.inl ⟨rfl,hg⟩) (by omega) (by omega) W (hr.g k0) hd;unfold KS.v at J1;have HW:=aa hW;have I:=aa k0;have JS:=aa fun W' (k:Kept af w W')=>Hf s.no s.nl s.nc l.n W' (hr.n.g k) hd.n
 obtain ⟨z,hz⟩:=aj (fI (val l.n))
 rw [<- hz] at JS;obtain ⟨O,P,Q,R,S,T⟩:=hg.a;obtain ⟨N,hN⟩:=aj (val l.n)
 obtain ⟨X,hX⟩:=aj (bev cs)
 obtain ⟨_,_,_,e1,j,-,-,-,-⟩:=hr.n.open;cases e1
 have B:N<18446744073709551616^s.nl:=by rw [hN,<- j.o];exact aE (by omega) hd.n
 have V:=(pT hg j.o h0).1;have C:cl<=8*s.nl:=by
  have h9:aN N<=64*s.nl:=(bh _ _).2 (by rw [aW];exact B);have h8:=f.o;rw [c,<- hN] at h8;unfold fI at h8;omega
 have m:X<18446744073709551616^s.nl:=by
  rw [hX];refine bi (nM o) ?_;rw [f.o,show (18446744073709551616:Nat)^s.nl=256^(8*s.nl) by rw [aW]];exact bj (by omega) C
 obtain ⟨E,F⟩:=qH m (by omega:s.nl<=300);have vX:val (digs X s.nl)=X:=by rw [ay,aB m]
 have JN:HzD (∀ W',Kept af w W'->ClZ 59 #[.slice co cl cc,.int .i64 (s.nl:Int)] W' fun r w'=>∃ vo vn vc,r=.returned (.tuple #[.slice vo vn vc,.int .i64 0])/\Row .u64 w' (.slice vo vn vc) (digs X s.nl)/\Fresh W' (.slice vo vn vc)/\Kept af W' w'):=fun W' k=>by
  have h:=Hr (.slice co cl cc) cs (s.nl:Int) W' (hc.g k) o;rw [<- hX,E,F] at h;refine h.mono ?_;rintro r w' ⟨v',rfl,h1,h2,h3⟩;obtain ⟨vo,vn,vc,rfl,-⟩:=h1.open;exact ⟨vo,vn,vc,rfl,h1,h2,h3⟩
 have JC:HzD (∀ W' vo vn vc,Kept af w W'->Row .u64 W' (.slice vo vn vc) (digs X s.nl)->ClZ 60 #[.slice vo vn vc,.slice s.no s.nl s.nc] W' fun r w'=>r=.returned (.int .i64 (cY X N))/\Kept af W' w'):=fun W' vo vn vc k h=>by
  have h:=ol _ _ _ _ W' h (hr.n.g k) (ak (by omega) _ _) hd.n;rw [vX,<- hN] at h;exact h
 have L:=eZ 0;have M:=eZ 1;have hY:=ic 1;have U:(cl:Int)=(z:Int):=by have:=f.o;omega
 have D:((cl:Int) != (z:Int))=false:=by simp;omega
 have g1:cY X N≥0:=by rw [hX,hN];have:=nU (a:=bev cs) (b:=val l.n);omega
 clear hr hd hc o hW k0 hg f c hlt hz h0 h1 h2 h3 h4 h5 h6 hX hN m E F vX C B j O P Q R S T V;generalize cY X N=cm at *;delta ClZ;go_in;go_wp2_with (rw [<- HW.o]);refine J1.mono ?_;rintro e w1 ⟨rfl,k1⟩;have ac:=k1;have x:=aa (I.o.trans k1);obtain ⟨p0,-⟩:=aZ (au g k1);have G:=au g k1;clear J1 k1 ac q0 q1 q2 q3 q4 q5 q6 q7 g;go_wp2_with fail;refine (L _).mono ?_;rintro e ai ⟨rfl,Y⟩;obtain rfl:=Y.symm;have J2:=JS.o w1 x.o;go_wp2_with fail;refine J2.mono ?_;rintro e w2 ⟨rfl,k2⟩;have y:=aa (x.o.trans k2);have t:=au G k2;obtain ⟨ad,-⟩:=aZ t;clear J2 k2 JS p0 G
 go_wp2_with fail;try rw [D]
 refine (M _).mono ?_;rintro e al ⟨rfl,Z⟩;obtain rfl:=Z.symm;have J3:=JN.o w2 y.o;go_wp2_with fail;refine J3.mono ?_;rintro e w3 ⟨vo,vn,vc,rfl,r3,f3,k3⟩;have A:=aa (y.o.trans k3);have H:=au t k3;obtain ⟨ae,-⟩:=aZ H;have i:=aa r3;clear J3 k3 r3 f3 JN ad t U D;go_wp2_with fail;refine (gO vo vn vc _).mono ?_;rintro e am ⟨rfl,ab⟩;obtain rfl:=ab.symm;have J4:=JC.o w3 vo vn vc A.o i.o;go_wp2_with fail;refine J4.mono ?_;rintro e w4 ⟨rfl,k4⟩;have J:=aa (A.o.trans k4);have ag:=aa (i.o.g k4);clear J4 k4 JC ae H i;go_wp2_with fail;refine (hY _).mono ?_;rintro e w5 ⟨rfl,rfl⟩;exact ⟨rfl,rfl,J.o⟩

theorem Ds (s:KS) (l:KL) (co:OA) (cl cc:Nat) (cs:LN) (w:World) (hr:s.Rows w l) (hd:l.Digs) (hl:s.light) (hc:Row .u8 w (.slice co cl cc) cs) (m:Digs cs 256) (hg:KeyGood l.n l.d l.p l.q l.dp l.dq l.qi s.en) (a:cs.length=fI (val l.n)) (hlt:bev cs<val l.n) :
  ClZ 23 #[.agg #[.slice s.no s.nl s.nc,.int .u64 (s.en:Nat),.slice s.dO s.dl s.dc,.slice s.po s.pl s.pc,.slice s.qo s.ql s.qc,.slice s.dpo s.dpl s.dpc,.slice s.dqo s.dql s.dqc,.slice s.qio s.qil s.qic],.slice co cl cc] w fun e w'=>∃ vo vc,e=.returned (.slice vo s.nl vc)/\Row .u64 w' (.slice vo s.nl vc) (digs (bev cs) s.nl)/\Fresh w (.slice vo s.nl vc)/\Kept af w w':=by
 obtain ⟨_,_,_,e1,b,-,-,-,-⟩:=hc.open;cases e1
 obtain ⟨h0,h1,h2,h3,h4,h5,h6⟩:=hl;obtain ⟨W,hW⟩:=aj (w.alloc (.cells #[.slice s.no s.nl s.nc,.int .u64 (s.en:Nat),.slice s.dO s.dl s.dc,.slice s.po s.pl s.pc,.slice s.qo s.ql s.qc,.slice s.dpo s.dpl s.dpc,.slice s.dqo s.dql s.dqc,.slice s.qio s.qil s.qic] 26))
 have k0:Kept af w W:=by rw [hW];exact (ah af w).alloc _
 have c:W.heap[w.heap.size]? = some (.cells #[.slice s.no s.nl s.nc,.int .u64 (s.en:Nat),.slice s.dO s.dl s.dc,.slice s.po s.pl s.pc,.slice s.qo s.ql s.qc,.slice s.dpo s.dpl s.dpc,.slice s.dqo s.dql s.dqc,.slice s.qio s.qil s.qic] 26 (0,0)):=by rw [hW];exact heap_alloc_new _ _
 obtain ⟨q0,q1,q2,q3,q4,q5,q6,q7⟩:=aZ c;have J1:=EX s l 0 (.inl ⟨rfl,hg⟩) (by omega) (by omega) W (hr.g k0) hd;unfold KS.v at J1;have HW:=aa hW;have J:=aa k0;have JS:=aa fun W' (k:Kept af w W')=>Hf s.no s.nl s.nc l.n W' (hr.n.g k) hd.n
 obtain ⟨z,hz⟩:=aj (fI (val l.n))
 rw [<- hz] at JS;obtain ⟨P,Q,R,S,T,U⟩:=hg.a;obtain ⟨N,hN⟩:=aj (val l.n)
 obtain ⟨X,hX⟩:=aj (bev cs)
 obtain ⟨_,_,_,e1,i,-,-,-,-⟩:=hr.n.open;cases e1
 have A:N<18446744073709551616^s.nl:=by rw [hN,<- i.o];exact aE (by omega) hd.n
 have Y:=(pT hg i.o h0).1;have C:cl<=8*s.nl:=by
  have h9:aN N<=64*s.nl:=(bh _ _).2 (by rw [aW];exact A);have h8:=b.o;rw [a,<- hN] at h8;unfold fI at h8;omega
 have j:X<18446744073709551616^s.nl:=by
  rw [hX];refine bi (nM m) ?_;rw [b.o,show (18446744073709551616:Nat)^s.nl=256^(8*s.nl) by rw [aW]];exact bj (by omega) C
 obtain ⟨E,F⟩:=qH j (by omega:s.nl<=300);have vX:val (digs X s.nl)=X:=by rw [ay,aB j]
 have JN:HzD (∀ W',Kept af w W'->ClZ 59 #[.slice co cl cc,.int .i64 (s.nl:Int)] W' fun r w'=>∃ vo vn vc,r=.returned (.tuple #[.slice vo vn vc,.int .i64 0])/\Row .u64 w' (.slice vo vn vc) (digs X s.nl)/\Fresh W' (.slice vo vn vc)/\Kept af W' w'):=fun W' k=>by
  have h:=Hr (.slice co cl cc) cs (s.nl:Int) W' (hc.g k) m;rw [<- hX,E,F] at h;refine h.mono ?_;rintro r w' ⟨v',rfl,h1,h2,h3⟩;obtain ⟨vo,vn,vc,rfl,-⟩:=h1.open;exact ⟨vo,vn,vc,rfl,h1,h2,h3⟩
 have JC:HzD (∀ W' vo vn vc,Kept af w W'->Row .u64 W' (.slice vo vn vc) (digs X s.nl)->ClZ 60 #[.slice vo vn vc,.slice s.no s.nl s.nc] W' fun r w'=>r=.returned (.int .i64 (cY X N))/\Kept af W' w'):=fun W' vo vn vc k h=>by
  have h:=ol _ _ _ _ W' h (hr.n.g k) (ak (by omega) _ _) hd.n;rw [vX,<- hN] at h;exact h
 have O:=eZ 0;have B:=eZ 1;have V:(cl:Int)=(z:Int):=by have:=b.o;omega
 have D:((cl:Int) != (z:Int))=false:=by simp;omega
 have g1:¬ cY X N≥0:=by rw [hX,hN];have:=fh hlt;omega
 have g2:decide (0<=cY X N)=false:=cI (by omega);have M:=aa hX;clear hr hd hc m hW k0 hg b a hlt hz h0 h1 h2 h3 h4 h5 h6 hN hX j E F vX C A i P Q R S T U Y;generalize cY X N=cm at *;delta ClZ;go_in;go_wp2_with (rw [<- HW.o]);refine J1.mono ?_;rintro e w1 ⟨rfl,k1⟩;have ae:=k1;have t:=aa (J.o.trans k1);obtain ⟨p0,-⟩:=aZ (au c k1);have G:=au c k1;clear J1 k1 ae q0 q1 q2 q3 q4 q5 q6 q7 c;go_wp2_with fail;refine (O _).mono ?_;rintro e al ⟨rfl,Z⟩;obtain rfl:=Z.symm;have J2:=JS.o w1 t.o;go_wp2_with fail;refine J2.mono ?_;rintro e w2 ⟨rfl,k2⟩;have f:=aa (t.o.trans k2)
 have o:=au G k2;obtain ⟨ag,-⟩:=aZ o;clear J2 k2 JS p0 G;go_wp2_with fail;try rw [D]
 refine (B _).mono ?_;rintro e am ⟨rfl,ab⟩;obtain rfl:=ab.symm;have J3:=JN.o w2 f.o;go_wp2_with fail;refine J3.mono ?_;rintro e w3 ⟨vo,vn,vc,rfl,r3,f3,k3⟩;have x:=aa (f.o.trans k3);have H:=au o k3;obtain ⟨ai,-⟩:=aZ H;have g:=aa r3;have I:=aa (f3.b f.o);clear J3 k3 r3 f3 JN ag o V D;go_wp2_with fail;refine (gO vo vn vc _).mono ?_;rintro e an ⟨rfl,ac⟩;obtain rfl:=ac.symm;have J4:=JC.o w3 vo vn vc x.o g.o;go_wp2_with fail;refine J4.mono ?_;rintro e w4 ⟨rfl,k4⟩;have L:=aa (x.o.trans k4);have y:=aa (g.o.g k4);clear J4 k4 JC ai H g;go_wp2_with fail;try rw [g2]
 refine (B _).mono ?_;rintro e w5 ⟨rfl,ad⟩;obtain rfl:=ad.symm;obtain ⟨zo,zc,ez⟩:=(show NumT w4 none (.slice vo vn vc) s.nl (X%18446744073709551616^s.nl) from ⟨RowT.none (by rw [<- nW];exact y.o),aY _ (aX)⟩).s;cases ez
 go_wp2_with fail;go_ret;exact ⟨_,_,rfl,by rw [<- M.o];exact y.o,I.o,L.o⟩

def GH (bO:Nat) (l:KL) (e:Nat) (cs:LN) (w:World) (r:Ending) (w':World):Prop:=∃ E RL,sR l e cs E RL /\
 ((E=0/\r=.returned (.tuple #[])/\∃ v,Box w' bO v 28/\Row .u8 w' v RL/\Fresh w v/\Kept (fun x=>x=bO) w w')\/(E≠0/\r=.panicked [refusal (E:Nat)]/\RL=[]/\Kept af w w'))

theorem Ia (bK bC bO:Nat) (s:KS) (l:KL) (co:OA) (cl cc:Nat) (cs:LN) (w:World) (hr:s.Rows w l) (hd:l.Digs) (hl:s.light) (hc:Row .u8 w (.slice co cl cc) cs) (g:Digs cs 256) (xK:w.heap[bK]? = some (.cells #[.slice s.no s.nl s.nc,.int .u64 (s.en:Nat),.slice s.dO s.dl s.dc,.slice s.po s.pl s.pc,.slice s.qo s.ql s.qc,.slice s.dpo s.dpl s.dpc,.slice s.dqo s.dql s.dqc,.slice s.qio s.qil s.qic] 26 (0,0))) (xC:Box w bC (.slice co cl cc) 28) (xO:Box w bO (.slice none 0 0) 28) :
  ClZ 28 #[.pointer (some ⟨bK,0,none⟩),.pointer (some ⟨bC,0,none⟩),.pointer (some ⟨bO,0,none⟩)] w fun r w'=>GH bO l s.en cs w r w':=by
 obtain ⟨_,_,_,e1,c,-,-,-,-⟩:=hc.open;cases e1
 obtain ⟨q0,q1,q2,q3,q4,q5,q6,q7⟩:=aZ xK;have c0:=xC.cell;by_cases hg:KeyGood l.n l.d l.p l.q l.dp l.dq l.qi s.en
 case neg=>
  have J1:=Dp s l co cl cc cs w hr hd hl hc hg;have HP:sR l s.en cs 190 []:=⟨.inl ⟨rfl,hg⟩,by rw [ar (by decide)]⟩
  clear hr hd hl hc g xK xC xO hg c;delta ClZ;go_in;go_wp2_with fail;refine J1.mono ?_;rintro e w1 ⟨rfl,k1⟩;exact ⟨rfl,190,[],HP,.inr ⟨by decide,rfl,rfl,k1⟩⟩
 by_cases hlen:cs.length=fI (val l.n)
 case neg=>
  have J1:=Dq s l co cl cc cs w hr hd hl hc hg hlen;have HP:sR l s.en cs 1 []:=⟨.inr ⟨hg,by unfold iR;rw [ar (fun h=>hlen h.1)]⟩,by rw [ar (by decide)]⟩
  clear hr hd hl hc g xK xC xO hg c hlen;delta ClZ;go_in;go_wp2_with fail;refine J1.mono ?_;rintro e w1 ⟨rfl,k1⟩;exact ⟨rfl,1,[],HP,.inr ⟨by decide,rfl,rfl,k1⟩⟩
 by_cases hlt:bev cs<val l.n
 case neg=>
  have J1:=Dr s l co cl cc cs w hr hd hl hc g hg hlen hlt;have HP:sR l s.en cs 1 []:=⟨.inr ⟨hg,by unfold iR;rw [ar (fun h=>hlt h.2)]⟩,by rw [ar (by decide)]⟩
  clear hr hd hl hc g xK xC xO hg c hlen hlt;delta ClZ;go_in;go_wp2_with fail;refine J1.mono ?_;rintro e w1 ⟨rfl,k1⟩;exact ⟨rfl,1,[],HP,.inr ⟨by decide,rfl,rfl,k1⟩⟩
 have J1:=Ds s l co cl cc cs w hr hd hl hc g hg hlen hlt;obtain ⟨_,_,_,e1,j,-,-,-,-⟩:=hr.n.open;cases e1
 obtain ⟨I,z,-,-,-,-,v,-,-⟩:=pT hg j.o hl.1;obtain ⟨N,hN⟩:=aj (val l.n)
 rw [<- hN] at z v hlen hlt;obtain ⟨X,hX⟩:=aj (bev cs)
 rw [<- hX] at hlt J1;have HP:HzD (sR l s.en cs 0 (bes (X^val l.d%N) cl cl)):=⟨.inr ⟨hg,by unfold iR;rw [ai ⟨by rw [<- hN];exact hlen,by rw [<- hN,<- hX];exact hlt⟩]⟩,by rw [ai rfl,hX,hN,c.o]⟩
 have T:cl<=8*s.nl:=by
  have h9:aN N<=64*s.nl:=(bh _ _).2 (by rw [aW,hN,<- j.o];exact aE (by omega) hd.n);have h8:=c.o;rw [hlen] at h8;unfold fI at h8;omega
 have JM:=aa fun W (k:Kept af w W)=>vT none s.no s.nl s.nc l.n N s.nl W trivial (hr.n.g k) hd.n (by omega) hN v z
 have JD:=aa fun W (k:Kept af w W)=>hr.d.g k
 have L:=aa hd.d;have U:s.dl<=300:=by
  obtain ⟨_,_,_,e1,R,-,-,-,-⟩:=hr.d.open;cases e1
  obtain ⟨-,d,u,-,-,-,-,Z,V,-⟩:=hg;have h9:=R.o;rw [V,ag,<- Z,j.o] at h9;omega
 have F:=aa xO;have P:=aa xC;have Q:=aa xK;clear hr hd hl hc g xK xC xO hg c hlen hN hX j v z;delta ClZ;go_in;go_wp2_with fail;refine J1.mono ?_;rintro e w1 ⟨vo,vc,rfl,r1,f1,k1⟩;have B:=aa k1;have H:=au Q.o k1;have E:=aa r1;clear J1 k1 r1 f1 q0 q1 q2 q3 q4 q5 q6 q7 c0;go_wp2_with fail;refine wp_region_held_drew (S:=fun w'=>w'.heap[bK]? = some (.cells #[.slice s.no s.nl s.nc,.int .u64 (s.en:Nat),.slice s.dO s.dl s.dc,.slice s.po s.pl s.pc,.slice s.qo s.ql s.qc,.slice s.dpo s.dpl s.dpc,.slice s.dqo s.dql s.dqc,.slice s.qio s.qil s.qic] 26 (0,0))) (by kernel_rfl) H (fun hS=>?_)
 refine mM (fun _ _ d _ _ h=>by cases d <;> exact h) fun Q1 b J=>?_
 have KD:=B.o.trans (ah af w1).drew;refine aT b 0 (some 8) (.pointer (some ⟨bK,0,none⟩)) hS ?_;refine aT b 1 (some 9) (.slice s.no s.nl s.nc) hS ?_ (y:=dL fun w h=>by simp [execOp,go_sem,(aZ h).1]);refine aT b 6 (some 14) (.slice vo s.nl vc) hS ?_;refine aT b 7 (some 15) (.pointer (some ⟨bK,2,none⟩)) hS ?_;refine aT b 8 (some 16) (.slice s.dO s.dl s.dc) hS ?_ (y:=dL fun w h=>by simp [execOp,go_sem,(aZ h).2.2.1]);simp only [aU];refine cD 2 (some 10) 32 [.slice s.no s.nl s.nc] (JM.o _ KD) ?_;rintro r w2 ⟨ma,mb,K,mm,mr,rfl,hM,-,k2⟩;have G:=KD.trans k2;have i:=au hS k2;refine .inl ⟨_,rfl,i,?_⟩
 refine aT b 3 (some 11) (.agg #[.slice ma s.nl mm,.int .u64 (K:Nat),.slice mb s.nl mr]) i ?_;refine aT b 4 (some 12) (.int .i64 0) i ?_;simp only [aU];refine cD 5 (some 13) 31 [.agg #[.slice ma s.nl mm,.int .u64 (K:Nat),.slice mb s.nl mr],.int .i64 0] (jB ma mb s.nl mm K s.nl mr _) ?_;rintro r w3 ⟨rfl,k3⟩;have m:=G.trans k3;have t:=au i k3;have a:=hM.g k3;have r3:=E.o.g (((ah af w1).drew.trans k2).trans k3);have vX:val (digs X s.nl)=X:=bY (bH hlt a.a.2.2.2)
 have c4:=Ih ma mb vo s.dO s.nl s.nl K mm mr s.nl vc s.dl s.dc _ _ (digs X s.nl) l.d 0 (.inl ⟨rfl,⟨a.m8.ok,rfl,by rw [vX,a.ev];exact hlt⟩,U⟩) _ rfl w3 a.m8.hm.1 a.m8.hr.1 r3 (JD.o _ m) a.m8.hmd a.m8.hrd (ak (by omega) _ _) L.o a.m8.hK (by omega);rw [ai rfl,vX,a.ev] at c4;refine .inl ⟨_,rfl,t,?_⟩;simp only [aU];refine cD 9 (some 17) 30 [.agg #[.slice ma s.nl mm,.int .u64 (K:Nat),.slice mb s.nl mr],.slice vo s.nl vc,.slice s.dO s.dl s.dc] (c4) ?_;rintro r w4 ⟨v4,rfl,r4,k4⟩;have n4:NumT w4 none v4 s.nl (X^val l.d%N):=⟨RowT.none r4,bH (aY _ (by have:=a.a.2.2.1;omega)) a.a.2.2.2⟩
 obtain ⟨zo,zc,rfl⟩:=n4.s;have o:=m.trans k4;have f:=au t k4;refine .inl ⟨_,rfl,f,?_⟩;refine aT b 10 (some 18) (.slice zo s.nl zc) f ?_;refine aT b 11 (some 19) (.int .i64 0) f ?_;simp only [aU];refine cD 12 (some 20) 29 [.slice zo s.nl zc,.int .i64 0] (gO zo s.nl zc _) ?_;rintro r wz ⟨rfl,ab⟩;obtain rfl:=ab.symm;refine .inl ⟨_,rfl,f,?_⟩;refine aT b 13 (some 4) (.slice zo s.nl zc) f ?_;simp only [aU];refine wpAnyH_done (by kernel_rfl) ?_ _;refine J.out _ _ ?_;have c5:=Gz zo s.nl zc _ cl w4 r4 T;have b4:=(P.o.g o).cell;have C:=aa o
 clear hS i t f k2 k3 k4 KD G m o hM a r3 c4 r4 n4 b J JM JD E B H vX;go_wp2_with fail;refine c5.mono ?_;rintro e w5 ⟨yo,yn,yc,rfl,r5,f5,k5⟩;have D:=aa (C.o.trans k5);have xo:=F.o.g D.o;have ac:=xo.cell;have ad:=xo.free;have O:=aa xo;have M:=aa r5;have A:=aa (Fresh.b (w:=w) f5 C.o);clear c5 r5 f5 k5 b4 xo;go_wp2_with fail;go_end0
 have Y:∀ x,(Value.slice yo yn yc).ownBlock=some x->¬ x=bO:=fun x hx e=>by have h1:=A.o x hx;have h2:=F.o.lt;omega
 exact ⟨0,_,HP.o,.inl ⟨rfl,rfl,_,O.o.set _,M.o.kept (aF _ _ _) Y,A.o,D.o.any.trans (aF _ _ _)⟩⟩

theorem Ab:VPla:=by
 intro s l co cl cc cs w he hr hd hl hc i G;have j:∀ args w,(callFunc 28 args).run prog w=.ok (.enter 28 args) w:=fun _ _=>by simp [go_sem]
 obtain ⟨W0,c⟩:=aj (w.alloc (.cells #[.slice s.no s.nl s.nc,.int .u64 (s.en:Nat),.slice s.dO s.dl s.dc,.slice s.po s.pl s.pc,.slice s.qo s.ql s.qc,.slice s.dpo s.dpl s.dpc,.slice s.dqo s.dql s.dqc,.slice s.qio s.qil s.qic] 26))
 have t:Kept af w W0:=by rw [c];exact (ah af w).alloc _
 have y:W0.heap[w.heap.size]? = some (.cells #[.slice s.no s.nl s.nc,.int .u64 (s.en:Nat),.slice s.dO s.dl s.dc,.slice s.po s.pl s.pc,.slice s.qo s.ql s.qc,.slice s.dpo s.dpl s.dpc,.slice s.dqo s.dql s.dqc,.slice s.qio s.qil s.qic] 26 (0,0)):=by rw [c];exact heap_alloc_new _ _
 have q:W0.heap.size=w.heap.size+1:=by rw [c];simp
 have h:=BX W0 (.slice co cl cc) (.slice none 0 0) 28 28;obtain ⟨W,hW⟩:=aj ((W0.alloc (.cells #[.slice co cl cc] 28)).alloc (.cells #[.slice none 0 0] 28))
 rw [<- hW,q] at h;obtain ⟨f,x1,x2,hs⟩:=h;have k0:=t.trans f;have kE:=(ah af W).alloc (.cells #[.int .i64 0] 35);have xe:Box (W.alloc (.cells #[.int .i64 0] 35)) W.heap.size (.int .i64 0) 35:=Box.new W (.int .i64 0) 35;have k1:=k0.trans kE;have a:=Ia w.heap.size (w.heap.size+1) (w.heap.size+1+1) s l co cl cc cs _ (hr.g k1) hd hl (hc.g k1) i (au y (f.trans kE)) (x1.g kE) (x2.g kE);have g:=oW 28 _ W (fun n W'=>∃ E RL,n=(E:Nat)/\sR l s.en cs E RL/\∃ v,Box W' (w.heap.size+1+1) v 28/\Row .u8 W' v RL/\HzD (∀ x,v.ownBlock=some x->¬ x=W.heap.size)/\Fresh W v/\Kept af w W') j (a.mono (by
  rintro r w' ⟨E,RL,hp,⟨h0,rfl,v,hb,hr,hf,hk⟩ | ⟨h0,rfl,rfl,hk⟩⟩
  ·exact ⟨xe.kept hk (by have:=x2.lt;omega),.inl ⟨rfl,E,RL,by rw [h0];rfl,hp,v,hb,hr,(fun x hx e=>by have h1:=hf x hx;rw [World.size_alloc] at h1;omega),hf.b kE,k1.next hk (fun x hx e=>by omega)⟩⟩
  ·exact ⟨xe.g hk,.inr ⟨_,rfl,E,[],rfl,hp,.slice none 0 0,(x2.g kE).g hk,Row.nil _ _,(fun b hb=>by simp [Value.ownBlock] at hb),fun b hb=>by simp [Value.ownBlock] at hb,k1.trans hk⟩⟩))
 have HW:HzD (W=((w.alloc (.cells #[.slice s.no s.nl s.nc,.int .u64 (s.en:Nat),.slice s.dO s.dl s.dc,.slice s.po s.pl s.pc,.slice s.qo s.ql s.qc,.slice s.dpo s.dpl s.dpc,.slice s.dqo s.dql s.dqc,.slice s.qio s.qil s.qic] 26)).alloc (.cells #[.slice co cl cc] 28)).alloc (.cells #[.slice none 0 0] 28)):=by unfold HzD;rw [hW,c]
 have HS:=aa hs;unfold KS.v;clear hc hr hd i hl G he k0 t f kE k1 x1 x2 xe hs q hW c y j a;delta ClZ;go_in;go_wp2_with (rw [<- HW.o]);refine g.mono ?_;rintro r w' ⟨n,w1,rfl,⟨⟨E,RL,rfl,hp,v,hb,hr,k,hf,hk⟩,F⟩,rfl⟩;obtain ⟨vo,vn,vc,rfl,-⟩:=hr.open;have H:W.heap.size=w.heap.size+1+1+1:=HS.o;have kb:=aF w1 W.heap.size (.int .i64 (E:Nat));have o:w.heap.size+1+1≠W.heap.size:=by omega
 have d:=hb.kept kb o;have p:=hr.kept kb (fun x hx e=>k.o x hx e);have m:=hk.next kb (fun x hx e=>by omega)
 have I:=d.cell;have J:=d.free;have z:=aa d;have C:=aa hp;have D:=aa (p.kept (aF (w1.setCell ⟨W.heap.size,0,none⟩ (.int .i64 (E:Nat))) (w.heap.size+1+1) (.slice vo vn vc)) (fun x hx e=>by have:=hf x hx;omega));have B:=aa (m.next (aF (w1.setCell ⟨W.heap.size,0,none⟩ (.int .i64 (E:Nat))) (w.heap.size+1+1) (.slice vo vn vc)) (fun x hx e=>by omega));have A:HzD (∀ b,(Value.slice vo vn vc).ownBlock=some b->w.heap.size<=b):=fun b hx=>by have:=hf b hx;omega
 clear g hb hr hf hk F kb o d p m k hp H;generalize w1.setCell ⟨W.heap.size,0,none⟩ (.int .i64 (E:Nat))=W2 at *;go_wp2_with fail;exact bodyPost_ret (v:=.tuple #[.slice vo vn vc,.int .i64 (E:Nat)]) (by simp [results,results11,go_sem,(z.o.set (.slice vo vn vc)).cell]) rfl ⟨_,E,rfl,RL,C.o,⟨D.o,A.o⟩,B.o⟩

def VPriT:Prop:=∃ F:Nat->Nat->Nat->Nat->List Ev,(∀ a b c e,0<(F a b c e).length)/\∀ (o:Tr) (s:KS) (l:KL) (co:OA) (cl cc:Nat) (cs:LN) (p:OA) (B:Nat) (bs:LN) (at_:Int) (fo:OA) (fl fc:Nat) (fs:LN) (w:World),TrRoom w o 1000000000->s.en<18446744073709551616->(∀ v zs,(v,zs) ∈ [(Value.slice s.no s.nl s.nc,l.n),(.slice s.dO s.dl s.dc,l.d),(.slice s.po s.pl s.pc,l.p),(.slice s.qo s.ql s.qc,l.q),(.slice s.dpo s.dpl s.dpc,l.dp),(.slice s.dqo s.dql s.dqc,l.dq),(.slice s.qio s.qil s.qic,l.qi),(.slice fo fl fc,fs)]->RowT w o v zs)->l.Digs->s.light->Row .u8 w (.slice co cl cc) cs->Digs cs 256->cl<=10000->Lsc w p B bs->B<=w.heap.size->Digs bs 256->bs.length<=10000->Digs fs->fl<=1000->rJ at_ ->
 ClZ 9 #[aP o,.agg s.v,.slice co cl cc,.pointer p,.agg #[.int .i64 at_,.slice fo fl fc]] w fun q w'=>∃ v' E,q=.returned (.tuple #[v',.int .i64 ((E:Nat):Int)])/\∃ RL rest m,PrvL l.n l.d l.p l.q l.dp l.dq l.qi s.en at_ fs cs bs E RL rest/\(Row .u8 w' v' RL/\∀ b,v'.ownBlock=some b->w.heap.size<=b)/\m.length<=1000000000/\((E=0\/E=220)->m=F (am (val l.n)) (am (val l.p)) (am (val l.q)) s.en)/\∃ w1 o',Kept (ofP p) w w1/\Did w1 o m w' o'

theorem AP {Q:Value->LN->Prop} {a0 a1 a2 a3 a4 a5 a6 a7:Value} {l0 l1 l2 l3 l4 l5 l6 l7:LN} (h0:Q a0 l0) (h1:Q a1 l1) (h2:Q a2 l2) (h3:Q a3 l3) (h4:Q a4 l4) (h5:Q a5 l5) (h6:Q a6 l6) (h7:Q a7 l7):∀ v zs,(v,zs) ∈ [(a0,l0),(a1,l1),(a2,l2),(a3,l3),(a4,l4),(a5,l5),(a6,l6),(a7,l7)]->Q v zs:=by
 intro v zs h;simp only [fM,fN,List.not_mem_nil,or_false] at h;rcases h with ⟨rfl,rfl⟩ | ⟨rfl,rfl⟩ | ⟨rfl,rfl⟩ | ⟨rfl,rfl⟩ | ⟨rfl,rfl⟩ | ⟨rfl,rfl⟩ | ⟨rfl,rfl⟩ | ⟨rfl,rfl⟩ <;> assumption

theorem VPriT.plain (h:VPriT):VPri:=by
 obtain ⟨F,_,h⟩:=h;intro s l co cl cc cs p B bs at_ fo fl fc fs w he hr hd hl hc g i hs hB c e hf gf j b;refine (h none s l co cl cc cs p B bs at_ fo fl fc fs w (TrRoom.none w _ (by omega)) he (AP (.none hr.n) (.none hr.d) (.none hr.p) (.none hr.q) (.none hr.dp) (.none hr.dq) (.none hr.qi) (.none hf)) hd hl hc g i hs hB c e gf j b).mono ?_;rintro q w' ⟨v',E,rfl,RL,rest,m,hp,a,_,_,w1,o',k1,d⟩;exact ⟨v',E,rfl,RL,rest,hp,a,k1.next d.1 (fun x hx f=>f.elim)⟩

theorem AZ {p:OA} {B:Nat} {bs:LN} (h:Lsc w p B bs):∀ o,TrIn w o->∀ x,dr o x->¬ ofP p x:=by
 intro o ht x hf hp;rcases h with ⟨rfl,_⟩ | ⟨b,v,ps,k,rfl,_,hb,_⟩
 ·simp [ofP] at hp
 ·have e:=qX hp;subst e;exact aH hb ht (by decide) (by decide) hf

end Go.Proofs.YtpkmoamgpjcdeaaGreatDoor
