/- Put together of: Kex6 Kex7 LimQ Kex8 Kex9 Prw7 Prw8 Law22d. -/
import Derived.Test.YtpkmoamgpjcdeaaGreatDoorRC17
import Derived.Laws.StructEq

namespace Go.Proofs.YtpkmoamgpjcdeaaGreatDoor
open _root_.Go.Proofs.Tryz
set_option maxRecDepth 100000
set_option maxHeartbeats 4000000
open Go.RowKit
variable {P Q e:Nat} {w:World}

def OfEnd (L M P Q e B bK:Nat) (a w:World) (r:Ending) (w':World):Prop:=
 (eS L M P Q e/\r=.returned (.tuple #[])/\∃ kv,w'.heap[bK]? = some (.cells kv 26 (0,0))/\KeyAt w' P Q e kv/\kQ B kv/\Kept (fun b=>b=bK) w w'/\Kept aa a w')\/(¬ eS L M P Q e/\r=.panicked [refusal 190]/\Kept aa w w')

theorem OfEnd.no {L M B bK:Nat} {a w':World} (h:¬ eS L M P Q e) (k:Kept aa w w'):OfEnd L M P Q e B bK a w (.panicked [refusal 190]) w':=.inr ⟨h,rfl,k⟩

theorem kn (h:0<P*Q):cJ P Q=digs (P*Q) (al (P*Q)):=by
 unfold cJ;have:¬ al (P*Q)<=0:=fun h1=>by
  have:=(aB _ _).1 h1;rw [cZ] at this;omega
 rw [Nat.max_eq_left (by omega)]

theorem KeyAt.kept {S:Nat->Prop} {w':World} {kv:Array Value} (h:KeyAt w P Q e kv) (k:Kept S w w') (hs:∀ v ∈ kv.toList,∀ x,v.ownBlock=some x->¬ S x):KeyAt w' P Q e kv:=by
 obtain ⟨vn,vd,vp,vq,a,b,c,d,u,rfl,rn,f,g,rd,rp,rq,l,m,i,j,n⟩:=h;exact ⟨vn,vd,vp,vq,a,b,c,d,u,rfl,rn.kept k (hs vn (by simp)),f,g,rd.kept k (hs vd (by simp)),rp.kept k (hs vp (by simp)),rq.kept k (hs vq (by simp)),l.kept k (hs a (by simp)),m.kept k (hs b (by simp)),i,j,n.kept k (hs c (by simp))⟩

theorem IT {W:World} {a:Addr} {p:Nat} {x0 x1 x2 x3 x4 x5 x6 x7 q:Value} (h:W.cell? a=some q) (b:a.block≠p):((((((((W.setCell ⟨p,0,none⟩ x0).setCell ⟨p,1,none⟩ x1).setCell ⟨p,2,none⟩ x2).setCell ⟨p,3,none⟩ x3).setCell ⟨p,4,none⟩ x4).setCell ⟨p,5,none⟩ x5).setCell ⟨p,6,none⟩ x6).setCell ⟨p,7,none⟩ x7).cell? a=some q:=by
 have h1:∀ (V:World) (j:Nat) (x:Value),V.cell? a=some q->(V.setCell ⟨p,j,none⟩ x).cell? a=some q:=fun V j x hv=>by
  unfold World.cell? at hv ⊢;rw [Below.heap_setCell V ⟨p,j,none⟩ x a.block b];exact hv
 exact h1 _ _ _ (h1 _ _ _ (h1 _ _ _ (h1 _ _ _ (h1 _ _ _ (h1 _ _ _ (h1 _ _ _ (h1 _ _ _ h)))))))

theorem IL (bP bQ bE bK:Nat) (ao bo:OA) (L M b c:Nat) (xs:LN) (P Q e B:Nat) (hP:P=val xs) (g:L<=1000) (d:¬ (L<=300/\eJ P)) (a w:World) (hu:Row .u64 w (.slice ao L b) xs) (f:Digs xs) (b0:w.cell? ⟨bP,0,none⟩=some (.slice ao L b)) (b1:w.cell? ⟨bQ,0,none⟩=some (.slice bo M c)) :
  ClZ 138 #[.pointer (some ⟨bP,0,none⟩),.pointer (some ⟨bQ,0,none⟩),.pointer (some ⟨bE,0,none⟩),.pointer (some ⟨bK,0,none⟩)] w fun r w'=>OfEnd L M P Q e B bK a w r w':=by
 have hN:¬ eS L M P Q e:=fun h=>d ⟨h.1.1,h.2.1⟩
 have KD:Kept aa w w.drew:=(ah aa w).drew;have J1:=uM ao L b xs P hP (by omega) d w.drew (hu.g KD) f;clear hu f hP d;delta ClZ;go_in;go_wp2_with fail;refine wp_region_held_drew (S:=fun w'=>w'.cell? ⟨bP,0,none⟩=some (.slice ao L b)/\w'.cell? ⟨bQ,0,none⟩=some (.slice bo M c)) (by kernel_rfl) ⟨b0,b1⟩ (fun hS=>?_);refine aM 0 (some 10) (.slice ao L b) hS ?_ (y:=dJ fun w h=>by simp [execOp,go_sem,h.1]);refine aM 2 (some 12) (.slice bo M c) hS ?_ (y:=dJ fun w h=>by simp [execOp,go_sem,h.2]);simp only [aT];refine cf 1 (some 11) 139 [.slice ao L b] (J1) ?_;rintro e w4 ⟨rfl,k4⟩
 exact .inr ⟨_,rfl,rfl,.no hN (KD.trans k4)⟩

theorem IM (bP bQ bE bK:Nat) (ao bo:OA) (L M c b:Nat) (xs ys:LN) (P Q e B:Nat) (hP:P=val xs) (hQ:Q=val ys) (l:M<=1000) (i:L<=300/\eJ P) (d:¬ (M<=300/\eJ Q)) (a w:World) (hu:Row .u64 w (.slice ao L c) xs) (hv:Row .u64 w (.slice bo M b) ys) (f:Digs xs) (g:Digs ys) (b0:w.cell? ⟨bP,0,none⟩=some (.slice ao L c)) (b1:w.cell? ⟨bQ,0,none⟩=some (.slice bo M b)) :
  ClZ 138 #[.pointer (some ⟨bP,0,none⟩),.pointer (some ⟨bQ,0,none⟩),.pointer (some ⟨bE,0,none⟩),.pointer (some ⟨bK,0,none⟩)] w fun r w'=>OfEnd L M P Q e B bK a w r w':=by
 have hN:¬ eS L M P Q e:=fun h=>d ⟨h.1.2,h.2.2.1⟩
 have KD:Kept aa w w.drew:=(ah aa w).drew;have J1:=nU ao L c xs P (al P) hP rfl i w.drew (hu.g KD) f;have J2:HzD (∀ W,Kept aa w W->ClZ 139 #[.slice bo M b] W fun e w'=>e=.panicked [refusal 190]/\Kept aa W w'):=fun W k=>uM bo M b ys Q hQ (by omega) d W (hv.g k) g
 clear hu hv f g hP hQ d i;delta ClZ;go_in;go_wp2_with fail;refine wp_region_held_drew (S:=fun w'=>w'.cell? ⟨bP,0,none⟩=some (.slice ao L c)/\w'.cell? ⟨bQ,0,none⟩=some (.slice bo M b)) (by kernel_rfl) ⟨b0,b1⟩ (fun hS=>?_);refine aM 0 (some 10) (.slice ao L c) hS ?_ (y:=dJ fun w h=>by simp [execOp,go_sem,h.1]);refine aM 2 (some 12) (.slice bo M b) hS ?_ (y:=dJ fun w h=>by simp [execOp,go_sem,h.2]);simp only [aT];refine cf 1 (some 11) 139 [.slice ao L c] (J1) ?_;rintro e w4 ⟨vo,vc,rfl,_,_,k4⟩
 have j:w4.cell? ⟨bP,0,none⟩=some (.slice ao L c)/\w4.cell? ⟨bQ,0,none⟩=some (.slice bo M b):=⟨k4.cellN hS.1,k4.cellN hS.2⟩
 refine .inl ⟨_,rfl,j,?_⟩;simp only [aT];refine cf 3 (some 13) 139 [.slice bo M b] (J2.o w4 (KD.trans k4)) ?_;rintro e w5 ⟨rfl,k5⟩;exact .inr ⟨_,rfl,rfl,.no hN ((KD.trans k4).trans k5)⟩

theorem IN (bP bQ bE bK:Nat) (ao bo:OA) (L M f d:Nat) (xs ys:LN) (P Q e B:Nat) (hP:P=val xs) (hQ:Q=val ys) (i:L<=300/\eJ P) (b:M<=300/\eJ Q) (o:jE (cJ P Q) e≠0) (a w:World) (hu:Row .u64 w (.slice ao L f) xs) (hv:Row .u64 w (.slice bo M d) ys) (N:Digs xs) (O:Digs ys) (b0:w.cell? ⟨bP,0,none⟩=some (.slice ao L f)) (b1:w.cell? ⟨bQ,0,none⟩=some (.slice bo M d)) (b2:w.cell? ⟨bE,0,none⟩=some (.int .u64 (e:Int))) :
  ClZ 138 #[.pointer (some ⟨bP,0,none⟩),.pointer (some ⟨bQ,0,none⟩),.pointer (some ⟨bE,0,none⟩),.pointer (some ⟨bK,0,none⟩)] w fun r w'=>OfEnd L M P Q e B bK a w r w':=by
 have I:0<P*Q:=gH (by have:=i.2.1;omega) (by have:=b.2.1;omega);obtain ⟨np,z⟩:=aj (al P)
 obtain ⟨nq,C⟩:=aj (al Q)
 obtain ⟨nw,p⟩:=aj (al (P*Q))
 have ab:=i.2.1;have ad:=b.2.1;have ac:=i.2.2.1;have A:np<=128:=by rw [z];exact cV (n:=128) (by have:=i.2.2.2;omega)
 have D:nq<=128:=by rw [C];exact cV (n:=128) (by have:=b.2.2.2;omega)
 have t:P<18446744073709551616^np:=(aB P np).1 (by omega);have x:Q<18446744073709551616^nq:=(aB Q nq).1 (by omega);have s:P*Q<18446744073709551616^(np+nq):=by rw [aO];exact mq t x
 have E:nw<=np+nq:=by rw [p];exact (aB _ _).2 s
 have J:P*Q<18446744073709551616^nw:=(aB _ nw).1 (by omega);have vP:val (digs P np)=P:=by rw [ax,aA t]
 have vQ:val (digs Q nq)=Q:=by rw [ax,aA x]
 have vN:val (digs (P*Q) nw)=P*Q:=by rw [ax,aA J]
 have dP:Digs (digs P np):=ak (by omega) _ _;have dQ:Digs (digs Q nq):=ak (by omega) _ _;have dN:Digs (digs (P*Q) nw):=ak (by omega) _ _;have R:cJ P Q=digs (P*Q) nw:=by rw [p];exact kn I
 have KD:Kept aa w w.drew:=(ah aa w).drew;have J1:=nU ao L f xs P np hP z i w.drew (hu.g KD) N;have J2:HzD (∀ W,Kept aa w W->ClZ 139 #[.slice bo M d] W fun e w'=>∃ vo vc,e=.returned (.slice vo nq vc)/\Row .u64 w' (.slice vo nq vc) (digs Q nq)/\Fresh W (.slice vo nq vc)/\Kept aa W w'):=fun W k=>nU bo M d ys Q nq hQ C b W (hv.g k) O
 have j:HzD (∀ W va ca vb cb,Row .u64 W (.slice va np ca) (digs P np)->Row .u64 W (.slice vb nq cb) (digs Q nq)->ClZ 110 #[.pointer none,.slice va np ca,.slice vb nq cb] W fun e w'=>∃ vo vc,e=.returned (.slice vo (np+nq) vc)/\Row .u64 w' (.slice vo (np+nq) vc) (digs (P*Q) (np+nq))/\Kept aa W w'):=fun W va ca vb cb h1 h2=>by
  refine (Cw va vb np nq ca cb _ _ W h1 h2 dP dQ).mono ?_;rintro e w' ⟨v',rfl,hr,k⟩;rw [vP,vQ] at hr;unfold kD at hr;rw [bZ] at hr;obtain ⟨vo,vn,vc,rfl,hl,_,_,_,_⟩:=hr.open;obtain rfl:np+nq=vn:=by rw [<- hl.o,ag]
  exact ⟨_,_,rfl,hr,k⟩
 have JN:HzD (∀ W v c,Row .u64 W (.slice v (np+nq) c) (digs (P*Q) (np+nq))->ClZ 140 #[.slice v (np+nq) c] W fun e w'=>∃ vo vc,e=.returned (.slice vo nw vc)/\Row .u64 w' (.slice vo nw vc) (digs (P*Q) nw)/\Fresh W (.slice vo nw vc)/\Kept aa W w'):=fun W v c h=>sf v (np+nq) c _ (P*Q) nw (by rw [ax,aA s]) p (by omega) W h (ak (by omega) _ _) (by rw [ag];omega)
 have g:HzD (∀ W v c,Row .u64 W (.slice v nw c) (digs (P*Q) nw)->ClZ 141 #[.slice v nw c,.int .u64 (e:Nat)] W fun r w'=>r=.returned (.int .i64 ((jE (digs (P*Q) nw) e:Nat):Int))/\Kept aa W w'):=fun W v c h=>EF v nw c _ e W h dN (by omega)
 have hN:¬ eS L M P Q e:=fun h=>o h.2.2.2.2.1
 rw [R] at o;rw [(lI _ _).resolve_left o] at g;have hY:=eK 190;clear hu hv N O hP hQ i b I z C p ab ad ac A D t x s E J vP vQ vN dP dQ dN R o;delta ClZ;go_in;go_wp2_with fail;refine wp_region_held_drew (S:=fun w'=>w'.cell? ⟨bP,0,none⟩=some (.slice ao L f)/\w'.cell? ⟨bQ,0,none⟩=some (.slice bo M d)) (by kernel_rfl) ⟨b0,b1⟩ (fun hS=>?_);refine aM 0 (some 10) (.slice ao L f) hS ?_ (y:=dJ fun w h=>by simp [execOp,go_sem,h.1]);refine aM 2 (some 12) (.slice bo M d) hS ?_ (y:=dJ fun w h=>by simp [execOp,go_sem,h.2]);simp only [aT]
 refine cf 1 (some 11) 139 [.slice ao L f] (J1) ?_;rintro e w4 ⟨vp,cp,rfl,V,_,k4⟩;have l:w4.cell? ⟨bP,0,none⟩=some (.slice ao L f)/\w4.cell? ⟨bQ,0,none⟩=some (.slice bo M d):=⟨k4.cellN hS.1,k4.cellN hS.2⟩
 refine .inl ⟨_,rfl,l,?_⟩;simp only [aT];refine cf 3 (some 13) 139 [.slice bo M d] (J2.o w4 (KD.trans k4)) ?_;rintro e w5 ⟨vq,cq,rfl,X,_,k5⟩;have m:w5.cell? ⟨bP,0,none⟩=some (.slice ao L f)/\w5.cell? ⟨bQ,0,none⟩=some (.slice bo M d):=⟨k5.cellN l.1,k5.cellN l.2⟩
 refine .inl ⟨_,rfl,m,?_⟩;refine aM 4 (some 4) (.slice vp np cp) m ?_;refine aM 5 (some 5) (.slice vq nq cq) m ?_;simp only [aT];refine wpAnyH_done (by kernel_rfl) ?_ _;have F:=af ((KD.trans k4).trans k5);have G:=af (V.g k5);have H:=af X;have J5:=j.o w5 vp cp vq cq G.o H.o;clear J1 J2 KD k4 k5 V X hS l m j b0 b1;go_wp2_with fail;refine J5.mono ?_;rintro e6 w6 ⟨vm,cm,rfl,T,k6⟩;have J6:=JN.o w6 vm cm T;clear J5 T JN;go_wp2_with fail;refine J6.mono ?_;rintro e6 w7 ⟨vn,cn,rfl,U,Z,k7⟩;have q:=af (F.o.trans (k6.trans k7));have J7:=g.o w7 vn cn U;have c7:=q.o.cellN b2
 clear J6 U Z k6 k7 F G H g;go_wp2_with fail;refine J7.mono ?_;rintro e6 w8 ⟨rfl,k8⟩;have Y:=af (q.o.trans k8);clear J7 k8 q;go_wp2_with fail;refine (hY _).mono ?_;rintro e6 w9 ⟨rfl,rfl⟩;exact ⟨rfl,.no hN Y.o⟩

theorem IP (bP bQ bE bK:Nat) (ao bo:OA) (L M g d:Nat) (xs ys:LN) (P Q e B:Nat) (hP:P=val xs) (hQ:Q=val ys) (l:L<=300/\eJ P) (b:M<=300/\eJ Q) (i:jE (cJ P Q) e=0) (E:Nat.gcd Q P≠1) (a w:World) (hu:Row .u64 w (.slice ao L g) xs) (hv:Row .u64 w (.slice bo M d) ys) (X:Digs xs) (Y:Digs ys) (b0:w.cell? ⟨bP,0,none⟩=some (.slice ao L g)) (b1:w.cell? ⟨bQ,0,none⟩=some (.slice bo M d)) (b2:w.cell? ⟨bE,0,none⟩=some (.int .u64 (e:Int))) :
  ClZ 138 #[.pointer (some ⟨bP,0,none⟩),.pointer (some ⟨bQ,0,none⟩),.pointer (some ⟨bE,0,none⟩),.pointer (some ⟨bK,0,none⟩)] w fun r w'=>OfEnd L M P Q e B bK a w r w':=by
 have U:0<P*Q:=gH (by have:=l.2.1;omega) (by have:=b.2.1;omega);obtain ⟨np,q⟩:=aj (al P)
 obtain ⟨nq,G⟩:=aj (al Q)
 obtain ⟨nw,s⟩:=aj (al (P*Q))
 have aw:=l.2.1;have ay:=b.2.1;have ac:=l.2.2.1;have F:np<=128:=by rw [q];exact cV (n:=128) (by have:=l.2.2.2;omega)
 have H:nq<=128:=by rw [G];exact cV (n:=128) (by have:=b.2.2.2;omega)
 have C:P<18446744073709551616^np:=(aB P np).1 (by omega);have D:Q<18446744073709551616^nq:=(aB Q nq).1 (by omega);have A:P*Q<18446744073709551616^(np+nq):=by rw [aO];exact mq C D
 have I:nw<=np+nq:=by rw [s];exact (aB _ _).2 A
 have V:P*Q<18446744073709551616^nw:=(aB _ nw).1 (by omega);have vP:val (digs P np)=P:=by rw [ax,aA C]
 have vQ:val (digs Q nq)=Q:=by rw [ax,aA D]
 have vN:val (digs (P*Q) nw)=P*Q:=by rw [ax,aA V]
 have dP:Digs (digs P np):=ak (by omega) _ _;have dQ:Digs (digs Q nq):=ak (by omega) _ _;have dN:Digs (digs (P*Q) nw):=ak (by omega) _ _;have Z:cJ P Q=digs (P*Q) nw:=by rw [s];exact kn U
 have KD:Kept aa w w.drew:=(ah aa w).drew;have J1:=nU ao L g xs P np hP q l w.drew (hu.g KD) X;have J2:HzD (∀ W,Kept aa w W->ClZ 139 #[.slice bo M d] W fun e w'=>∃ vo vc,e=.returned (.slice vo nq vc)/\Row .u64 w' (.slice vo nq vc) (digs Q nq)/\Fresh W (.slice vo nq vc)/\Kept aa W w'):=fun W k=>nU bo M d ys Q nq hQ G b W (hv.g k) Y
 have m:HzD (∀ W va ca vb cb,Row .u64 W (.slice va np ca) (digs P np)->Row .u64 W (.slice vb nq cb) (digs Q nq)->ClZ 110 #[.pointer none,.slice va np ca,.slice vb nq cb] W fun e w'=>∃ vo vc,e=.returned (.slice vo (np+nq) vc)/\Row .u64 w' (.slice vo (np+nq) vc) (digs (P*Q) (np+nq))/\Kept aa W w'):=fun W va ca vb cb h1 h2=>by
  refine (Cw va vb np nq ca cb _ _ W h1 h2 dP dQ).mono ?_;rintro e w' ⟨v',rfl,hr,k⟩;rw [vP,vQ] at hr;unfold kD at hr;rw [bZ] at hr;obtain ⟨vo,vn,vc,rfl,hl,_,_,_,_⟩:=hr.open;obtain rfl:np+nq=vn:=by rw [<- hl.o,ag]
  exact ⟨_,_,rfl,hr,k⟩
 have JN:HzD (∀ W v c,Row .u64 W (.slice v (np+nq) c) (digs (P*Q) (np+nq))->ClZ 140 #[.slice v (np+nq) c] W fun e w'=>∃ vo vc,e=.returned (.slice vo nw vc)/\Row .u64 w' (.slice vo nw vc) (digs (P*Q) nw)/\Fresh W (.slice vo nw vc)/\Kept aa W w'):=fun W v c h=>sf v (np+nq) c _ (P*Q) nw (by rw [ax,aA A]) s (by omega) W h (ak (by omega) _ _) (by rw [ag];omega)
 have j:HzD (∀ W v c,Row .u64 W (.slice v nw c) (digs (P*Q) nw)->ClZ 141 #[.slice v nw c,.int .u64 (e:Nat)] W fun r w'=>r=.returned (.int .i64 ((jE (digs (P*Q) nw) e:Nat):Int))/\Kept aa W w'):=fun W v c h=>EF v nw c _ e W h dN (by omega)
 have f:=i;rw [Z] at f;have ab:=(oh dN (by rw [ag];omega) e).1 f;rw [vN] at ab;obtain ⟨-,-,aq,ar,au⟩:=ab;rw [f] at j;have hR:=dH 190;have hN:¬ eS L M P Q e:=fun h=>E (by rw [ft];exact h.2.2.2.1)
 have JI:HzD (∀ W va ca vb cb,Row .u64 W (.slice va nq ca) (digs Q nq)->Row .u64 W (.slice vb np cb) (digs P np)->ClZ 142 #[.slice va nq ca,.slice vb np cb] W fun e w'=>e=.panicked [refusal 190]/\Kept aa W w'):=fun W va ca vb cb h1 h2=>zr va vb nq np ca cb _ _ Q P vQ.symm vP.symm (by omega) ac q (by omega) (by omega) E W h1 h2 dQ dP
 clear aq ar au E hu hv X Y hP hQ l b U q G s aw ay ac F H C D A I V vP vQ vN dP dQ dN Z f i;delta ClZ;go_in;go_wp2_with fail;refine wp_region_held_drew (S:=fun w'=>w'.cell? ⟨bP,0,none⟩=some (.slice ao L g)/\w'.cell? ⟨bQ,0,none⟩=some (.slice bo M d)) (by kernel_rfl) ⟨b0,b1⟩ (fun hS=>?_);refine aM 0 (some 10) (.slice ao L g) hS ?_ (y:=dJ fun w h=>by simp [execOp,go_sem,h.1]);refine aM 2 (some 12) (.slice bo M d) hS ?_ (y:=dJ fun w h=>by simp [execOp,go_sem,h.2]);simp only [aT];refine cf 1 (some 11) 139 [.slice ao L g] (J1) ?_;rintro e w4 ⟨vp,cp,rfl,ae,_,k4⟩
 have o:w4.cell? ⟨bP,0,none⟩=some (.slice ao L g)/\w4.cell? ⟨bQ,0,none⟩=some (.slice bo M d):=⟨k4.cellN hS.1,k4.cellN hS.2⟩
 refine .inl ⟨_,rfl,o,?_⟩;simp only [aT];refine cf 3 (some 13) 139 [.slice bo M d] (J2.o w4 (KD.trans k4)) ?_;rintro e w5 ⟨vq,cq,rfl,ai,_,k5⟩;have p:w5.cell? ⟨bP,0,none⟩=some (.slice ao L g)/\w5.cell? ⟨bQ,0,none⟩=some (.slice bo M d):=⟨k5.cellN o.1,k5.cellN o.2⟩
 refine .inl ⟨_,rfl,p,?_⟩;refine aM 4 (some 4) (.slice vp np cp) p ?_;refine aM 5 (some 5) (.slice vq nq cq) p ?_;simp only [aT];refine wpAnyH_done (by kernel_rfl) ?_ _;have N:=af ((KD.trans k4).trans k5);have x:=af (ae.g k5);have z:=af ai;have J5:=m.o w5 vp cp vq cq x.o z.o;clear J1 J2 KD k4 k5 ae ai hS o p m b0 b1;go_wp2_with fail;refine J5.mono ?_;rintro e6 w6 ⟨vm,cm,rfl,ad,k6⟩;have J6:=JN.o w6 vm cm ad;clear J5 ad JN;go_wp2_with fail;refine J6.mono ?_;rintro e6 w7 ⟨vn,cn,rfl,J,av,k7⟩;have t:=af (N.o.trans (k6.trans k7));have R:=af (x.o.g (k6.trans k7))
 have T:=af (z.o.g (k6.trans k7));have O:=af J;have J7:=j.o w7 vn cn J;have c7:=t.o.cellN b2;clear J6 J av k6 k7 N x z j;go_wp2_with fail;refine J7.mono ?_;rintro e6 w8 ⟨rfl,k8⟩;have am:=af (t.o.trans k8);have an:=af (R.o.g k8);have ap:=af (T.o.g k8);have aC:=af (O.o.g k8);clear J7 k8 t R T O;go_wp2_with fail;refine (hR _).mono ?_;rintro e6 w9 ⟨rfl,rfl⟩;have J9:=JI.o w9 vq cq vp cp ap.o an.o;clear hR JI;go_wp2_with fail;refine J9.mono ?_;rintro e6 aD ⟨rfl,az⟩;exact ⟨rfl,.no hN (am.o.trans az)⟩

theorem IQ (bP bQ bE bK:Nat) (ao bo:OA) (L M i d:Nat) (xs ys:LN) (P Q e B:Nat) (hP:P=val xs) (hQ:Q=val ys) (o:L<=300/\eJ P) (b:M<=300/\eJ Q) (j:jE (cJ P Q) e=0) (hg:Nat.gcd Q P=1) (Y:Nat.gcd (eX P Q) e≠1) (a w:World) (hu:Row .u64 w (.slice ao L i) xs) (hv:Row .u64 w (.slice bo M d) ys) (aF:Digs xs) (aG:Digs ys) (b0:w.cell? ⟨bP,0,none⟩=some (.slice ao L i)) (b1:w.cell? ⟨bQ,0,none⟩=some (.slice bo M d)) (b2:w.cell? ⟨bE,0,none⟩=some (.int .u64 (e:Int))) :
  ClZ 138 #[.pointer (some ⟨bP,0,none⟩),.pointer (some ⟨bQ,0,none⟩),.pointer (some ⟨bE,0,none⟩),.pointer (some ⟨bK,0,none⟩)] w fun r w'=>OfEnd L M P Q e B bK a w r w':=by
 have aD:0<P*Q:=gH (by have:=o.2.1;omega) (by have:=b.2.1;omega);obtain ⟨np,A⟩:=aj (al P)
 obtain ⟨nq,ab⟩:=aj (al Q)
 obtain ⟨nw,D⟩:=aj (al (P*Q))
 have aK:=o.2.1;have aP:=b.2.1;have aN:=o.2.2.1;have Z:np<=128:=by rw [A];exact cV (n:=128) (by have:=o.2.2.2;omega)
 have ac:nq<=128:=by rw [ab];exact cV (n:=128) (by have:=b.2.2.2;omega)
 have s:P<18446744073709551616^np:=(aB P np).1 (by omega);have t:Q<18446744073709551616^nq:=(aB Q nq).1 (by omega);have U:P*Q<18446744073709551616^(np+nq):=by rw [aO];exact mq s t
 have ad:nw<=np+nq:=by rw [D];exact (aB _ _).2 U
 have aE:P*Q<18446744073709551616^nw:=(aB _ nw).1 (by omega);have vP:val (digs P np)=P:=by rw [ax,aA s]
 have vQ:val (digs Q nq)=Q:=by rw [ax,aA t]
 have vN:val (digs (P*Q) nw)=P*Q:=by rw [ax,aA aE]
 have dP:Digs (digs P np):=ak (by omega) _ _;have dQ:Digs (digs Q nq):=ak (by omega) _ _;have dN:Digs (digs (P*Q) nw):=ak (by omega) _ _;have aJ:cJ P Q=digs (P*Q) nw:=by rw [D];exact kn aD
 have KD:Kept aa w w.drew:=(ah aa w).drew;have J1:=nU ao L i xs P np hP A o w.drew (hu.g KD) aF;have J2:HzD (∀ W,Kept aa w W->ClZ 139 #[.slice bo M d] W fun e w'=>∃ vo vc,e=.returned (.slice vo nq vc)/\Row .u64 w' (.slice vo nq vc) (digs Q nq)/\Fresh W (.slice vo nq vc)/\Kept aa W w'):=fun W k=>nU bo M d ys Q nq hQ ab b W (hv.g k) aG
 have q:HzD (∀ W va ca vb cb,Row .u64 W (.slice va np ca) (digs P np)->Row .u64 W (.slice vb nq cb) (digs Q nq)->ClZ 110 #[.pointer none,.slice va np ca,.slice vb nq cb] W fun e w'=>∃ vo vc,e=.returned (.slice vo (np+nq) vc)/\Row .u64 w' (.slice vo (np+nq) vc) (digs (P*Q) (np+nq))/\Kept aa W w'):=fun W va ca vb cb h1 h2=>by
  refine (Cw va vb np nq ca cb _ _ W h1 h2 dP dQ).mono ?_;rintro e w' ⟨v',rfl,hr,k⟩;rw [vP,vQ] at hr;unfold kD at hr;rw [bZ] at hr;obtain ⟨vo,vn,vc,rfl,hl,_,_,_,_⟩:=hr.open;obtain rfl:np+nq=vn:=by rw [<- hl.o,ag]
  exact ⟨_,_,rfl,hr,k⟩
 have JN:HzD (∀ W v c,Row .u64 W (.slice v (np+nq) c) (digs (P*Q) (np+nq))->ClZ 140 #[.slice v (np+nq) c] W fun e w'=>∃ vo vc,e=.returned (.slice vo nw vc)/\Row .u64 w' (.slice vo nw vc) (digs (P*Q) nw)/\Fresh W (.slice vo nw vc)/\Kept aa W w'):=fun W v c h=>sf v (np+nq) c _ (P*Q) nw (by rw [ax,aA U]) D (by omega) W h (ak (by omega) _ _) (by rw [ag];omega)
 have l:HzD (∀ W v c,Row .u64 W (.slice v nw c) (digs (P*Q) nw)->ClZ 141 #[.slice v nw c,.int .u64 (e:Nat)] W fun r w'=>r=.returned (.int .i64 ((jE (digs (P*Q) nw) e:Nat):Int))/\Kept aa W w'):=fun W v c h=>EF v nw c _ e W h dN (by omega)
 have g:=j;rw [aJ] at g;have aL:=(oh dN (by rw [ag];omega) e).1 g;rw [vN] at aL;obtain ⟨-,-,aH,aZ,aI⟩:=aL;rw [g] at l;have hR:=dH 190;have hN:¬ eS L M P Q e:=fun h=>Y (by rw [ft];exact h.2.2.2.2.2)
 have JI:HzD (∀ W va ca vb cb,Row .u64 W (.slice va nq ca) (digs Q nq)->Row .u64 W (.slice vb np cb) (digs P np)->ClZ 142 #[.slice va nq ca,.slice vb np cb] W fun e w'=>∃ vo vc T,e=.returned (.slice vo np vc)/\HzD (T<P/\Q*T%P=1)/\Row .u64 w' (.slice vo np vc) (digs T np)/\Kept aa W w'):=fun W va ca vb cb h1 h2=>GE va vb nq np ca cb _ _ Q P vQ.symm vP.symm (by omega) aN A (by omega) (by omega) hg W h1 h2 dQ dP
 obtain ⟨C,hC⟩:=aj (eX P Q)
 obtain ⟨nc,V⟩:=aj (al C)
 have az:C<18446744073709551616^(np+nq):=by rw [hC];exact qd s t (by omega) (by omega)
 have X:nc<=np+nq:=by rw [V];exact (aB _ _).2 az
 have aC:C<18446744073709551616^nc:=(aB C nc).1 (by omega);have vC:val (digs C nc)=C:=by rw [ax,aA aC]
 have aX:2<=C:=by rw [hC];exact xQ aK aP
 have R:HzD (∀ W va ca vb cb,Row .u64 W (.slice va np ca) (digs P np)->Row .u64 W (.slice vb nq cb) (digs Q nq)->ClZ 145 #[.slice va np ca,.slice vb nq cb] W fun e w'=>∃ vo vc,e=.returned (.tuple #[.slice vo nc vc,.int .i64 0])/\Row .u64 w' (.slice vo nc vc) (digs C nc)/\Kept aa W w'):=fun W va ca vb cb h1 h2=>by
  refine (IJ va vb np nq ca cb _ _ P Q 0 _ vP.symm vQ.symm (by omega) (by omega) (.inl ⟨rfl,by omega,by omega⟩) (by rw [ai rfl,<- hC,<- V]) W h1 h2 dP dQ).mono ?_;rintro e w' ⟨v',rfl,hr,_,k⟩;obtain ⟨vo,vn,vc,rfl,hl,_,_,_,_⟩:=hr.open;obtain rfl:nc=vn:=by rw [<- hl.o,ag]
  exact ⟨_,_,rfl,hr,k⟩
 have aY:=fun v n c W=>mT v n c W
 have JX:HzD (∀ W v c,Row .u64 W (.slice v nc c) (digs C nc)->ClZ 143 #[.int .u64 (e:Nat),.slice v nc c] W fun r w'=>r=.panicked [refusal 190]/\Kept aa W w'):=fun W v c h=>EC v nc c _ C e vC.symm aH aI (by omega) (by omega) (by rw [hC];exact Y) W h (ak (by omega) _ _)
 clear aH aZ aI Y hg hC V az X aC vC aX hu hv aF aG hP hQ o b aD A ab D aK aP aN Z ac s t U ad aE vP vQ vN dP dQ dN aJ g j;delta ClZ;go_in;go_wp2_with fail;refine wp_region_held_drew (S:=fun w'=>w'.cell? ⟨bP,0,none⟩=some (.slice ao L i)/\w'.cell? ⟨bQ,0,none⟩=some (.slice bo M d)) (by kernel_rfl) ⟨b0,b1⟩ (fun hS=>?_);refine aM 0 (some 10) (.slice ao L i) hS ?_ (y:=dJ fun w h=>by simp [execOp,go_sem,h.1]);refine aM 2 (some 12) (.slice bo M d) hS ?_ (y:=dJ fun w h=>by simp [execOp,go_sem,h.2]);simp only [aT];refine cf 1 (some 11) 139 [.slice ao L i] (J1) ?_
 rintro e w4 ⟨vp,cp,rfl,aS,_,k4⟩;have x:w4.cell? ⟨bP,0,none⟩=some (.slice ao L i)/\w4.cell? ⟨bQ,0,none⟩=some (.slice bo M d):=⟨k4.cellN hS.1,k4.cellN hS.2⟩
 refine .inl ⟨_,rfl,x,?_⟩;simp only [aT];refine cf 3 (some 13) 139 [.slice bo M d] (J2.o w4 (KD.trans k4)) ?_;rintro e w5 ⟨vq,cq,rfl,aU,_,k5⟩;have z:w5.cell? ⟨bP,0,none⟩=some (.slice ao L i)/\w5.cell? ⟨bQ,0,none⟩=some (.slice bo M d):=⟨k5.cellN x.1,k5.cellN x.2⟩
 refine .inl ⟨_,rfl,z,?_⟩;refine aM 4 (some 4) (.slice vp np cp) z ?_;refine aM 5 (some 5) (.slice vq nq cq) z ?_;simp only [aT];refine wpAnyH_done (by kernel_rfl) ?_ _;have ar:=af ((KD.trans k4).trans k5);have H:=af (aS.g k5);have N:=af aU;have J5:=q.o w5 vp cp vq cq H.o N.o;clear J1 J2 KD k4 k5 aS aU hS x z q b0 b1;go_wp2_with fail;refine J5.mono ?_;rintro e6 w6 ⟨vm,cm,rfl,aQ,k6⟩;have J6:=JN.o w6 vm cm aQ;clear J5 aQ JN;go_wp2_with fail;refine J6.mono ?_;rintro e6 w7 ⟨vn,cn,rfl,an,a0,k7⟩;have F:=af (ar.o.trans (k6.trans k7));have aw:=af (H.o.g (k6.trans k7))
 have ay:=af (N.o.g (k6.trans k7));have av:=af an;have J7:=l.o w7 vn cn an;have c7:=F.o.cellN b2;clear J6 an a0 k6 k7 ar H N l;go_wp2_with fail;refine J7.mono ?_;rintro e6 w8 ⟨rfl,k8⟩;have au:=af (F.o.trans k8);have I:=af (aw.o.g k8);have O:=af (ay.o.g k8);have aV:=af (av.o.g k8);clear J7 k8 F aw ay av;go_wp2_with fail;refine (hR _).mono ?_;rintro e6 w9 ⟨rfl,rfl⟩;have J9:=JI.o w9 vq cq vp cp O.o I.o;clear hR JI;go_wp2_with fail;refine J9.mono ?_;rintro e6 aq ⟨vi,ci,T,rfl,HT,ae,E⟩;have p:=af (au.o.trans E);have G:=af (I.o.g E);have J:=af (O.o.g E)
 have m:Kept aa aq aq.drew:=(ah aa aq).drew;have aW:=p.o.cellN b2;clear J9 ae E au I O aV c7;go_wp2_with fail;refine wp_region_held_drew (S:=fun w'=>w'.cell? ⟨bE,0,none⟩=some (.int .u64 (e:Int))) (by kernel_rfl) aW (fun hS=>?_);refine aM 0 (some 26) (.int .u64 (e:Int)) hS ?_ (y:=dJ fun w h=>by simp [execOp,go_sem,h]);refine aM 1 (some 27) (.slice vp np cp) hS ?_;refine aM 2 (some 28) (.slice vq nq cq) hS ?_;simp only [aT];refine cf 3 (some 29) 145 [.slice vp np cp,.slice vq nq cq] (R.o _ vp cp vq cq (G.o.g m) (J.o.g m)) ?_;rintro e6 a2 ⟨vc,cc,rfl,am,aR⟩;have f:=aR.cellN hS
 refine .inl ⟨_,rfl,f,?_⟩;refine aM 4 (some 30) (.slice vc nc cc) f ?_;refine aM 5 (some 31) (.int .i64 0) f ?_;simp only [aT];refine cf 6 (some 32) 144 [.slice vc nc cc,.int .i64 0] (aY vc nc cc a2) ?_;rintro e6 a3 ⟨rfl,ap⟩;subst ap;refine .inl ⟨_,rfl,f,?_⟩;simp only [aT];refine cf 7 (some 33) 143 [.int .u64 (e:Int),.slice vc nc cc] (JX.o _ vc cc am) ?_;rintro e6 a4 ⟨rfl,a1⟩;exact .inr ⟨_,rfl,rfl,.no hN ((p.o.trans (m.trans aR)).trans a1)⟩

theorem IR (bP bQ bE bK:Nat) (ao bo:OA) (L M D t:Nat) (xs ys:LN) (P Q e B:Nat) (hP:P=val xs) (hQ:Q=val ys) (E:L<=300/\eJ P) (j:M<=300/\eJ Q) (p:jE (cJ P Q) e=0) (hg:Nat.gcd Q P=1) (bb:Nat.gcd (eX P Q) e=1) (a w:World) (hu:Row .u64 w (.slice ao L D) xs) (hv:Row .u64 w (.slice bo M t) ys) (bM:Digs xs) (bN:Digs ys) (b0:w.cell? ⟨bP,0,none⟩=some (.slice ao L D)) (b1:w.cell? ⟨bQ,0,none⟩=some (.slice bo M t)) (b2:w.cell? ⟨bE,0,none⟩=some (.int .u64 (e:Int))) (ha:Kept aa a w) (bL:a.heap.size<=bK) (hB:w.heap.size=B+1) (bx:w.heap[bK]? = some (.cells zeroKey 26 (0,0))) :
  ClZ 138 #[.pointer (some ⟨bP,0,none⟩),.pointer (some ⟨bQ,0,none⟩),.pointer (some ⟨bE,0,none⟩),.pointer (some ⟨bK,0,none⟩)] w fun r w'=>OfEnd L M P Q e B bK a w r w':=by
 have bH:0<P*Q:=gH (by have:=E.2.1;omega) (by have:=j.2.1;omega);obtain ⟨np,ar⟩:=aj (al P)
 obtain ⟨nq,aJ⟩:=aj (al Q)
 obtain ⟨nw,aK⟩:=aj (al (P*Q))
 have bT:=E.2.1;have bW:=j.2.1;have bV:=E.2.2.1;have bf:np<=128:=by rw [ar];exact cV (n:=128) (by have:=E.2.2.2;omega)
 have bh:nq<=128:=by rw [aJ];exact cV (n:=128) (by have:=j.2.2.2;omega)
 have an:P<18446744073709551616^np:=(aB P np).1 (by omega);have ap:Q<18446744073709551616^nq:=(aB Q nq).1 (by omega);have ba:P*Q<18446744073709551616^(np+nq):=by rw [aO];exact mq an ap
 have bj:nw<=np+nq:=by rw [aK];exact (aB _ _).2 ba
 have bI:P*Q<18446744073709551616^nw:=(aB _ nw).1 (by omega);have vP:val (digs P np)=P:=by rw [ax,aA an]
 have vQ:val (digs Q nq)=Q:=by rw [ax,aA ap]
 have vN:val (digs (P*Q) nw)=P*Q:=by rw [ax,aA bI]
 have dP:Digs (digs P np):=ak (by omega) _ _;have dQ:Digs (digs Q nq):=ak (by omega) _ _;have dN:Digs (digs (P*Q) nw):=ak (by omega) _ _;have bc:cJ P Q=digs (P*Q) nw:=by rw [aK];exact kn bH
 have KD:Kept aa w w.drew:=(ah aa w).drew;have J1:=nU ao L D xs P np hP ar E w.drew (hu.g KD) bM;have J2:HzD (∀ W,Kept aa w W->ClZ 139 #[.slice bo M t] W fun e w'=>∃ vo vc,e=.returned (.slice vo nq vc)/\Row .u64 w' (.slice vo nq vc) (digs Q nq)/\Fresh W (.slice vo nq vc)/\Kept aa W w'):=fun W k=>nU bo M t ys Q nq hQ aJ j W (hv.g k) bN
 have ad:HzD (∀ W va ca vb cb,Row .u64 W (.slice va np ca) (digs P np)->Row .u64 W (.slice vb nq cb) (digs Q nq)->ClZ 110 #[.pointer none,.slice va np ca,.slice vb nq cb] W fun e w'=>∃ vo vc,e=.returned (.slice vo (np+nq) vc)/\Row .u64 w' (.slice vo (np+nq) vc) (digs (P*Q) (np+nq))/\Kept aa W w'):=fun W va ca vb cb h1 h2=>by
  refine (Cw va vb np nq ca cb _ _ W h1 h2 dP dQ).mono ?_;rintro e w' ⟨v',rfl,hr,k⟩;rw [vP,vQ] at hr;unfold kD at hr;rw [bZ] at hr;obtain ⟨vo,vn,vc,rfl,hl,_,_,_,_⟩:=hr.open;obtain rfl:np+nq=vn:=by rw [<- hl.o,ag]
  exact ⟨_,_,rfl,hr,k⟩
 have JN:HzD (∀ W v c,Row .u64 W (.slice v (np+nq) c) (digs (P*Q) (np+nq))->ClZ 140 #[.slice v (np+nq) c] W fun e w'=>∃ vo vc,e=.returned (.slice vo nw vc)/\Row .u64 w' (.slice vo nw vc) (digs (P*Q) nw)/\Fresh W (.slice vo nw vc)/\Kept aa W w'):=fun W v c h=>sf v (np+nq) c _ (P*Q) nw (by rw [ax,aA ba]) aK (by omega) W h (ak (by omega) _ _) (by rw [ag];omega)
 have J:HzD (∀ W v c,Row .u64 W (.slice v nw c) (digs (P*Q) nw)->ClZ 141 #[.slice v nw c,.int .u64 (e:Nat)] W fun r w'=>r=.returned (.int .i64 ((jE (digs (P*Q) nw) e:Nat):Int))/\Kept aa W w'):=fun W v c h=>EF v nw c _ e W h dN (by omega)
 have z:=p;rw [bc] at z;have bU:=(oh dN (by rw [ag];omega) e).1 z;rw [vN] at bU;obtain ⟨-,-,bO,cy,bR⟩:=bU;rw [z] at J;have hR:=dH 190;have JI:HzD (∀ W va ca vb cb,Row .u64 W (.slice va nq ca) (digs Q nq)->Row .u64 W (.slice vb np cb) (digs P np)->ClZ 142 #[.slice va nq ca,.slice vb np cb] W fun e w'=>∃ vo vc T,e=.returned (.slice vo np vc)/\HzD (T<P/\Q*T%P=1)/\Row .u64 w' (.slice vo np vc) (digs T np)/\Kept aa W w'):=fun W va ca vb cb h1 h2=>GE va vb nq np ca cb _ _ Q P vQ.symm vP.symm (by omega) bV ar (by omega) (by omega) hg W h1 h2 dQ dP
 obtain ⟨C,hC⟩:=aj (eX P Q)
 obtain ⟨nc,bd⟩:=aj (al C)
 have bF:C<18446744073709551616^(np+nq):=by rw [hC];exact qd an ap (by omega) (by omega)
 have be:nc<=np+nq:=by rw [bd];exact (aB _ _).2 bF
 have am:C<18446744073709551616^nc:=(aB C nc).1 (by omega);have vC:val (digs C nc)=C:=by rw [ax,aA am]
 have bC:2<=C:=by rw [hC];exact xQ bT bW
 have ac:HzD (∀ W va ca vb cb,Row .u64 W (.slice va np ca) (digs P np)->Row .u64 W (.slice vb nq cb) (digs Q nq)->ClZ 145 #[.slice va np ca,.slice vb nq cb] W fun e w'=>∃ vo vc,e=.returned (.tuple #[.slice vo nc vc,.int .i64 0])/\Row .u64 w' (.slice vo nc vc) (digs C nc)/\Kept aa W w'):=fun W va ca vb cb h1 h2=>by
  refine (IJ va vb np nq ca cb _ _ P Q 0 _ vP.symm vQ.symm (by omega) (by omega) (.inl ⟨rfl,by omega,by omega⟩) (by rw [ai rfl,<- hC,<- bd]) W h1 h2 dP dQ).mono ?_;rintro e w' ⟨v',rfl,hr,_,k⟩;obtain ⟨vo,vn,vc,rfl,hl,_,_,_,_⟩:=hr.open;obtain rfl:nc=vn:=by rw [<- hl.o,ag]
  exact ⟨_,_,rfl,hr,k⟩
 have bJ:=fun v n c W=>mT v n c W
 have JX:HzD (∀ W v c,Row .u64 W (.slice v nc c) (digs C nc)->ClZ 143 #[.int .u64 (e:Nat),.slice v nc c] W fun r w'=>∃ vo vc d,r=.returned (.slice vo (nc+1) vc)/\HzD (d<C/\e*d%C=1)/\Row .u64 w' (.slice vo (nc+1) vc) (digs d (nc+1))/\Kept aa W w'):=fun W v c h=>Lt v nc c _ C e vC.symm bC bO bR (by omega) (by omega) (by rw [hC];exact bb) W h (ak (by omega) _ _)
 obtain ⟨m,hm⟩:=aj (max np nq)
 have cz:max (np:Int) (nq:Int)=(m:Int):=by omega
 have cv:C<P*Q:=by
  have h1:C<=(P-1)*(Q-1):=by
   rw [hC,eX];exact cE _ (el _ _)
  have h2:(P-1)*(Q-1)<=(P-1)*Q:=bD _ (by omega);have h3:(P-1)*Q<P*Q:=nF (by omega) (by omega);omega
 have cw:P<18446744073709551616^m:=bg an (bi (by omega) (by omega));have cx:Q<18446744073709551616^m:=bg ap (bi (by omega) (by omega));have F1:HzD (∀ W v c d,d<C->Row .u64 W (.slice v (nc+1) c) (digs d (nc+1))->ClZ 146 #[.slice v (nc+1) c,.int .i64 (nw:Nat)] W fun e w'=>∃ vo vc,e=.returned (.slice vo nw vc)/\Row .u64 w' (.slice vo nw vc) (digs d nw)/\Fresh W (.slice vo nw vc)/\Kept aa W w'):=fun W v c d aq h=>ED v (nc+1) c _ d nw (by rw [ax,aA];exact bg (bG aq am) (bi (by omega) (by omega))) (by omega) (by omega) W h (ak (by omega) _ _)
 have FP:HzD (∀ W v c X,X<=P->Row .u64 W (.slice v np c) (digs X np)->ClZ 146 #[.slice v np c,.int .i64 (m:Nat)] W fun e w'=>∃ vo vc,e=.returned (.slice vo m vc)/\Row .u64 w' (.slice vo m vc) (digs X m)/\Fresh W (.slice vo m vc)/\Kept aa W w'):=fun W v c X hX h=>ED v np c _ X m (by rw [ax,dG]) (by omega) (by omega) W h (ak (by omega) _ _)
 have FQ:HzD (∀ W v c X,X<=Q->Row .u64 W (.slice v nq c) (digs X nq)->ClZ 146 #[.slice v nq c,.int .i64 (m:Nat)] W fun e w'=>∃ vo vc,e=.returned (.slice vo m vc)/\Row .u64 w' (.slice vo m vc) (digs X m)/\Fresh W (.slice vo m vc)/\Kept aa W w'):=fun W v c X hX h=>ED v nq c _ X m (by rw [ax,dG]) (by omega) (by omega) W h (ak (by omega) _ _)
 have LP:HzD (∀ W v c,Row .u64 W (.slice v np c) (digs P np)->ClZ 148 #[.slice v np c] W fun e w'=>∃ vo vc,e=.returned (.slice vo np vc)/\Row .u64 w' (.slice vo np vc) (digs (P-1) np)/\Kept aa W w'):=fun W v c h=>zt v np c _ P vP.symm (by omega) (ag _ _ _) (by omega) W h dP
 have LQ:HzD (∀ W v c,Row .u64 W (.slice v nq c) (digs Q nq)->ClZ 148 #[.slice v nq c] W fun e w'=>∃ vo vc,e=.returned (.slice vo nq vc)/\Row .u64 w' (.slice vo nq vc) (digs (Q-1) nq)/\Kept aa W w'):=fun W v c h=>zt v nq c _ Q vQ.symm (by omega) (ag _ _ _) (by omega) W h dQ
 have RP:HzD (∀ W v c v2 c2 d,d<C->Row .u64 W (.slice v (nc+1) c) (digs d (nc+1))->Row .u64 W (.slice v2 np c2) (digs (P-1) np)->ClZ 147 #[.slice v (nc+1) c,.slice v2 np c2] W fun e w'=>∃ vo vc,e=.returned (.slice vo np vc)/\Row .u64 w' (.slice vo np vc) (digs (d%(P-1)) np)/\Kept aa W w'):=fun W v c v2 c2 d aq h1 h2=>zu v v2 (nc+1) np c c2 _ _ d (P-1) (by rw [ax,aA];exact bg (bG aq am) (bi (by omega) (by omega))) (by rw [ax,dG]) (by omega) (by omega) (by omega) W h1 h2 (ak (by omega) _ _) (ak (by omega) _ _)
 have RQ:HzD (∀ W v c v2 c2 d,d<C->Row .u64 W (.slice v (nc+1) c) (digs d (nc+1))->Row .u64 W (.slice v2 nq c2) (digs (Q-1) nq)->ClZ 147 #[.slice v (nc+1) c,.slice v2 nq c2] W fun e w'=>∃ vo vc,e=.returned (.slice vo nq vc)/\Row .u64 w' (.slice vo nq vc) (digs (d%(Q-1)) nq)/\Kept aa W w'):=fun W v c v2 c2 d aq h1 h2=>zu v v2 (nc+1) nq c c2 _ _ d (Q-1) (by rw [ax,aA];exact bg (bG aq am) (bi (by omega) (by omega))) (by rw [ax,dG]) (by omega) (by omega) (by omega) W h1 h2 (ak (by omega) _ _) (ak (by omega) _ _)
 have cj:HzD (∀ d,d%(P-1)<=P):=fun d=>by have:=aW d (show 0<P-1 by omega);omega
 have ck:HzD (∀ d,d%(Q-1)<=Q):=fun d=>by have:=aW d (show 0<Q-1 by omega);omega
 have bt:=af bc;have V:HzD (m=max (al P) (al Q)):=by rw [hm,ar,aJ];rfl
 have bq:=af hC;have cl:HzD (eS L M P Q e):=⟨⟨E.1,j.1⟩,E.2,j.2,by rw [ft];exact hg,p,by rw [ft];exact bb⟩
 have ce:HzD (∀ W,Kept aa w W->W.heap[bK]? = some (.cells zeroKey 26 (0,0))):=fun W k=>(k.block _ (lt_of_block bx) (fun f=>f)).trans bx
 have cg:HzD (bK<w.heap.size):=lt_of_block bx;have ch:=af hB;have HA:=af ha;have b9:=af bL;have cA:bE≠bK:=fun h=>by
  subst h;rw [cell_of_row w _ 0 _ _ _ bx] at b2;cases b2
 clear bO cy bR hg bb hC bd bF be am vC bC hm cv cw cx ha bL hB bx hu hv bM bN hP hQ E j bH ar aJ aK bT bW bV bf bh an ap ba bj bI vP vQ vN dP dQ dN bc z p;delta ClZ;go_in;go_wp2_with fail;refine wp_region_held_drew (S:=fun w'=>w'.cell? ⟨bP,0,none⟩=some (.slice ao L D)/\w'.cell? ⟨bQ,0,none⟩=some (.slice bo M t)) (by kernel_rfl) ⟨b0,b1⟩ (fun hS=>?_);refine aM 0 (some 10) (.slice ao L D) hS ?_ (y:=dJ fun w h=>by simp [execOp,go_sem,h.1]);refine aM 2 (some 12) (.slice bo M t) hS ?_ (y:=dJ fun w h=>by simp [execOp,go_sem,h.2]);simp only [aT]
 refine cf 1 (some 11) 139 [.slice ao L D] (J1) ?_;rintro e w4 ⟨vp,cp,rfl,b3,_,k4⟩;have aH:w4.cell? ⟨bP,0,none⟩=some (.slice ao L D)/\w4.cell? ⟨bQ,0,none⟩=some (.slice bo M t):=⟨k4.cellN hS.1,k4.cellN hS.2⟩
 refine .inl ⟨_,rfl,aH,?_⟩;simp only [aT];refine cf 3 (some 13) 139 [.slice bo M t] (J2.o w4 (KD.trans k4)) ?_;rintro e w5 ⟨vq,cq,rfl,b4,_,k5⟩;have aI:w5.cell? ⟨bP,0,none⟩=some (.slice ao L D)/\w5.cell? ⟨bQ,0,none⟩=some (.slice bo M t):=⟨k5.cellN aH.1,k5.cellN aH.2⟩
 refine .inl ⟨_,rfl,aI,?_⟩;refine aM 4 (some 4) (.slice vp np cp) aI ?_;refine aM 5 (some 5) (.slice vq nq cq) aI ?_;simp only [aT];refine wpAnyH_done (by kernel_rfl) ?_ _;have aU:=af ((KD.trans k4).trans k5);have aZ:=af (b3.g k5);have a1:=af b4;have J5:=ad.o w5 vp cp vq cq aZ.o a1.o;clear J1 J2 KD k4 k5 b3 b4 hS aH aI ad b0 b1;go_wp2_with fail;refine J5.mono ?_;rintro e6 w6 ⟨vm,cm,rfl,bX,k6⟩;have J6:=JN.o w6 vm cm bX;clear J5 bX JN;go_wp2_with fail;refine J6.mono ?_;rintro e6 w7 ⟨vn,cn,rfl,bk,bS,k7⟩;have aV:=af (aU.o.trans (k6.trans k7));have bw:=af (aZ.o.g (k6.trans k7))
 have bz:=af (a1.o.g (k6.trans k7));have bu:=af bk;have br:=af (bS.b (aU.o.trans k6));have J7:=J.o w7 vn cn bk;have c7:=aV.o.cellN b2;clear J6 bk bS k6 k7 aU aZ a1 J;go_wp2_with fail;refine J7.mono ?_;rintro e6 w8 ⟨rfl,k8⟩;have bs:=af (aV.o.trans k8);have a0:=af (bw.o.g k8);have a2:=af (bz.o.g k8);have bv:=af (bu.o.g k8);clear J7 k8 aV bw bz bu;go_wp2_with fail;refine (hR _).mono ?_;rintro e6 w9 ⟨rfl,rfl⟩;have J9:=JI.o w9 vq cq vp cp a2.o a0.o;clear hR JI;go_wp2_with fail;refine J9.mono ?_;rintro e6 bn ⟨vi,ci,T,rfl,HT,au,ay⟩;have G:=af (bs.o.trans ay);have H:=af (a0.o.g ay)
 have I:=af (a2.o.g ay);have Y:=af (bv.o.g ay);have U:=af au;have o:Kept aa bn bn.drew:=(ah aa bn).drew;have bA:=G.o.cellN b2;clear J9 au ay bs a0 a2 bv c7;go_wp2_with fail;refine wp_region_held_drew (S:=fun w'=>w'.cell? ⟨bE,0,none⟩=some (.int .u64 (e:Int))) (by kernel_rfl) bA (fun hS=>?_);refine aM 0 (some 26) (.int .u64 (e:Int)) hS ?_ (y:=dJ fun w h=>by simp [execOp,go_sem,h]);refine aM 1 (some 27) (.slice vp np cp) hS ?_;refine aM 2 (some 28) (.slice vq nq cq) hS ?_;simp only [aT]
 refine cf 3 (some 29) 145 [.slice vp np cp,.slice vq nq cq] (ac.o _ vp cp vq cq (H.o.g o) (I.o.g o)) ?_;rintro e6 cD ⟨vc,cc,rfl,av,aL⟩;have l:=aL.cellN hS;refine .inl ⟨_,rfl,l,?_⟩;refine aM 4 (some 30) (.slice vc nc cc) l ?_;refine aM 5 (some 31) (.int .i64 0) l ?_;simp only [aT];refine cf 6 (some 32) 144 [.slice vc nc cc,.int .i64 0] (bJ vc nc cc cD) ?_;rintro e6 cT ⟨rfl,bl⟩;subst bl;refine .inl ⟨_,rfl,l,?_⟩;simp only [aT];refine cf 7 (some 33) 143 [.int .u64 (e:Int),.slice vc nc cc] (JX.o _ vc cc av) ?_;rintro e6 bp ⟨vd,cd,d,rfl,HD,aw,aN⟩;have N:=aN.cellN l
 refine .inl ⟨_,rfl,N,?_⟩;refine aM 8 (some 8) (.slice vd (nc+1) cd) N ?_;simp only [aT];refine wpAnyH_done (by kernel_rfl) ?_ _;have b:=af (G.o.trans ((o.trans aL).trans aN));have q:=(o.trans aL).trans aN;have Z:=af (H.o.g q);have ab:=af (I.o.g q);have aX:=af (Y.o.g q);have aS:=af (U.o.g q);have F:=af aw;have s:=b.o.cellN b2;clear G H I Y U o aL aN q av aw hS l N bA ac JX bJ;have a3:Kept aa bp bp.drew:=(ah aa bp).drew;go_wp2_with fail;go_region_held3 (fun w'=>w'.cell? ⟨bE,0,none⟩=some (.int .u64 (e:Int)))
  (((try dsimp only);first | (with_reducible assumption) | (with_reducible refine IT ?_ ?_;(with_reducible assumption);(dsimp only;exact cA)) | (go_keep;done)))
  (first
  | (go_at_call 146;refine (FP.o _ vi ci T (eI HT.o.1) (aS.o.g aG)).mono ?_;rintro e6 cF ⟨b7,b5,rfl,cC,cu,R⟩;have ae:=aG.trans R;have cR:=ae.cellN s;have g:=ce.o cF (b.o.trans ae);obtain ⟨g0,g1,g2,g3,g4,g5,g6,g7⟩:=aY g;have q0:=cK g 0;have q1:=cK g 1;have q2:=cK g 2;have q3:=cK g 3;have q4:=cK g 4;have q5:=cK g 5;have q6:=cK g 6;have q7:=cK g 7)
  | (go_at_call 146;refine (FQ.o _ z8 y8 _ (ck.o d) s8).mono ?_;rintro e6 c4 ⟨z9,y9,rfl,s9,f9,aD⟩;have aG:=a9.trans aD;have cQ:=aG.cellN s)
  | (go_at_call 147;refine (RQ.o _ vd cd z7 y7 d HD.o.1 (F.o.g a8) s7).mono ?_;rintro e6 c3 ⟨z8,y8,rfl,s8,aC⟩;have a9:=a8.trans aC;have cP:=a9.cellN s)
  | (go_at_call 148;refine (LQ.o _ vq cq (ab.o.g a7)).mono ?_;rintro e6 c1 ⟨z7,y7,rfl,s7,az⟩;have a8:=a7.trans az;have cO:=a8.cellN s)
  | (go_at_call 146;refine (FP.o _ z5 y5 _ (cj.o d) s5).mono ?_;rintro e6 c0 ⟨z6,y6,rfl,s6,f6,aR⟩;have a7:=a6.trans aR;have cN:=a7.cellN s)
  | (go_at_call 147;refine (RP.o _ vd cd z4 y4 d HD.o.1 (F.o.g a5) s4).mono ?_;rintro e6 cZ ⟨z5,y5,rfl,s5,aQ⟩;have a6:=a5.trans aQ;have cM:=a6.cellN s)
  | (go_at_call 148;refine (LP.o _ vp cp (Z.o.g a4)).mono ?_;rintro e6 cY ⟨z4,y4,rfl,s4,aP⟩;have a5:=a4.trans aP;have cL:=a5.cellN s)
  | (go_at_call 146;refine (FQ.o _ vq cq Q (leR _) (ab.o.g aF)).mono ?_;rintro e6 cX ⟨z3,y3,rfl,s3,f3,bm⟩;have a4:=aF.trans bm;have cI:=a4.cellN s)
  | (go_at_call 146;refine (FP.o _ vp cp P (leR _) (Z.o.g aE)).mono ?_;rintro e6 cW ⟨z2,y2,rfl,s2,f2,bY⟩;have aF:=aE.trans bY;have cH:=aF.cellN s)
  | (go_at_call 146;refine (F1.o _ vd cd d HD.o.1 (F.o.g a3)).mono ?_;rintro e6 cU ⟨z1,y1,rfl,s1,f1,cB⟩;have aE:=a3.trans cB;have cG:=aE.cellN s))
 go_end0
 have e1:Fresh w (.slice z1 nw y1):=fun x hx=>by have h1:=f1 x hx;have h2:=(b.o.trans a3).size;omega
 have e2:Fresh w (.slice z2 m y2):=f2.b (b.o.trans aE);have e3:Fresh w (.slice z3 m y3):=f3.b (b.o.trans aF);have e6:Fresh w (.slice z6 m y6):=f6.b (b.o.trans a6);have e9:Fresh w (.slice z9 m y9):=f9.b (b.o.trans a9);have bB:Fresh w (.slice b7 m b5):=cu.b (b.o.trans aG);obtain ⟨b6,b8,A⟩:=mz (HA.o.trans (b.o.trans ae)) b9.o g (.slice vn nw cn) (.int .u64 (e:Nat)) (.slice z1 nw y1) (.slice z2 m y2) (.slice z3 m y3) (.slice z6 m y6) (.slice z9 m y9) (.slice b7 m b5);unfold oj at b6 b8 A;have i:∀ v,Fresh w v->∀ x,v.ownBlock=some x->B<x:=fun v h x hx=>by have h1:=h x hx;have h2:=ch.o;omega
 have O:∀ v,Fresh w v->∀ x,v.ownBlock=some x->¬ x=bK:=fun v h x hx cS=>by have h1:=h x hx;have h2:=cg.o;omega
 have co:=bY.trans (bm.trans (aP.trans (aQ.trans (aR.trans (az.trans (aC.trans (aD.trans R)))))));have cr:=bm.trans (aP.trans (aQ.trans (aR.trans (az.trans (aC.trans (aD.trans R))))));have cs:=aP.trans (aQ.trans (aR.trans (az.trans (aC.trans (aD.trans R)))));have ct:=az.trans (aC.trans (aD.trans R));refine .inl ⟨cl.o,rfl,_,b6,⟨_,_,_,_,_,_,_,d,T,rfl,?_,?_,?_,?_,?_,?_,?_,?_,HT.o.1,HT.o.2,?_⟩,zw (i _ br.o) (i _ e1) (i _ e2) (i _ e3) (i _ e6) (i _ e9) (i _ bB),(b.o.trans ae).any.trans A,b8⟩
 ·rw [bt.o];exact (aX.o.g ae).kept A (O _ br.o)
 ·rw [<- bq.o];exact HD.o.1
 ·rw [<- bq.o];exact HD.o.2
 ·rw [bt.o,ag];exact (s1.g co).kept A (O _ e1)
 ·rw [<- V.o];exact (s2.g cr).kept A (O _ e2)
 ·rw [<- V.o];exact (s3.g cs).kept A (O _ e3)
 ·rw [<- V.o];exact (s6.g ct).kept A (O _ e6)
 ·rw [<- V.o];exact (s9.g R).kept A (O _ e9)
 ·rw [<- V.o];exact cC.kept A (O _ bB)

theorem Lv (u v:Value) (xs ys:LN) (w:World) (hu:Row .u64 w u xs) (hv:Row .u64 w v ys) (a:Digs xs) (b:Digs ys) (hL:xs.length<=100000000) (hM:ys.length<=100000000) :
  ClZ 112 #[.pointer none,u,v] w fun e w'=>e=.returned (.int .u64 (dD (decide (val xs<val ys)):Nat))/\Kept aa w w':=by
 refine (sj none u v xs ys w (TrRoom.none w 1 (by omega)) (RowT.none hu) (RowT.none hv) a b hL hM).mono ?_;rintro e w' ⟨rfl,o',hd⟩;exact ⟨rfl,hd.none.2⟩

theorem EH (u v:Value) (xs ys:LN) (w:World) (hu:Row .u64 w u xs) (hv:Row .u64 w v ys) (a:Digs xs) (b:Digs ys) (hL:xs.length<=100000000) (hM:ys.length<=100000000) :
  ClZ 66 #[.pointer none,u,v] w fun e w'=>e=.returned (.int .u64 (dD (decide (val xs=val ys)):Nat))/\Kept aa w w':=by
 refine (qG none u v xs ys w (TrRoom.none w 1 (by omega)) (RowT.none hu) (RowT.none hv) a b hL hM).mono ?_;rintro e w' ⟨rfl,o',hd⟩;exact ⟨rfl,hd.none.2⟩

theorem kOf (ao bo:OA) (L M c g:Nat) (xs ys:LN) (P Q e:Nat) (w:World) (hP:P=val xs) (hQ:Q=val ys) (hu:Row .u64 w (.slice ao L c) xs) (hv:Row .u64 w (.slice bo M g) ys) (h:Digs xs) (j:Digs ys) (hL:L<=1000) (hM:M<=1000) :
  ClZ 89 #[.slice ao L c,.slice bo M g,.int .u64 (e:Nat)] w fun r w'=>∃ kv E,r=.returned (.tuple #[.agg kv,.int .i64 ((E:Nat):Int)])/\((E=0/\eS L M P Q e/\KeyAt w' P Q e kv)\/(E=190/\¬ eS L M P Q e/\kv=zeroKey))/\kQ w.heap.size kv/\Kept aa w w':=by
 have he:∀ args w,(callFunc 138 args).run prog w=.ok (.enter 138 args) w:=fun _ _=>by simp [go_sem]
 have V:=xH w (.slice ao L c) (.slice bo M g) (.int .u64 (e:Nat)) 23 23 24;obtain ⟨W0,J⟩:=aj (((w.alloc (.cells #[.slice ao L c] 23)).alloc (.cells #[.slice bo M g] 23)).alloc (.cells #[.int .u64 (e:Nat)] 24))
 rw [<- J] at V;obtain ⟨k0,x1,x2,x3,hs⟩:=V;obtain ⟨W,hW⟩:=aj (W0.alloc (.cells zeroKey 26))
 have kW:Kept aa W0 W:=by rw [hW];exact (ah aa W0).alloc _
 have N:W.heap.size=W0.heap.size+1:=by rw [hW];simp
 have bK:W.heap[W0.heap.size]? = some (.cells zeroKey 26 (0,0)):=by rw [hW];exact heap_alloc_new _ _
 rw [hs] at bK N;have kE:=(ah aa W).alloc (.cells #[.int .i64 0] 35);have xe:Box (W.alloc (.cells #[.int .i64 0] 35)) W.heap.size (.int .i64 0) 35:=Box.new W (.int .i64 0) 35;have Z:(W.alloc (.cells #[.int .i64 0] 35)).heap.size=W.heap.size+1:=by simp
 have k1:Kept aa w (W.alloc (.cells #[.int .i64 0] 35)):=(k0.trans kW).trans kE;have o:(W.alloc (.cells #[.int .i64 0] 35)).heap[w.heap.size+1+1+1]? = some (.cells zeroKey 26 (0,0)):=au bK;have c0:=((x1.g kW).g kE).cell;have c1:=((x2.g kW).g kE).cell;have c2:=((x3.g kW).g kE).cell;have k:ClZ 138 #[.pointer (some ⟨w.heap.size,0,none⟩),.pointer (some ⟨w.heap.size+1,0,none⟩),.pointer (some ⟨w.heap.size+1+1,0,none⟩),.pointer (some ⟨w.heap.size+1+1+1,0,none⟩)] (W.alloc (.cells #[.int .i64 0] 35)) fun r w'=>OfEnd L M P Q e W.heap.size (w.heap.size+1+1+1) w (W.alloc (.cells #[.int .i64 0] 35)) r w':=by
  by_cases hA:L<=300/\eJ P
  ·by_cases hB:M<=300/\eJ Q
   ·by_cases hC:jE (cJ P Q) e=0
    ·by_cases hD:Nat.gcd Q P=1
     ·by_cases hE:Nat.gcd (eX P Q) e=1
      ·exact IR _ _ _ _ ao bo L M c g xs ys P Q e _ hP hQ hA hB hC hD hE _ _ (hu.g k1) (hv.g k1) h j c0 c1 c2 k1 (by omega) Z o
      ·exact IQ _ _ _ _ ao bo L M c g xs ys P Q e _ hP hQ hA hB hC hD hE _ _ (hu.g k1) (hv.g k1) h j c0 c1 c2
     ·exact IP _ _ _ _ ao bo L M c g xs ys P Q e _ hP hQ hA hB hC hD _ _ (hu.g k1) (hv.g k1) h j c0 c1 c2
    ·exact IN _ _ _ _ ao bo L M c g xs ys P Q e _ hP hQ hA hB hC _ _ (hu.g k1) (hv.g k1) h j c0 c1 c2
   ·exact IM _ _ _ _ ao bo L M c g xs ys P Q e _ hP hQ hM hA hB _ _ (hu.g k1) (hv.g k1) h j c0 c1
  ·exact IL _ _ _ _ ao bo L M c g xs P Q e _ hP hL hA _ _ (hu.g k1) h c0 c1
 have T:=nT 138 _ W (fun n W'=>(n=0/\eS L M P Q e/\∃ kv,W'.heap[w.heap.size+1+1+1]? = some (.cells kv 26 (0,0))/\KeyAt W' P Q e kv/\kQ W.heap.size kv/\Kept aa w W')\/(n=190/\¬ eS L M P Q e/\W'.heap[w.heap.size+1+1+1]? = some (.cells zeroKey 26 (0,0))/\Kept aa w W')) he (k.mono (by
  rintro r w' (⟨C,rfl,kv,h1,h2,h3,h4,h5⟩ | ⟨B,rfl,h1⟩)
  ·exact ⟨xe.kept h4 (by omega),.inl ⟨rfl,.inl ⟨rfl,C,kv,h1,h2,h3,h5⟩⟩⟩
  ·exact ⟨xe.g h1,.inr ⟨_,rfl,.inr ⟨rfl,B,(h1.block _ (lt_of_block o) (fun f=>f)).trans o,k1.trans h1⟩⟩⟩))
 have ak:=af J;have HW:=af hW;have i:=af N;have ai:=af hs;clear hu hv h j hP hQ hL hM k0 kW kE k1 x1 x2 x3 xe hs Z J hW N bK o c0 c1 c2 he k;unfold zeroKey at HW;delta ClZ;go_in;go_wp2_with (first | rw [<- ak.o] | rw [<- HW.o]);rw [ai.o];refine T.mono ?_;rintro r w' ⟨n,w1,rfl,⟨hq,U⟩,rfl⟩;clear T;rcases hq with ⟨rfl,C,kv,hx,A,hfar,hk⟩ | ⟨rfl,B,hx,hk⟩
 ·obtain ⟨vn,vd,vp,vq,am,an,ap,d,u,rfl,rn,X,Y,rd,rp,rq,O,R,ab,ac,S⟩:=A;obtain ⟨no,nl,nc,rfl,-,-,-,-,-⟩:=rn.open;obtain ⟨dO,dl,dc,rfl,-,-,-,-,-⟩:=rd.open;obtain ⟨po,pl,pc,rfl,-,-,-,-,-⟩:=rp.open;obtain ⟨qo,ql,qc,rfl,-,-,-,-,-⟩:=rq.open;obtain ⟨s,q,p,rfl,-,-,-,-,-⟩:=O.open;obtain ⟨z,y,t,rfl,-,-,-,-,-⟩:=R.open;obtain ⟨G,F,D,rfl,-,-,-,-,-⟩:=S.open;have A:KeyAt w1 P Q e #[.slice no nl nc,.int .u64 (e:Nat),.slice dO dl dc,.slice po pl pc,.slice qo ql qc,.slice s q p,.slice z y t,.slice G F D]:=⟨_,_,_,_,_,_,_,d,u,rfl,rn,X,Y,rd,rp,rq,O,R,ab,ac,S⟩
  have kb:=aE w1 W.heap.size (.int .i64 0);have l:=A.kept kb (fun v hv x hx al=>by have:=hfar v hv x hx;omega);have b:=gW hx (a:=⟨W.heap.size,0,none⟩) (by show _≠W.heap.size;have:=i.o;omega) (.int .i64 0);have m:=hk.next kb (fun x hx e=>by have:=i.o;omega)
  obtain ⟨z1,z2,z3⟩:=mz m (by omega:w.heap.size<=w.heap.size+1+1+1) b (.slice no nl nc) (.int .u64 (e:Nat)) (.slice dO dl dc) (.slice po pl pc) (.slice qo ql qc) (.slice s q p) (.slice z y t) (.slice G F D);unfold oj at z1 z2 z3;have ad:=af (l.kept z3 (fun v hv x hx al=>by have h1:=hfar v hv x hx;have h2:=i.o;omega));have H:HzD (kQ w.heap.size #[.slice no nl nc,.int .u64 (e:Nat),.slice dO dl dc,.slice po pl pc,.slice qo ql qc,.slice s q p,.slice z y t,.slice G F D]):=fun v hv x hx=>by have h1:=hfar v hv x hx;have h2:=i.o;omega
  have I:=af z2;obtain ⟨r0,r1,r2,r3,r4,r5,r6,r7⟩:=aY z1;obtain ⟨c0,c1,c2,c3,c4,c5,c6,c7⟩:=aY b;have f0:=cK b 0;have f1:=cK b 1;have f2:=cK b 2;have f3:=cK b 3;have f4:=cK b 4;have f5:=cK b 5;have f6:=cK b 6;have f7:=cK b 7;have ag:=af C;clear rn rd rp rq O R S A kb l hx hk m hfar b z1 z2 z3 U C X Y ab ac;generalize w1.setCell ⟨W.heap.size,0,none⟩ (.int .i64 0)=W2 at *;go_wp2_with fail
  exact bodyPost_ret (v:=.tuple #[.agg #[.slice no nl nc,.int .u64 (e:Nat),.slice dO dl dc,.slice po pl pc,.slice qo ql qc,.slice s q p,.slice z y t,.slice G F D],.int .i64 0]) (by simp [results,results89,go_sem,r0,r1,r2,r3,r4,r5,r6,r7]) rfl ⟨_,0,rfl,.inl ⟨rfl,ag.o,ad.o⟩,H.o,I.o⟩
 ·have kb:=aE w1 W.heap.size (.int .i64 190);have b:=gW hx (a:=⟨W.heap.size,0,none⟩) (by show _≠W.heap.size;have:=i.o;omega) (.int .i64 190);have m:=hk.next kb (fun x hx e=>by have:=i.o;omega)
  obtain ⟨z1,z2,-⟩:=mz m (by omega:w.heap.size<=w.heap.size+1+1+1) b (.slice none 0 0) (.int .u64 0) (.slice none 0 0) (.slice none 0 0) (.slice none 0 0) (.slice none 0 0) (.slice none 0 0) (.slice none 0 0);unfold oj at z1 z2;have I:=af z2;obtain ⟨r0,r1,r2,r3,r4,r5,r6,r7⟩:=aY z1;obtain ⟨c0,c1,c2,c3,c4,c5,c6,c7⟩:=aY b;have f0:=cK b 0;have f1:=cK b 1;have f2:=cK b 2;have f3:=cK b 3;have f4:=cK b 4;have f5:=cK b 5;have f6:=cK b 6;have f7:=cK b 7;have ae:=af B;clear kb hx hk m b z1 z2 U B;generalize w1.setCell ⟨W.heap.size,0,none⟩ (.int .i64 190)=W2 at *;go_wp2_with fail
  exact bodyPost_ret (v:=.tuple #[.agg zeroKey,.int .i64 190]) (by simp [results,results89,go_sem,r0,r1,r2,r3,r4,r5,r6,r7]) rfl ⟨_,190,rfl,.inr ⟨rfl,ae.o,rfl⟩,ei _,I.o⟩

theorem GC (b n:Nat) (hn:n<=1000) (A A':Nat->OA) (F G F' G':Nat->Nat) (X Y:Nat->LN) (w:World)
  (hc:∀ i,i<n->w.cell? ⟨b,i*2,none⟩=some (.slice (A i) (F i) (G i))/\w.cell? ⟨b,i*2+1,none⟩=some (.slice (A' i) (F' i) (G' i)))
  (hr:∀ i,i<n->Row .u64 w (.slice (A i) (F i) (G i)) (X i)/\Row .u64 w (.slice (A' i) (F' i) (G' i)) (Y i)/\Digs (X i)/\Digs (Y i)/\(Y i).length<=1000) (R:Bool) (hR:R=true↔∀ i,i<n->X i=Y i) :
  ClZ 91 #[.slice (some ⟨b,0,none⟩) n n] w fun e w'=>e=.returned (.bool R)/\Kept aa w w':=by
 have HC:=af hc;have HR:=af hr;have C:=af hR;clear hc hr hR;delta ClZ;go_in;go_wp2_with fail;go_loopw [7] (fun i wr=>∃ k:Nat,k<=n/\i=.int .i64 (k:Int)/\HzD (∀ j,j<k->X j=Y j)/\HzD (Kept aa w wr)) (fun i _=>((n:Int)-intOf i).toNat)
 case atStart=>exact ⟨0,aP _,rfl,fun j hj=>by omega,ah _ _⟩
 case round=>
  obtain ⟨k,hk,rfl,l,HK⟩:=hrel;by_cases hkn:k<n
  ·have E:(k:Int)<(n:Int):=by omega
   obtain ⟨q0,q1⟩:=HC.o k hkn;have p0:=HK.o.cellN q0;have p1:=HK.o.cellN q1;obtain ⟨rx,ry,dx,dy,y⟩:=HR.o k hkn;have rx:=rx.g HK.o;have ry:=ry.g HK.o;obtain ⟨xs,d⟩:=aj (X k)
   obtain ⟨ys,f⟩:=aj (Y k)
   obtain ⟨ao,q⟩:=aj (A k)
   obtain ⟨bo,r⟩:=aj (A' k)
   obtain ⟨la,v⟩:=aj (F k)
   obtain ⟨ca,s⟩:=aj (G k)
   obtain ⟨lb,x⟩:=aj (F' k)
   obtain ⟨cb,t⟩:=aj (G' k)
   rw [<- q,<- v,<- s] at p0 rx;rw [<- r,<- x,<- t] at p1 ry;rw [<- d] at rx dx;rw [<- f] at ry dy y;have p:HzD (xs=ys->∀ j,j<k+1->X j=Y j):=fun h j hj=>by
    by_cases e:j=k
    ·subst e;rw [<- d,<- f];exact h
    ·exact l.o j (by omega)
   have g:HzD (xs≠ys->R=false):=fun h=>by
    cases e:R with
    | false=>rfl
    | true=>exact absurd (by rw [d,f];exact C.o.1 e k hkn) h
   obtain ⟨_,_,_,e1,c,-,-,-,-⟩:=rx.open;cases e1
   obtain ⟨_,_,_,e1,a,-,-,-,-⟩:=ry.open;cases e1
   obtain ⟨W,hW⟩:=aj (wr.alloc (.cells #[.slice ao la ca,.slice bo lb cb] 131))
   have kW:Kept aa wr W:=by rw [hW];exact (ah aa wr).alloc _
   have hb:W.heap[wr.heap.size]? = some (.cells #[.slice ao la ca,.slice bo lb cb] 131 (0,0)):=by rw [hW];exact heap_alloc_new _ _
   have s0:W.cell? ⟨wr.heap.size,0,none⟩=some (.slice ao la ca):=(cell_of_row W _ 0 _ _ _ hb).trans rfl;have s1:W.cell? ⟨wr.heap.size,1,none⟩=some (.slice bo lb cb):=(cell_of_row W _ 1 _ _ _ hb).trans rfl;have HW:=af hW;have B:=af (HK.o.trans kW);have m:=af c.o;have o:=af a.o;by_cases hlen:la=lb
   ·have J:=EH _ _ xs ys W (rx.g kW) (ry.g kW) dx dy (by rw [c.o,hlen,<- a.o];omega) (by omega);have g0:¬ (la:Int)≠(lb:Int):=by omega
    have g1:(la:Int)=(lb:Int):=by omega
    have g2:((la:Int) != (lb:Int))=false:=by simpa using g1
    by_cases hv:val xs=val ys
    ·have D:xs=ys:=by
      have i1:xs=digs (val xs) la:=cN (by omega) dx c.o (by rw [aA];rw [<- c.o];exact aC (by omega) dx);have i2:ys=digs (val ys) la:=cN (by omega) dy (by rw [a.o,hlen]) (by rw [aA];rw [hlen,<- a.o];exact aC (by omega) dy);rw [i1,i2,hv]
     have HT:=af (p.o D);rw [dR hv] at J;have J':ClZ 66 #[.pointer none,.slice ao la ca,.slice bo lb cb] W fun e w'=>e=.returned (.int .u64 1)/\Kept aa W w':=J
     clear rx ry dx dy y hW kW hb c a hv J q0 q1 d f q r v s x t p g m o D hlen;go_wp2_with (rw [<- HW.o]);refine J'.mono ?_;rintro e w5 ⟨rfl,k5⟩;have z:=af (B.o.trans k5);clear J' k5 g0 g1 g2;go_wp2_with fail;go_roundw
     case rel=>exact ⟨k+1,by omega,by go_num,HT.o,z.o⟩
     case measure=>simp [intOf];omega
    ·have HF:=af (g.o (fun h=>hv (by rw [h])));rw [cG hv] at J;have J':ClZ 66 #[.pointer none,.slice ao la ca,.slice bo lb cb] W fun e w'=>e=.returned (.int .u64 0)/\Kept aa W w':=J
     clear rx ry dx dy y hW kW hb c a hv J q0 q1 d f q r v s x t p g m o hlen;go_wp2_with (rw [<- HW.o]);refine J'.mono ?_;rintro e w5 ⟨rfl,k5⟩;have z:=af (B.o.trans k5);clear J' k5 g0 g1 g2;go_wp2_with fail;go_ret;exact ⟨by rw [HF.o];rfl,z.o⟩
   ·have HF:=af (g.o (fun h=>hlen (by rw [<- m.o,<- o.o,h])));have g1:¬ (la:Int)=(lb:Int):=by omega
    have g2:((la:Int) != (lb:Int))=true:=by simp;omega
    clear rx ry dx dy y hW kW hb c a q0 q1 d f q r v s x t p g m o hlen;go_wp2_with (rw [<- HW.o]);go_ret;exact ⟨by rw [HF.o];rfl,B.o⟩
  ·have E:¬ (k:Int)<(n:Int):=by omega
   have e:k=n:=by omega
   subst e;have HT:HzD (R=true):=C.o.2 l.o;go_wp2_with fail;go_ret;exact ⟨by rw [HT.o];rfl,HK.o⟩

theorem II (b:Nat) (s:KS) (l:KL) (E:Nat) (hE:(E=0/\KeyGood l.n l.d l.p l.q l.dp l.dq l.qi s.en)\/(E=190/\¬ KeyGood l.n l.d l.p l.q l.dp l.dq l.qi s.en)) (O:s.pl<=1000) (P:s.ql<=1000) (w:World) (hr:s.Rows w l) (hd:l.Digs) (hx:w.heap[b]? = some (.cells s.v 26 (0,0))) :
  ClZ 87 #[.pointer (some ⟨b,0,none⟩)] w fun r w'=>AttE E r/\Kept aa w w':=by
 obtain ⟨_,_,_,e1,I,-,-,-,-⟩:=hr.p.open;cases e1
 obtain ⟨_,_,_,e1,J,-,-,-,-⟩:=hr.q.open;cases e1
 have hO:=(kOf s.po s.qo s.pl s.ql s.pc s.qc l.p l.q _ _ s.en w rfl rfl hr.p hr.q hd.p hd.q O P).mono fun _ _ h=>LB h
 have JC:HzD (∀ W,Kept aa w W->W.cell? ⟨b,0,none⟩=some (.slice s.no s.nl s.nc)/\W.cell? ⟨b,1,none⟩=some (.int .u64 ((s.en:Nat):Int))/\W.cell? ⟨b,2,none⟩=some (.slice s.dO s.dl s.dc)/\W.cell? ⟨b,3,none⟩=some (.slice s.po s.pl s.pc)/\W.cell? ⟨b,4,none⟩=some (.slice s.qo s.ql s.qc)/\W.cell? ⟨b,5,none⟩=some (.slice s.dpo s.dpl s.dpc)/\W.cell? ⟨b,6,none⟩=some (.slice s.dqo s.dql s.dqc)/\W.cell? ⟨b,7,none⟩=some (.slice s.qio s.qil s.qic)):=fun W k=>aY ((k.block _ (lt_of_block hx) (fun f=>f)).trans hx)
 obtain ⟨c0,c1,c2,c3,c4,c5,c6,c7⟩:=JC.o w (ah _ _);have hG:∀ (E2 en:Nat) (m:KL),KeySays s.pl s.ql (val l.p) (val l.q) s.en E2 en m->(KeyGood l.n l.d l.p l.q l.dp l.dq l.qi s.en↔E2=0/\l=m):=fun E2 en m hs=>by
  constructor
  ·rintro ⟨c,d,u,a⟩;rw [I.o,J.o] at c;have h0:KeySays s.pl s.ql (val l.p) (val l.q) s.en 0 s.en l:=.inl ⟨rfl,c,rfl,d,u,a⟩;obtain ⟨h1,_,h2⟩:=hs.uniq h0;exact ⟨h1.symm,h2⟩
  ·rintro ⟨rfl,rfl⟩;rcases hs with ⟨_,c,rfl,d,u,a⟩ | ⟨h,_⟩
   ·exact ⟨by rw [I.o,J.o];exact c,d,u,a⟩
   ·exact absurd h (by decide)
 have HG:=af hG;have HE:=af hE;have HR:=af hr;have HD:=af hd;clear hr hd hx hE I J hG O P;delta ClZ;go_in;go_wp2_with fail;refine hO.mono ?_;rintro r w1 ⟨t,E2,rfl,m,Q,S,_,k1⟩;have x:=af S;have F:=af Q;have A:=af k1;clear hO c0 c1 c2 c3 c4 c5 c6 c7 Q k1;unfold KS.v;rcases S with ⟨rfl,-,-,d,u,a⟩ | ⟨rfl,hno,-,-⟩
 ·have M:HzD (m.n.length<=1000/\m.d.length<=1000/\m.p.length<=1000/\m.q.length<=1000/\m.dp.length<=1000/\m.dq.length<=1000/\m.qi.length<=1000):=by
   obtain ⟨c⟩:Nonempty (eS s.pl s.ql (val l.p) (val l.q) s.en):=by
    rcases x.o with ⟨_,h,_⟩ | ⟨h,_⟩
    ·exact ⟨h⟩
    ·exact absurd h (by decide)
   obtain ⟨_,_,_,_,a1,a2,a3,a4,a5,a6,a7⟩:=a;have Y:al (val l.p)<=128:=cV (n:=128) (by have:=c.2.1.2.2;omega);have Z:al (val l.q)<=128:=cV (n:=128) (by have:=c.2.2.1.2.2;omega);have T:(cJ (val l.p) (val l.q)).length<=1000:=by
    have h:=c.2.2.2.2.1;unfold jE at h;by_cases hc:1000<(cJ (val l.p) (val l.q)).length
    ·rw [ai (.inr (.inl hc))] at h;exact absurd h (by decide)
    ·omega
   rw [a1,a2,a3,a4,a5,a6,a7];simp only [ag];refine ⟨T,T,?_,?_,?_,?_,?_⟩ <;> exact Nat.max_le.2 ⟨by omega,by omega⟩
  have J2:=GN t.no t.dO t.po t.qo t.dpo t.dqo t.qio t.nl t.nc t.en t.dl t.dc t.pl t.pc t.ql t.qc t.dpl t.dpc t.dql t.dqc t.qil t.qic w1;clear a;go_wp2_with fail;refine J2.mono ?_;rintro r w2 ⟨rfl,k2⟩;obtain ⟨W,hW⟩:=aj (w2.alloc (.cells t.v 26))
  have kW:Kept aa w2 W:=by rw [hW];exact (ah aa w2).alloc _
  have U:W.heap[w2.heap.size]? = some (.cells t.v 26 (0,0)):=by rw [hW];exact heap_alloc_new _ _
  obtain ⟨d0,d1,d2,d3,d4,d5,d6,d7⟩:=aY U;obtain ⟨c0,c1,c2,c3,c4,c5,c6,c7⟩:=JC.o W ((A.o.trans k2).trans kW);obtain ⟨V,hV⟩:=aj (W.alloc (.cells #[.slice s.no s.nl s.nc,.slice t.no t.nl t.nc,.slice s.dO s.dl s.dc,.slice t.dO t.dl t.dc,.slice s.po s.pl s.pc,.slice t.po t.pl t.pc,.slice s.qo s.ql s.qc,.slice t.qo t.ql t.qc,.slice s.dpo s.dpl s.dpc,.slice t.dpo t.dpl t.dpc,.slice s.dqo s.dql s.dqc,.slice t.dqo t.dql t.dqc,.slice s.qio s.qil s.qic,.slice t.qio t.qil t.qic] 131))
  have kV:Kept aa W V:=by rw [hV];exact (ah aa W).alloc _
  have C:=heap_alloc_new W (.cells #[.slice s.no s.nl s.nc,.slice t.no t.nl t.nc,.slice s.dO s.dl s.dc,.slice t.dO t.dl t.dc,.slice s.po s.pl s.pc,.slice t.po t.pl t.pc,.slice s.qo s.ql s.qc,.slice t.qo t.ql t.qc,.slice s.dpo s.dpl s.dpc,.slice t.dpo t.dpl t.dpc,.slice s.dqo s.dql s.dqc,.slice t.dqo t.dql t.dqc,.slice s.qio s.qil s.qic,.slice t.qio t.qil t.qic] 131);rw [<- hV] at C;have D:=af (((A.o.trans k2).trans kW).trans kV);have X:=(k2.trans kW).trans kV;have g:=HR.o.g D.o;have o:=F.o.g X;have j:=x.o.digs;have e:=HD.o;obtain ⟨h1,h2,h3,h4,h5,h6,h7⟩:=M.o;obtain ⟨R,hR⟩:∃ R:Bool,(R=true↔l=m):=by
   by_cases h:l=m
   ·exact ⟨true,iff_of_true rfl h⟩
   ·exact ⟨false,iff_of_false (by decide) h⟩
  have JA:=GC W.heap.size 7 (by omega) (fun i=>[s.no,s.dO,s.po,s.qo,s.dpo,s.dqo,s.qio].getD i none) (fun i=>[t.no,t.dO,t.po,t.qo,t.dpo,t.dqo,t.qio].getD i none) (fun i=>[s.nl,s.dl,s.pl,s.ql,s.dpl,s.dql,s.qil].getD i 0) (fun i=>[s.nc,s.dc,s.pc,s.qc,s.dpc,s.dqc,s.qic].getD i 0) (fun i=>[t.nl,t.dl,t.pl,t.ql,t.dpl,t.dql,t.qil].getD i 0) (fun i=>[t.nc,t.dc,t.pc,t.qc,t.dpc,t.dqc,t.qic].getD i 0) (fun i=>[l.n,l.d,l.p,l.q,l.dp,l.dq,l.qi].getD i []) (fun i=>[m.n,m.d,m.p,m.q,m.dp,m.dq,m.qi].getD i []) V
   (fun i hi=>by
    have:i=0\/i=1\/i=2\/i=3\/i=4\/i=5\/i=6:=by omega
    rcases this with rfl | rfl | rfl | rfl | rfl | rfl | rfl <;> exact ⟨(cell_of_row V _ _ _ _ _ C).trans rfl,(cell_of_row V _ _ _ _ _ C).trans rfl⟩)
   (fun i hi=>by
    have:i=0\/i=1\/i=2\/i=3\/i=4\/i=5\/i=6:=by omega
    rcases this with rfl | rfl | rfl | rfl | rfl | rfl | rfl
    ·exact ⟨g.n,o.n,e.n,j.n,h1⟩
    ·exact ⟨g.d,o.d,e.d,j.d,h2⟩
    ·exact ⟨g.p,o.p,e.p,j.p,h3⟩
    ·exact ⟨g.q,o.q,e.q,j.q,h4⟩
    ·exact ⟨g.dp,o.dp,e.dp,j.dp,h5⟩
    ·exact ⟨g.dq,o.dq,e.dq,j.dq,h6⟩
    ·exact ⟨g.qi,o.qi,e.qi,j.qi,h7⟩) R (hR.trans ⟨fun h i hi=>by rw [h],fun h=>by
     have g0:l.n=m.n:=h 0 (by omega);have g1:l.d=m.d:=h 1 (by omega);have g2:l.p=m.p:=h 2 (by omega);have g3:l.q=m.q:=h 3 (by omega);have g4:l.dp=m.dp:=h 4 (by omega);have g5:l.dq=m.dq:=h 5 (by omega);have g6:l.qi=m.qi:=h 6 (by omega);cases l
     cases m
     simp only at g0 g1 g2 g3 g4 g5 g6;subst g0 g1 g2 g3 g4 g5 g6;rfl⟩)
  have z:=af ((HG.o 0 _ m x.o).trans ⟨fun h=>h.2,fun h=>⟨rfl,h⟩⟩);have B:=af hR;have G:=af hW;have N:=af hV;clear J2 k2 hW kW U hV kV C X g o j e h1 h2 h3 h4 h5 h6 h7 hR HR F HD HG x M A JC;unfold KS.v at G;go_wp2_with (first | rw [<- G.o] | rw [<- N.o]);refine JA.mono ?_;rintro r w4 ⟨rfl,k4⟩;have L:=af (D.o.trans k4);clear JA k4 D d0 d1 d2 d3 d4 d5 d6 d7 c0 c1 c2 c3 c4 c5 c6 c7 G N;cases R with
  | true=>
   have H:=dH 190 w4;have y:HzD (E=0):=by
    rcases HE.o with ⟨h,_⟩ | ⟨_,h⟩
    ·exact h
    ·exact absurd (z.o.2 (B.o.1 rfl)) h
   clear HE z B;go_wp2_with fail;refine H.mono ?_;rintro r w5 ⟨rfl,rfl⟩;go_wp2;go_end0
   rw [y.o];exact ⟨.ok,L.o⟩
  | false=>
   have H:=eK 190 w4;have y:HzD (E=190):=by
    rcases HE.o with ⟨_,h⟩ | ⟨h,_⟩
    ·exact absurd (B.o.2 (z.o.1 h)) (by decide)
    ·exact h
   clear HE z B;go_wp2_with fail;refine H.mono ?_;rintro r w5 ⟨rfl,rfl⟩;exact ⟨rfl,by rw [y.o];exact .no (by decide),L.o⟩
 ·have J2:=EG t.no t.dO t.po t.qo t.dpo t.dqo t.qio t.nl t.nc t.en t.dl t.dc t.pl t.pc t.ql t.qc t.dpl t.dpc t.dql t.dqc t.qil t.qic 190 (by decide) w1;have y:HzD (E=190):=by
   rcases HE.o with ⟨_,h⟩ | ⟨h,_⟩
   ·exact absurd ((HG.o 190 _ m x.o).1 h).1 (by decide)
   ·exact h
  clear HE HG HR F HD x JC hno;go_wp2_with fail;refine J2.mono ?_;rintro r w2 ⟨rfl,k2⟩;exact ⟨rfl,by rw [y.o];exact .no (by decide),A.o.trans k2⟩

theorem EB (s:KS) (l:KL) (E:Nat) (hE:(E=0/\KeyGood l.n l.d l.p l.q l.dp l.dq l.qi s.en)\/(E=190/\¬ KeyGood l.n l.d l.p l.q l.dp l.dq l.qi s.en)) (a:s.pl<=1000) (b:s.ql<=1000) (w:World) (hr:s.Rows w l) (hd:l.Digs) :
  ClZ 57 #[.agg s.v] w fun r w'=>r=.returned (.int .i64 (E:Nat))/\Kept aa w w':=by
 have he:∀ args w,(callFunc 87 args).run prog w=.ok (.enter 87 args) w:=fun _ _=>by simp [go_sem]
 obtain ⟨W,hW⟩:=aj (w.alloc (.cells s.v 26))
 have k0:Kept aa w W:=by rw [hW];exact (ah aa w).alloc _
 have hx:W.heap[w.heap.size]? = some (.cells s.v 26 (0,0)):=by rw [hW];exact heap_alloc_new _ _
 have kE:=(ah aa W).alloc (.cells #[.int .i64 0] 35);have hA:=se 87 #[.pointer (some ⟨w.heap.size,0,none⟩)] W E he (II w.heap.size s l E hE a b _ (hr.g (k0.trans kE)) hd (au hx));have HW:=af hW;have c:=af k0;clear hE a b hr hd hW k0 hx kE he;unfold KS.v at HW ⊢;delta ClZ;go_in;go_wp2_with (rw [<- HW.o]);refine hA.mono ?_;rintro r w1 ⟨rfl,k1⟩;have e:=af (c.o.trans k1);clear hA k1;go_wp2;go_ret;exact ⟨rfl,e.o⟩

theorem zJ:Gl:=by
 intro p B bs ns ao L o r1 r2 r3 r4 w A h hB C D hu F y;have G:∀ args w,(callFunc 38 args).run prog w=.ok (.enter 38 args) w:=fun _ _=>by simp [go_sem]
 have E:=sQ w (.pointer p) (.slice ao L o) (.slice none 0 0) (.int .i64 0) 38 23 23 3;obtain ⟨W,hW⟩:=aj ((((w.alloc (.cells #[.pointer p] 38)).alloc (.cells #[.slice ao L o] 23)).alloc (.cells #[.slice none 0 0] 23)).alloc (.cells #[.int .i64 0] 3))
 rw [<- hW] at E;obtain ⟨k0,x1,x2,x3,x4,hs⟩:=E;have kE:=(ah aa W).alloc (.cells #[.int .i64 0] 35);have xe:Box (W.alloc (.cells #[.int .i64 0] 35)) W.heap.size (.int .i64 0) 35:=Box.new W (.int .i64 0) 35;have k1:=k0.trans kE;have a:∀ x,w.heap.size<=x->¬ ofP p x:=fun x hx f=>by have:=(h.inP f).2;omega
 have j:=Hj p B bs ns ao L o (w.heap.size+1) w.heap.size (w.heap.size+1+1) (w.heap.size+1+1+1) r1 r2 r3 r4 _ A (h.g k1) (aH hB k1.size) ⟨by omega,by omega⟩ C D (hu.g k1) F y (x2.g kE) (x1.g kE) (x3.g kE) (x4.g kE) (by omega) (fun x f=>⟨fun e=>a _ (by omega) f,fun e=>a _ (by omega) f,fun e=>a _ (by omega) f,fun e=>a _ (by omega) f⟩);have s:=oQ 38 _ W (fun c W'=>c=(r3:Nat)/\Kept (ofP p) w W'/\Lsc W' p B r4/\∃ v,Row .u64 W' v r1/\HzD (∀ x,v.ownBlock=some x->w.heap.size<=x/\x≠W.heap.size/\x≠w.heap.size+1+1/\x≠w.heap.size+1+1+1)/\Box W' (w.heap.size+1+1) v 23/\Box W' (w.heap.size+1+1+1) (.int .i64 (r2:Nat)) 3) G (j.mono (by
  rintro e w' (⟨h0,rfl,v,w1,hr,hf,i,kk,rfl⟩ | ⟨h0,rfl,q1,q2,i,kk⟩)
  ·have q:Box w1 W.heap.size (.int .i64 0) 35:=xe.kept kk (a _ (by omega));have O:=(x3.g kE).kept kk (a _ (by omega));have P:=(x4.g kE).kept kk (a _ (by omega));have r:∀ x,v.ownBlock=some x->w.heap.size<=x/\x≠W.heap.size/\x≠w.heap.size+1+1/\x≠w.heap.size+1+1+1:=fun x hx=>by
    have h1:=hf x hx;rw [World.size_alloc] at h1;omega
   have k:=(hr.kept (aE w1 (w.heap.size+1+1) v) (fun x hx e=>(r x hx).2.2.1 e)).kept (aE _ (w.heap.size+1+1+1) (.int .i64 (r2:Nat))) (fun x hx e=>(r x hx).2.2.2 e);have d:=O.set v;have g:=P.other ⟨w.heap.size+1+1,0,none⟩ (by show w.heap.size+1+1+1≠w.heap.size+1+1;omega) v;have M:=q.other ⟨w.heap.size+1+1,0,none⟩ (by show W.heap.size≠w.heap.size+1+1;omega) v;have m:=d.other ⟨w.heap.size+1+1+1,0,none⟩ (by show w.heap.size+1+1≠w.heap.size+1+1+1;omega) (.int .i64 (r2:Nat));have n:=g.set (.int .i64 (r2:Nat));have N:=M.other ⟨w.heap.size+1+1+1,0,none⟩ (by show W.heap.size≠w.heap.size+1+1+1;omega) (.int .i64 (r2:Nat))
   refine ⟨N,.inl ⟨rfl,by rw [h0];rfl,?_,?_,v,k,r,m,n⟩⟩
   ·exact ((k1.any.trans kk).next (aE w1 (w.heap.size+1+1) v) (fun x hx e=>by omega)).next (aE _ (w.heap.size+1+1+1) (.int .i64 (r2:Nat))) (fun x hx e=>by omega)
   ·exact (i.kept (aE w1 (w.heap.size+1+1) v) (fun x hx e=>by omega)).kept (aE _ (w.heap.size+1+1+1) (.int .i64 (r2:Nat))) (fun x hx e=>by omega)
  ·have q:Box w' W.heap.size (.int .i64 0) 35:=xe.kept kk (a _ (by omega));refine ⟨q,.inr ⟨_,rfl,rfl,k1.any.trans kk,i,.slice none 0 0,by rw [q1];exact Row.nil _ _,(fun x hx=>by cases hx),(x3.g kE).kept kk (a _ (by omega)),?_⟩⟩;rw [q2];exact (x4.g kE).kept kk (a _ (by omega))))
 have HW:=af hW;have J:=af hs;have HB:=af hB;clear j hu F y C D h hB A hW k0 kE k1 x1 x2 x3 x4 xe G hs a;delta ClZ;go_in;go_wp2_with (rw [<- HW.o]);refine s.mono ?_;rintro e w' ⟨c,w1,rfl,⟨⟨rfl,k2,i,v,hr,hf,hI,hR⟩,Q⟩,rfl⟩;have R:W.heap.size=w.heap.size+1+1+1+1:=J.o;have k4:=k2.next (aE w1 W.heap.size (.int .i64 (r3:Nat))) (fun x hx e=>by omega)
 have k:=hr.kept (aE w1 W.heap.size (.int .i64 (r3:Nat))) (fun x hx e=>(hf.o x hx).2.1 e);have l:=i.kept (aE w1 W.heap.size (.int .i64 (r3:Nat))) (fun x hx e=>by have:=HB.o;omega);have d:=hI.other ⟨W.heap.size,0,none⟩ (by show w.heap.size+1+1≠W.heap.size;omega) (.int .i64 (r3:Nat));have g:=hR.other ⟨W.heap.size,0,none⟩ (by show w.heap.size+1+1+1≠W.heap.size;omega) (.int .i64 (r3:Nat));generalize w1.setCell ⟨W.heap.size,0,none⟩ (.int .i64 (r3:Nat))=w2 at *;obtain ⟨vo,vn,vc,rfl,-⟩:=k.open;have c1:=d.cell;have f1:=d.free;have c2:=g.cell;have f2:=g.free;have m:=d.set (.slice vo vn vc)
 have n:=g.other ⟨w.heap.size+1+1,0,none⟩ (by show w.heap.size+1+1+1≠w.heap.size+1+1;omega) (.slice vo vn vc);have t:=m.other ⟨w.heap.size+1+1+1,0,none⟩ (by show w.heap.size+1+1≠w.heap.size+1+1+1;omega) (.int .i64 (r2:Nat));have z:=n.set (.int .i64 (r2:Nat));have c3:=t.cell;have c4:=z.cell;have H:=af ((k.kept (aE w2 (w.heap.size+1+1) (.slice vo vn vc)) (fun x hx e=>(hf.o x hx).2.2.1 e)).kept (aE _ (w.heap.size+1+1+1) (.int .i64 (r2:Nat))) (fun x hx e=>(hf.o x hx).2.2.2 e))
 have I:=af ((l.kept (aE w2 (w.heap.size+1+1) (.slice vo vn vc)) (fun x hx e=>by have:=HB.o;omega)).kept (aE _ (w.heap.size+1+1+1) (.int .i64 (r2:Nat))) (fun x hx e=>by have:=HB.o;omega));have HK:=af ((k4.next (aE w2 (w.heap.size+1+1) (.slice vo vn vc)) (fun x hx e=>by omega)).next (aE _ (w.heap.size+1+1+1) (.int .i64 (r2:Nat))) (fun x hx e=>by omega));have HF:HzD (∀ b,(Value.slice vo vn vc).ownBlock=some b->w.heap.size<=b):=fun b hb=>(hf.o b hb).1
 clear s hr k i l hI hR d g m n t z k2 k4 Q R hf;go_wp2_with fail;go_region
 all_goals
  go_wp2;exact bodyPost_ret (v:=.tuple #[.slice vo vn vc,.int .i64 (r2:Nat),.int .i64 (r3:Nat)]) (by simp [results,results14,go_sem,c3,c4]) rfl ⟨_,rfl,⟨H.o.g (ah _ _).drew,HF.o⟩,I.o.g (ah _ _).drew,HK.o.trans (ah _ _).drew⟩

theorem Da (s:KS) (l:KL) (co:OA) (cl cc:Nat) (cs:LN) (w:World) (hr:s.Rows w l) (hd:l.Digs) (hl:s.light) (hc:Row .u8 w (.slice co cl cc) cs) (hg:¬ KeyGood l.n l.d l.p l.q l.dp l.dq l.qi s.en) :
  ClZ 23 #[.agg #[.slice s.no s.nl s.nc,.int .u64 (s.en:Nat),.slice s.dO s.dl s.dc,.slice s.po s.pl s.pc,.slice s.qo s.ql s.qc,.slice s.dpo s.dpl s.dpc,.slice s.dqo s.dql s.dqc,.slice s.qio s.qil s.qic],.slice co cl cc] w fun e w'=>e=.panicked [refusal 190]/\Kept aa w w':=by
 obtain ⟨_,_,_,e1,f,-,-,-,-⟩:=hc.open;cases e1
 obtain ⟨h0,h1,h2,h3,h4,h5,h6⟩:=hl;obtain ⟨W,hW⟩:=aj (w.alloc (.cells #[.slice s.no s.nl s.nc,.int .u64 (s.en:Nat),.slice s.dO s.dl s.dc,.slice s.po s.pl s.pc,.slice s.qo s.ql s.qc,.slice s.dpo s.dpl s.dpc,.slice s.dqo s.dql s.dqc,.slice s.qio s.qil s.qic] 26))
 have k0:Kept aa w W:=by rw [hW];exact (ah aa w).alloc _
 have a:W.heap[w.heap.size]? = some (.cells #[.slice s.no s.nl s.nc,.int .u64 (s.en:Nat),.slice s.dO s.dl s.dc,.slice s.po s.pl s.pc,.slice s.qo s.ql s.qc,.slice s.dpo s.dpl s.dpc,.slice s.dqo s.dql s.dqc,.slice s.qio s.qil s.qic] 26 (0,0)):=by rw [hW];exact heap_alloc_new _ _
 obtain ⟨q0,q1,q2,q3,q4,q5,q6,q7⟩:=aY a;have J1:=EB s l 190 (.inr ⟨rfl,hg⟩) (by omega) (by omega) W (hr.g k0) hd;unfold KS.v at J1;have HW:=af hW;have b:=af k0;have hY:=ia 190;clear hr hd hc hW k0 a hg f;delta ClZ;go_in;go_wp2_with (rw [<- HW.o]);refine J1.mono ?_;rintro e w1 ⟨rfl,k1⟩;have c:=af (b.o.trans k1);clear J1 k1 q0 q1 q2 q3 q4 q5 q6 q7;go_wp2_with fail;refine (hY _).mono ?_;rintro e w2 ⟨rfl,rfl⟩;exact ⟨rfl,rfl,c.o⟩

theorem Db (s:KS) (l:KL) (co:OA) (cl cc:Nat) (cs:LN) (w:World) (hr:s.Rows w l) (hd:l.Digs) (hl:s.light) (hc:Row .u8 w (.slice co cl cc) cs) (hg:KeyGood l.n l.d l.p l.q l.dp l.dq l.qi s.en) (b:cs.length≠jc (val l.n)) :
  ClZ 23 #[.agg #[.slice s.no s.nl s.nc,.int .u64 (s.en:Nat),.slice s.dO s.dl s.dc,.slice s.po s.pl s.pc,.slice s.qo s.ql s.qc,.slice s.dpo s.dpl s.dpc,.slice s.dqo s.dql s.dqc,.slice s.qio s.qil s.qic],.slice co cl cc] w fun e w'=>e=.panicked [refusal 1]/\Kept aa w w':=by
 obtain ⟨_,_,_,e1,f,-,-,-,-⟩:=hc.open;cases e1
 obtain ⟨h0,h1,h2,h3,h4,h5,h6⟩:=hl;obtain ⟨W,hW⟩:=aj (w.alloc (.cells #[.slice s.no s.nl s.nc,.int .u64 (s.en:Nat),.slice s.dO s.dl s.dc,.slice s.po s.pl s.pc,.slice s.qo s.ql s.qc,.slice s.dpo s.dpl s.dpc,.slice s.dqo s.dql s.dqc,.slice s.qio s.qil s.qic] 26))
 have k0:Kept aa w W:=by rw [hW];exact (ah aa w).alloc _
 have a:W.heap[w.heap.size]? = some (.cells #[.slice s.no s.nl s.nc,.int .u64 (s.en:Nat),.slice s.dO s.dl s.dc,.slice s.po s.pl s.pc,.slice s.qo s.ql s.qc,.slice s.dpo s.dpl s.dpc,.slice s.dqo s.dql s.dqc,.slice s.qio s.qil s.qic] 26 (0,0)):=by rw [hW];exact heap_alloc_new _ _
 obtain ⟨q0,q1,q2,q3,q4,q5,q6,q7⟩:=aY a;have J1:=EB s l 0 (.inl ⟨rfl,hg⟩) (by omega) (by omega) W (hr.g k0) hd;unfold KS.v at J1;have HW:=af hW;have h:=af k0;have JS:=af fun W' (k:Kept aa w W')=>GM s.no s.nl s.nc l.n W' (hr.n.g k) hd.n (by omega)
 obtain ⟨z,hz⟩:=aj (jc (val l.n))
 rw [<- hz] at JS;have j:=eZ 0;have hY:=ia 1;have x:¬ (cl:Int)=(z:Int):=by have:=f.o;omega
 have m:((cl:Int) != (z:Int))=true:=by simp;omega
 clear hr hd hc hW k0 hg f b hz h0 h1 h2 h3 h4 h5 h6;delta ClZ;go_in;go_wp2_with (rw [<- HW.o]);refine J1.mono ?_;rintro e w1 ⟨rfl,k1⟩;have t:=k1;have c:=af (h.o.trans k1);obtain ⟨p0,-⟩:=aY (ar a k1);have g:=ar a k1;clear J1 k1 t q0 q1 q2 q3 q4 q5 q6 q7 a;go_wp2_with fail;refine (j _).mono ?_;rintro e A ⟨rfl,o⟩;obtain rfl:=o.symm;have J2:=JS.o w1 c.o;go_wp2_with fail;refine J2.mono ?_;rintro e w2 ⟨rfl,k2⟩;have i:=af (c.o.trans k2);have r:=ar g k2;obtain ⟨y,-⟩:=aY r;clear J2 k2 JS p0 g;go_wp2_with fail;try rw [m]
 refine (hY _).mono ?_;rintro e w3 ⟨rfl,rfl⟩;exact ⟨rfl,rfl,i.o⟩

theorem pP {a v b c g i l:LN} {n:Nat} (h:KeyGood a v b c g i l e) (hn:a.length=n) (H:n<=1000):n<=130/\n=al (val a)/\b.length=max (al (val b)) (al (val c))/\c.length=max (al (val b)) (al (val c))/\g.length=max (al (val b)) (al (val c))/\i.length=max (al (val b)) (al (val c))/\eW (val a)=0/\eW (val b)=0/\eW (val c)=0:=by
 have hf:=h.a;obtain ⟨I,d,u,E,F,J,L,r,G,x,z,o,p,y⟩:=h;obtain ⟨f1,f2,f3,f4,f5,f6⟩:=hf;generalize hP:val b=P at *;generalize hQ:val c=Q at *;have m:val a=P*Q:=f1;have hl:a.length=al (P*Q):=by
  rw [r,cJ,ag];have:0<al (P*Q):=Nat.pos_of_ne_zero fun e=>by
   have h9:=(aB (P*Q) 0).1 (by omega);rw [cZ] at h9;have:=er f2.1 f3.1;omega
  omega
 have q:jE a e=0:=f4;have k:a.length<=1000:=by omega
 have j:=(oh (xs:=a) (by rw [r,cJ];exact ak (by omega) _ _) k e).1 q;rw [m] at j;obtain ⟨⟨C,D⟩,⟨hW,ho⟩,-⟩:=j;have f:al (P*Q)<=128:=cV (n:=128) (by omega);have A:P<=P*Q:=Nat.le_mul_of_pos_right _ (by have:=f3.1;omega);have B:Q<=P*Q:=Nat.le_mul_of_pos_left _ (by have:=f2.1;omega);have s:al P<=128:=(aB P 128).2 (fF A ((aB _ 128).1 f));have t:al Q<=128:=(aB Q 128).2 (fF B ((aB _ 128).1 f));have w:eW (P*Q)=0:=jW (by have:=er f2.1 f3.1;omega) ho (by omega)
 refine ⟨by omega,by rw [m];omega,by rw [x,ag],by rw [z,ag],by rw [o,ag],by rw [p,ag],by rw [m];exact w,jW (by have:=f2.1;omega) f2.2.1 (by omega),jW (by have:=f3.1;omega) f3.2.1 (by omega)⟩

theorem Dc (s:KS) (l:KL) (co:OA) (cl cc:Nat) (cs:LN) (w:World) (hr:s.Rows w l) (hd:l.Digs) (hl:s.light) (hc:Row .u8 w (.slice co cl cc) cs) (o:Digs cs 256) (hg:KeyGood l.n l.d l.p l.q l.dp l.dq l.qi s.en) (c:cs.length=jc (val l.n)) (hlt:¬ bev cs<val l.n) :
  ClZ 23 #[.agg #[.slice s.no s.nl s.nc,.int .u64 (s.en:Nat),.slice s.dO s.dl s.dc,.slice s.po s.pl s.pc,.slice s.qo s.ql s.qc,.slice s.dpo s.dpl s.dpc,.slice s.dqo s.dql s.dqc,.slice s.qio s.qil s.qic],.slice co cl cc] w fun e w'=>e=.panicked [refusal 1]/\Kept aa w w':=by
 obtain ⟨_,_,_,e1,f,-,-,-,-⟩:=hc.open;cases e1
 obtain ⟨h0,h1,h2,h3,h4,h5,h6⟩:=hl;obtain ⟨W,hW⟩:=aj (w.alloc (.cells #[.slice s.no s.nl s.nc,.int .u64 (s.en:Nat),.slice s.dO s.dl s.dc,.slice s.po s.pl s.pc,.slice s.qo s.ql s.qc,.slice s.dpo s.dpl s.dpc,.slice s.dqo s.dql s.dqc,.slice s.qio s.qil s.qic] 26))
 have k0:Kept aa w W:=by rw [hW];exact (ah aa w).alloc _
 have g:W.heap[w.heap.size]? = some (.cells #[.slice s.no s.nl s.nc,.int .u64 (s.en:Nat),.slice s.dO s.dl s.dc,.slice s.po s.pl s.pc,.slice s.qo s.ql s.qc,.slice s.dpo s.dpl s.dpc,.slice s.dqo s.dql s.dqc,.slice s.qio s.qil s.qic] 26 (0,0)):=by rw [hW];exact heap_alloc_new _ _
 obtain ⟨q0,q1,q2,q3,q4,q5,q6,q7⟩:=aY g;have J1:=EB s l 0 (.inl ⟨rfl,hg⟩) (by omega) (by omega) W (hr.g k0) hd;unfold KS.v at J1;have HW:=af hW;have I:=af k0;have JS:=af fun W' (k:Kept aa w W')=>GM s.no s.nl s.nc l.n W' (hr.n.g k) hd.n (by omega)
 obtain ⟨z,hz⟩:=aj (jc (val l.n))
 rw [<- hz] at JS;obtain ⟨O,P,Q,R,S,T⟩:=hg.a;obtain ⟨N,hN⟩:=aj (val l.n)
 obtain ⟨X,hX⟩:=aj (bev cs)
 obtain ⟨_,_,_,e1,j,-,-,-,-⟩:=hr.n.open;cases e1
 have B:N<18446744073709551616^s.nl:=by rw [hN,<- j.o];exact aC (by omega) hd.n
 have V:=(pP hg j.o h0).1;have C:cl<=8*s.nl:=by
  have h9:aL N<=64*s.nl:=(bf _ _).2 (by rw [aX];exact B);have h8:=f.o;rw [c,<- hN] at h8;unfold jc at h8;omega
 have m:X<18446744073709551616^s.nl:=by
  rw [hX];refine bg (sO o) ?_;rw [f.o,show (18446744073709551616:Nat)^s.nl=256^(8*s.nl) by rw [aX]];exact bi (by omega) C
 obtain ⟨E,F⟩:=qz m (by omega:s.nl<=300);have vX:val (digs X s.nl)=X:=by rw [ax,aA m]
 have JN:HzD (∀ W',Kept aa w W'->ClZ 59 #[.slice co cl cc,.int .i64 (s.nl:Int)] W' fun r w'=>∃ vo vn vc,r=.returned (.tuple #[.slice vo vn vc,.int .i64 0])/\Row .u64 w' (.slice vo vn vc) (digs X s.nl)/\Fresh W' (.slice vo vn vc)/\Kept aa W' w'):=fun W' k=>by
  have h:=GY (.slice co cl cc) cs (s.nl:Int) W' (hc.g k) o;rw [<- hX,E,F] at h;refine h.mono ?_;rintro r w' ⟨v',rfl,h1,h2,h3⟩;obtain ⟨vo,vn,vc,rfl,-⟩:=h1.open;exact ⟨vo,vn,vc,rfl,h1,h2,h3⟩
 have JC:HzD (∀ W' vo vn vc,Kept aa w W'->Row .u64 W' (.slice vo vn vc) (digs X s.nl)->ClZ 60 #[.slice vo vn vc,.slice s.no s.nl s.nc] W' fun r w'=>r=.returned (.int .i64 (dh X N))/\Kept aa W' w'):=fun W' vo vn vc k h=>by
  have h:=nY _ _ _ _ W' h (hr.n.g k) (ak (by omega) _ _) hd.n;rw [vX,<- hN] at h;exact h
 have L:=eZ 0;have M:=eZ 1;have hY:=ia 1;have U:(cl:Int)=(z:Int):=by have:=f.o;omega
 have D:((cl:Int) != (z:Int))=false:=by simp;omega
 have g1:dh X N≥0:=by rw [hX,hN];have:=nL (a:=bev cs) (b:=val l.n) (by omega);omega
 clear hr hd hc o hW k0 hg f c hlt hz h0 h1 h2 h3 h4 h5 h6 hX hN m E F vX C B j O P Q R S T V;generalize dh X N=cm at *;delta ClZ;go_in;go_wp2_with (rw [<- HW.o]);refine J1.mono ?_;rintro e w1 ⟨rfl,k1⟩;have ac:=k1;have x:=af (I.o.trans k1);obtain ⟨p0,-⟩:=aY (ar g k1);have G:=ar g k1;clear J1 k1 ac q0 q1 q2 q3 q4 q5 q6 q7 g;go_wp2_with fail;refine (L _).mono ?_;rintro e ai ⟨rfl,Y⟩;obtain rfl:=Y.symm;have J2:=JS.o w1 x.o;go_wp2_with fail;refine J2.mono ?_;rintro e w2 ⟨rfl,k2⟩;have y:=af (x.o.trans k2);have t:=ar G k2;obtain ⟨ad,-⟩:=aY t;clear J2 k2 JS p0 G
 go_wp2_with fail;try rw [D]
 refine (M _).mono ?_;rintro e al ⟨rfl,Z⟩;obtain rfl:=Z.symm;have J3:=JN.o w2 y.o;go_wp2_with fail;refine J3.mono ?_;rintro e w3 ⟨vo,vn,vc,rfl,r3,f3,k3⟩;have A:=af (y.o.trans k3);have H:=ar t k3;obtain ⟨ae,-⟩:=aY H;have i:=af r3;clear J3 k3 r3 f3 JN ad t U D;go_wp2_with fail;refine (gM vo vn vc _).mono ?_;rintro e am ⟨rfl,ab⟩;obtain rfl:=ab.symm;have J4:=JC.o w3 vo vn vc A.o i.o;go_wp2_with fail;refine J4.mono ?_;rintro e w4 ⟨rfl,k4⟩;have J:=af (A.o.trans k4);have ag:=af (i.o.g k4);clear J4 k4 JC ae H i;go_wp2_with fail;refine (hY _).mono ?_;rintro e w5 ⟨rfl,rfl⟩;exact ⟨rfl,rfl,J.o⟩

theorem Dd (s:KS) (l:KL) (co:OA) (cl cc:Nat) (cs:LN) (w:World) (hr:s.Rows w l) (hd:l.Digs) (hl:s.light) (hc:Row .u8 w (.slice co cl cc) cs) (m:Digs cs 256) (hg:KeyGood l.n l.d l.p l.q l.dp l.dq l.qi s.en) (a:cs.length=jc (val l.n)) (hlt:bev cs<val l.n) :
  ClZ 23 #[.agg #[.slice s.no s.nl s.nc,.int .u64 (s.en:Nat),.slice s.dO s.dl s.dc,.slice s.po s.pl s.pc,.slice s.qo s.ql s.qc,.slice s.dpo s.dpl s.dpc,.slice s.dqo s.dql s.dqc,.slice s.qio s.qil s.qic],.slice co cl cc] w fun e w'=>∃ vo vc,e=.returned (.slice vo s.nl vc)/\Row .u64 w' (.slice vo s.nl vc) (digs (bev cs) s.nl)/\Fresh w (.slice vo s.nl vc)/\Kept aa w w':=by
 obtain ⟨_,_,_,e1,b,-,-,-,-⟩:=hc.open;cases e1
 obtain ⟨h0,h1,h2,h3,h4,h5,h6⟩:=hl;obtain ⟨W,hW⟩:=aj (w.alloc (.cells #[.slice s.no s.nl s.nc,.int .u64 (s.en:Nat),.slice s.dO s.dl s.dc,.slice s.po s.pl s.pc,.slice s.qo s.ql s.qc,.slice s.dpo s.dpl s.dpc,.slice s.dqo s.dql s.dqc,.slice s.qio s.qil s.qic] 26))
 have k0:Kept aa w W:=by rw [hW];exact (ah aa w).alloc _
 have c:W.heap[w.heap.size]? = some (.cells #[.slice s.no s.nl s.nc,.int .u64 (s.en:Nat),.slice s.dO s.dl s.dc,.slice s.po s.pl s.pc,.slice s.qo s.ql s.qc,.slice s.dpo s.dpl s.dpc,.slice s.dqo s.dql s.dqc,.slice s.qio s.qil s.qic] 26 (0,0)):=by rw [hW];exact heap_alloc_new _ _
 obtain ⟨q0,q1,q2,q3,q4,q5,q6,q7⟩:=aY c;have J1:=EB s l 0 (.inl ⟨rfl,hg⟩) (by omega) (by omega) W (hr.g k0) hd;unfold KS.v at J1;have HW:=af hW;have J:=af k0;have JS:=af fun W' (k:Kept aa w W')=>GM s.no s.nl s.nc l.n W' (hr.n.g k) hd.n (by omega)
 obtain ⟨z,hz⟩:=aj (jc (val l.n))
 rw [<- hz] at JS;obtain ⟨P,Q,R,S,T,U⟩:=hg.a;obtain ⟨N,hN⟩:=aj (val l.n)
 obtain ⟨X,hX⟩:=aj (bev cs)
 obtain ⟨_,_,_,e1,i,-,-,-,-⟩:=hr.n.open;cases e1
 have A:N<18446744073709551616^s.nl:=by rw [hN,<- i.o];exact aC (by omega) hd.n
 have Y:=(pP hg i.o h0).1;have C:cl<=8*s.nl:=by
  have h9:aL N<=64*s.nl:=(bf _ _).2 (by rw [aX];exact A);have h8:=b.o;rw [a,<- hN] at h8;unfold jc at h8;omega
 have j:X<18446744073709551616^s.nl:=by
  rw [hX];refine bg (sO m) ?_;rw [b.o,show (18446744073709551616:Nat)^s.nl=256^(8*s.nl) by rw [aX]];exact bi (by omega) C
 obtain ⟨E,F⟩:=qz j (by omega:s.nl<=300);have vX:val (digs X s.nl)=X:=by rw [ax,aA j]
 have JN:HzD (∀ W',Kept aa w W'->ClZ 59 #[.slice co cl cc,.int .i64 (s.nl:Int)] W' fun r w'=>∃ vo vn vc,r=.returned (.tuple #[.slice vo vn vc,.int .i64 0])/\Row .u64 w' (.slice vo vn vc) (digs X s.nl)/\Fresh W' (.slice vo vn vc)/\Kept aa W' w'):=fun W' k=>by
  have h:=GY (.slice co cl cc) cs (s.nl:Int) W' (hc.g k) m;rw [<- hX,E,F] at h;refine h.mono ?_;rintro r w' ⟨v',rfl,h1,h2,h3⟩;obtain ⟨vo,vn,vc,rfl,-⟩:=h1.open;exact ⟨vo,vn,vc,rfl,h1,h2,h3⟩
 have JC:HzD (∀ W' vo vn vc,Kept aa w W'->Row .u64 W' (.slice vo vn vc) (digs X s.nl)->ClZ 60 #[.slice vo vn vc,.slice s.no s.nl s.nc] W' fun r w'=>r=.returned (.int .i64 (dh X N))/\Kept aa W' w'):=fun W' vo vn vc k h=>by
  have h:=nY _ _ _ _ W' h (hr.n.g k) (ak (by omega) _ _) hd.n;rw [vX,<- hN] at h;exact h
 have O:=eZ 0;have B:=eZ 1;have V:(cl:Int)=(z:Int):=by have:=b.o;omega
 have D:((cl:Int) != (z:Int))=false:=by simp;omega
 have g1:¬ dh X N≥0:=by rw [hX,hN];have:=fu hlt;omega
 have g2:decide (0<=dh X N)=false:=cG (by omega);have M:=af hX;clear hr hd hc m hW k0 hg b a hlt hz h0 h1 h2 h3 h4 h5 h6 hN hX j E F vX C A i P Q R S T U Y;generalize dh X N=cm at *;delta ClZ;go_in;go_wp2_with (rw [<- HW.o]);refine J1.mono ?_;rintro e w1 ⟨rfl,k1⟩;have ae:=k1;have t:=af (J.o.trans k1);obtain ⟨p0,-⟩:=aY (ar c k1);have G:=ar c k1;clear J1 k1 ae q0 q1 q2 q3 q4 q5 q6 q7 c;go_wp2_with fail;refine (O _).mono ?_;rintro e al ⟨rfl,Z⟩;obtain rfl:=Z.symm;have J2:=JS.o w1 t.o;go_wp2_with fail;refine J2.mono ?_;rintro e w2 ⟨rfl,k2⟩;have f:=af (t.o.trans k2)
 have o:=ar G k2;obtain ⟨ag,-⟩:=aY o;clear J2 k2 JS p0 G;go_wp2_with fail;try rw [D]
 refine (B _).mono ?_;rintro e am ⟨rfl,ab⟩;obtain rfl:=ab.symm;have J3:=JN.o w2 f.o;go_wp2_with fail;refine J3.mono ?_;rintro e w3 ⟨vo,vn,vc,rfl,r3,f3,k3⟩;have x:=af (f.o.trans k3);have H:=ar o k3;obtain ⟨ai,-⟩:=aY H;have g:=af r3;have I:=af (f3.b f.o);clear J3 k3 r3 f3 JN ag o V D;go_wp2_with fail;refine (gM vo vn vc _).mono ?_;rintro e an ⟨rfl,ac⟩;obtain rfl:=ac.symm;have J4:=JC.o w3 vo vn vc x.o g.o;go_wp2_with fail;refine J4.mono ?_;rintro e w4 ⟨rfl,k4⟩;have L:=af (x.o.trans k4);have y:=af (g.o.g k4);clear J4 k4 JC ai H g;go_wp2_with fail;try rw [g2]
 refine (B _).mono ?_;rintro e w5 ⟨rfl,ad⟩;obtain rfl:=ad.symm;obtain ⟨zo,zc,ez⟩:=(show NumT w4 none (.slice vo vn vc) s.nl (X%18446744073709551616^s.nl) from ⟨RowT.none (by rw [<- nN];exact y.o),aW _ (aV)⟩).s;cases ez
 go_wp2_with fail;go_ret;exact ⟨_,_,rfl,by rw [<- M.o];exact y.o,I.o,L.o⟩

def Gk (bO:Nat) (l:KL) (e:Nat) (cs:LN) (w:World) (r:Ending) (w':World):Prop:=∃ E RL,sL l e cs E RL /\
 ((E=0/\r=.returned (.tuple #[])/\∃ v,Box w' bO v 28/\Row .u8 w' v RL/\Fresh w v/\Kept (fun x=>x=bO) w w')\/(E≠0/\r=.panicked [refusal (E:Nat)]/\RL=[]/\Kept aa w w'))

theorem Hk (bK bC bO:Nat) (s:KS) (l:KL) (co:OA) (cl cc:Nat) (cs:LN) (w:World) (hr:s.Rows w l) (hd:l.Digs) (hl:s.light) (hc:Row .u8 w (.slice co cl cc) cs) (g:Digs cs 256) (xK:w.heap[bK]? = some (.cells #[.slice s.no s.nl s.nc,.int .u64 (s.en:Nat),.slice s.dO s.dl s.dc,.slice s.po s.pl s.pc,.slice s.qo s.ql s.qc,.slice s.dpo s.dpl s.dpc,.slice s.dqo s.dql s.dqc,.slice s.qio s.qil s.qic] 26 (0,0))) (xC:Box w bC (.slice co cl cc) 28) (xO:Box w bO (.slice none 0 0) 28) :
  ClZ 28 #[.pointer (some ⟨bK,0,none⟩),.pointer (some ⟨bC,0,none⟩),.pointer (some ⟨bO,0,none⟩)] w fun r w'=>Gk bO l s.en cs w r w':=by
 obtain ⟨_,_,_,e1,c,-,-,-,-⟩:=hc.open;cases e1
 obtain ⟨q0,q1,q2,q3,q4,q5,q6,q7⟩:=aY xK;have c0:=xC.cell;by_cases hg:KeyGood l.n l.d l.p l.q l.dp l.dq l.qi s.en
 case neg=>
  have J1:=Da s l co cl cc cs w hr hd hl hc hg;have HP:sL l s.en cs 190 []:=⟨.inl ⟨rfl,hg⟩,by rw [am (by decide)]⟩
  clear hr hd hl hc g xK xC xO hg c;delta ClZ;go_in;go_wp2_with fail;refine J1.mono ?_;rintro e w1 ⟨rfl,k1⟩;exact ⟨rfl,190,[],HP,.inr ⟨by decide,rfl,rfl,k1⟩⟩
 by_cases hlen:cs.length=jc (val l.n)
 case neg=>
  have J1:=Db s l co cl cc cs w hr hd hl hc hg hlen;have HP:sL l s.en cs 1 []:=⟨.inr ⟨hg,by unfold n9;rw [am (fun h=>hlen h.1)]⟩,by rw [am (by decide)]⟩
  clear hr hd hl hc g xK xC xO hg c hlen;delta ClZ;go_in;go_wp2_with fail;refine J1.mono ?_;rintro e w1 ⟨rfl,k1⟩;exact ⟨rfl,1,[],HP,.inr ⟨by decide,rfl,rfl,k1⟩⟩
 by_cases hlt:bev cs<val l.n
 case neg=>
  have J1:=Dc s l co cl cc cs w hr hd hl hc g hg hlen hlt;have HP:sL l s.en cs 1 []:=⟨.inr ⟨hg,by unfold n9;rw [am (fun h=>hlt h.2)]⟩,by rw [am (by decide)]⟩
  clear hr hd hl hc g xK xC xO hg c hlen hlt;delta ClZ;go_in;go_wp2_with fail;refine J1.mono ?_;rintro e w1 ⟨rfl,k1⟩;exact ⟨rfl,1,[],HP,.inr ⟨by decide,rfl,rfl,k1⟩⟩
 have J1:=Dd s l co cl cc cs w hr hd hl hc g hg hlen hlt;obtain ⟨_,_,_,e1,j,-,-,-,-⟩:=hr.n.open;cases e1
 obtain ⟨I,z,-,-,-,-,v,-,-⟩:=pP hg j.o hl.1;obtain ⟨N,hN⟩:=aj (val l.n)
 rw [<- hN] at z v hlen hlt;obtain ⟨X,hX⟩:=aj (bev cs)
 rw [<- hX] at hlt J1;have HP:HzD (sL l s.en cs 0 (bes (X^val l.d%N) cl cl)):=⟨.inr ⟨hg,by unfold n9;rw [ai ⟨by rw [<- hN];exact hlen,by rw [<- hN,<- hX];exact hlt⟩]⟩,by rw [ai rfl,hX,hN,c.o]⟩
 have T:cl<=8*s.nl:=by
  have h9:aL N<=64*s.nl:=(bf _ _).2 (by rw [aX,hN,<- j.o];exact aC (by omega) hd.n);have h8:=c.o;rw [hlen] at h8;unfold jc at h8;omega
 have JM:=af fun W (k:Kept aa w W)=>vJ none s.no s.nl s.nc l.n N s.nl W trivial (hr.n.g k) hd.n (by omega) hN v z
 have JD:=af fun W (k:Kept aa w W)=>hr.d.g k
 have L:=af hd.d;have U:s.dl<=300:=by
  obtain ⟨_,_,_,e1,R,-,-,-,-⟩:=hr.d.open;cases e1
  obtain ⟨-,d,u,-,-,-,-,Z,V,-⟩:=hg;have h9:=R.o;rw [V,ag,<- Z,j.o] at h9;omega
 have F:=af xO;have P:=af xC;have Q:=af xK;clear hr hd hl hc g xK xC xO hg c hlen hN hX j v z;delta ClZ;go_in;go_wp2_with fail;refine J1.mono ?_;rintro e w1 ⟨vo,vc,rfl,r1,f1,k1⟩;have B:=af k1;have H:=ar Q.o k1;have E:=af r1;clear J1 k1 r1 f1 q0 q1 q2 q3 q4 q5 q6 q7 c0;go_wp2_with fail;refine wp_region_held_drew (S:=fun w'=>w'.heap[bK]? = some (.cells #[.slice s.no s.nl s.nc,.int .u64 (s.en:Nat),.slice s.dO s.dl s.dc,.slice s.po s.pl s.pc,.slice s.qo s.ql s.qc,.slice s.dpo s.dpl s.dpc,.slice s.dqo s.dql s.dqc,.slice s.qio s.qil s.qic] 26 (0,0))) (by kernel_rfl) H (fun hS=>?_)
 refine mH (fun _ _ d _ _ h=>by cases d <;> exact h) fun Q1 b J=>?_
 have KD:=B.o.trans (ah aa w1).drew;refine aR b 0 (some 8) (.pointer (some ⟨bK,0,none⟩)) hS ?_;refine aR b 1 (some 9) (.slice s.no s.nl s.nc) hS ?_ (y:=dJ fun w h=>by simp [execOp,go_sem,(aY h).1]);refine aR b 6 (some 14) (.slice vo s.nl vc) hS ?_;refine aR b 7 (some 15) (.pointer (some ⟨bK,2,none⟩)) hS ?_;refine aR b 8 (some 16) (.slice s.dO s.dl s.dc) hS ?_ (y:=dJ fun w h=>by simp [execOp,go_sem,(aY h).2.2.1]);simp only [aT];refine cf 2 (some 10) 32 [.slice s.no s.nl s.nc] (JM.o _ KD) ?_;rintro r w2 ⟨ma,mb,K,mm,mr,rfl,hM,-,k2⟩;have G:=KD.trans k2;have i:=ar hS k2;refine .inl ⟨_,rfl,i,?_⟩
 refine aR b 3 (some 11) (.agg #[.slice ma s.nl mm,.int .u64 (K:Nat),.slice mb s.nl mr]) i ?_;refine aR b 4 (some 12) (.int .i64 0) i ?_;simp only [aT];refine cf 5 (some 13) 31 [.agg #[.slice ma s.nl mm,.int .u64 (K:Nat),.slice mb s.nl mr],.int .i64 0] (jz ma mb s.nl mm K s.nl mr _) ?_;rintro r w3 ⟨rfl,k3⟩;have m:=G.trans k3;have t:=ar i k3;have a:=hM.g k3;have r3:=E.o.g (((ah aa w1).drew.trans k2).trans k3);have vX:val (digs X s.nl)=X:=bJ (bG hlt a.a.2.2.2)
 have c4:=Hr ma mb vo s.dO s.nl s.nl K mm mr s.nl vc s.dl s.dc _ _ (digs X s.nl) l.d 0 (.inl ⟨rfl,⟨a.m8.ok,rfl,by rw [vX,a.ev];exact hlt⟩,U⟩) _ rfl w3 a.m8.hm.1 a.m8.hr.1 r3 (JD.o _ m) a.m8.hmd a.m8.hrd (ak (by omega) _ _) L.o a.m8.hK (by omega);rw [ai rfl,vX,a.ev] at c4;refine .inl ⟨_,rfl,t,?_⟩;simp only [aT];refine cf 9 (some 17) 30 [.agg #[.slice ma s.nl mm,.int .u64 (K:Nat),.slice mb s.nl mr],.slice vo s.nl vc,.slice s.dO s.dl s.dc] (c4) ?_;rintro r w4 ⟨v4,rfl,r4,k4⟩;have n4:NumT w4 none v4 s.nl (X^val l.d%N):=⟨RowT.none r4,bG (aW _ (by have:=a.a.2.2.1;omega)) a.a.2.2.2⟩
 obtain ⟨zo,zc,rfl⟩:=n4.s;have o:=m.trans k4;have f:=ar t k4;refine .inl ⟨_,rfl,f,?_⟩;refine aR b 10 (some 18) (.slice zo s.nl zc) f ?_;refine aR b 11 (some 19) (.int .i64 0) f ?_;simp only [aT];refine cf 12 (some 20) 29 [.slice zo s.nl zc,.int .i64 0] (gM zo s.nl zc _) ?_;rintro r wz ⟨rfl,ab⟩;obtain rfl:=ab.symm;refine .inl ⟨_,rfl,f,?_⟩;refine aR b 13 (some 4) (.slice zo s.nl zc) f ?_;simp only [aT];refine wpAnyH_done (by kernel_rfl) ?_ _;refine J.out _ _ ?_;have c5:=Gc zo s.nl zc _ cl w4 r4 T (by omega);have b4:=(P.o.g o).cell;have C:=af o
 clear hS i t f k2 k3 k4 KD G m o hM a r3 c4 r4 n4 b J JM JD E B H vX;go_wp2_with fail;refine c5.mono ?_;rintro e w5 ⟨yo,yn,yc,rfl,r5,f5,k5⟩;have D:=af (C.o.trans k5);have xo:=F.o.g D.o;have ac:=xo.cell;have ad:=xo.free;have O:=af xo;have M:=af r5;have A:=af (Fresh.b (w:=w) f5 C.o);clear c5 r5 f5 k5 b4 xo;go_wp2_with fail;go_end0
 have Y:∀ x,(Value.slice yo yn yc).ownBlock=some x->¬ x=bO:=fun x hx e=>by have h1:=A.o x hx;have h2:=F.o.lt;omega
 exact ⟨0,_,HP.o,.inl ⟨rfl,rfl,_,O.o.set _,M.o.kept (aE _ _ _) Y,A.o,D.o.any.trans (aE _ _ _)⟩⟩

theorem zL:VPla:=by
 intro s l co cl cc cs w he hr hd hl hc i G;have j:∀ args w,(callFunc 28 args).run prog w=.ok (.enter 28 args) w:=fun _ _=>by simp [go_sem]
 obtain ⟨W0,c⟩:=aj (w.alloc (.cells #[.slice s.no s.nl s.nc,.int .u64 (s.en:Nat),.slice s.dO s.dl s.dc,.slice s.po s.pl s.pc,.slice s.qo s.ql s.qc,.slice s.dpo s.dpl s.dpc,.slice s.dqo s.dql s.dqc,.slice s.qio s.qil s.qic] 26))
 have t:Kept aa w W0:=by rw [c];exact (ah aa w).alloc _
 have y:W0.heap[w.heap.size]? = some (.cells #[.slice s.no s.nl s.nc,.int .u64 (s.en:Nat),.slice s.dO s.dl s.dc,.slice s.po s.pl s.pc,.slice s.qo s.ql s.qc,.slice s.dpo s.dpl s.dpc,.slice s.dqo s.dql s.dqc,.slice s.qio s.qil s.qic] 26 (0,0)):=by rw [c];exact heap_alloc_new _ _
 have q:W0.heap.size=w.heap.size+1:=by rw [c];simp
 have h:=BK W0 (.slice co cl cc) (.slice none 0 0) 28 28;obtain ⟨W,hW⟩:=aj ((W0.alloc (.cells #[.slice co cl cc] 28)).alloc (.cells #[.slice none 0 0] 28))
 rw [<- hW,q] at h;obtain ⟨f,x1,x2,hs⟩:=h;have k0:=t.trans f;have kE:=(ah aa W).alloc (.cells #[.int .i64 0] 35);have xe:Box (W.alloc (.cells #[.int .i64 0] 35)) W.heap.size (.int .i64 0) 35:=Box.new W (.int .i64 0) 35;have k1:=k0.trans kE;have a:=Hk w.heap.size (w.heap.size+1) (w.heap.size+1+1) s l co cl cc cs _ (hr.g k1) hd hl (hc.g k1) i (ar y (f.trans kE)) (x1.g kE) (x2.g kE);have g:=oQ 28 _ W (fun n W'=>∃ E RL,n=(E:Nat)/\sL l s.en cs E RL/\∃ v,Box W' (w.heap.size+1+1) v 28/\Row .u8 W' v RL/\HzD (∀ x,v.ownBlock=some x->¬ x=W.heap.size)/\Fresh W v/\Kept aa w W') j (a.mono (by
  rintro r w' ⟨E,RL,hp,⟨h0,rfl,v,hb,hr,hf,hk⟩ | ⟨h0,rfl,rfl,hk⟩⟩
  ·exact ⟨xe.kept hk (by have:=x2.lt;omega),.inl ⟨rfl,E,RL,by rw [h0];rfl,hp,v,hb,hr,(fun x hx e=>by have h1:=hf x hx;rw [World.size_alloc] at h1;omega),hf.b kE,k1.next hk (fun x hx e=>by omega)⟩⟩
  ·exact ⟨xe.g hk,.inr ⟨_,rfl,E,[],rfl,hp,.slice none 0 0,(x2.g kE).g hk,Row.nil _ _,(fun b hb=>by simp [Value.ownBlock] at hb),fun b hb=>by simp [Value.ownBlock] at hb,k1.trans hk⟩⟩))
 have HW:HzD (W=((w.alloc (.cells #[.slice s.no s.nl s.nc,.int .u64 (s.en:Nat),.slice s.dO s.dl s.dc,.slice s.po s.pl s.pc,.slice s.qo s.ql s.qc,.slice s.dpo s.dpl s.dpc,.slice s.dqo s.dql s.dqc,.slice s.qio s.qil s.qic] 26)).alloc (.cells #[.slice co cl cc] 28)).alloc (.cells #[.slice none 0 0] 28)):=by unfold HzD;rw [hW,c]
 have HS:=af hs;unfold KS.v;clear hc hr hd i hl G he k0 t f kE k1 x1 x2 xe hs q hW c y j a;delta ClZ;go_in;go_wp2_with (rw [<- HW.o]);refine g.mono ?_;rintro r w' ⟨n,w1,rfl,⟨⟨E,RL,rfl,hp,v,hb,hr,k,hf,hk⟩,F⟩,rfl⟩;obtain ⟨vo,vn,vc,rfl,-⟩:=hr.open;have H:W.heap.size=w.heap.size+1+1+1:=HS.o;have kb:=aE w1 W.heap.size (.int .i64 (E:Nat));have o:w.heap.size+1+1≠W.heap.size:=by omega
 have d:=hb.kept kb o;have p:=hr.kept kb (fun x hx e=>k.o x hx e);have m:=hk.next kb (fun x hx e=>by omega)
 have I:=d.cell;have J:=d.free;have z:=af d;have C:=af hp;have D:=af (p.kept (aE (w1.setCell ⟨W.heap.size,0,none⟩ (.int .i64 (E:Nat))) (w.heap.size+1+1) (.slice vo vn vc)) (fun x hx e=>by have:=hf x hx;omega));have B:=af (m.next (aE (w1.setCell ⟨W.heap.size,0,none⟩ (.int .i64 (E:Nat))) (w.heap.size+1+1) (.slice vo vn vc)) (fun x hx e=>by omega));have A:HzD (∀ b,(Value.slice vo vn vc).ownBlock=some b->w.heap.size<=b):=fun b hx=>by have:=hf b hx;omega
 clear g hb hr hf hk F kb o d p m k hp H;generalize w1.setCell ⟨W.heap.size,0,none⟩ (.int .i64 (E:Nat))=W2 at *;go_wp2_with fail;exact bodyPost_ret (v:=.tuple #[.slice vo vn vc,.int .i64 (E:Nat)]) (by simp [results,results11,go_sem,(z.o.set (.slice vo vn vc)).cell]) rfl ⟨_,E,rfl,RL,C.o,⟨D.o,A.o⟩,B.o⟩

def VPriT:Prop:=∃ F:Nat->Nat->Nat->Nat->List Ev,(∀ a b c e,0<(F a b c e).length)/\∀ (o:Tr) (s:KS) (l:KL) (co:OA) (cl cc:Nat) (cs:LN) (p:OA) (B:Nat) (bs:LN) (at_:Int) (fo:OA) (fl fc:Nat) (fs:LN) (w:World),TrRoom w o 1000000000->s.en<18446744073709551616->(∀ v zs,(v,zs) ∈ [(Value.slice s.no s.nl s.nc,l.n),(.slice s.dO s.dl s.dc,l.d),(.slice s.po s.pl s.pc,l.p),(.slice s.qo s.ql s.qc,l.q),(.slice s.dpo s.dpl s.dpc,l.dp),(.slice s.dqo s.dql s.dqc,l.dq),(.slice s.qio s.qil s.qic,l.qi),(.slice fo fl fc,fs)]->RowT w o v zs)->l.Digs->s.light->Row .u8 w (.slice co cl cc) cs->Digs cs 256->cl<=10000->Lsc w p B bs->B<=w.heap.size->Digs bs 256->bs.length<=10000->Digs fs->fl<=1000->AtOk at_ ->
 ClZ 9 #[aN o,.agg s.v,.slice co cl cc,.pointer p,.agg #[.int .i64 at_,.slice fo fl fc]] w fun q w'=>∃ v' E,q=.returned (.tuple #[v',.int .i64 ((E:Nat):Int)])/\∃ RL rest m,PrvL l.n l.d l.p l.q l.dp l.dq l.qi s.en at_ fs cs bs E RL rest/\(Row .u8 w' v' RL/\∀ b,v'.ownBlock=some b->w.heap.size<=b)/\m.length<=1000000000/\((E=0\/E=220)->m=F (al (val l.n)) (al (val l.p)) (al (val l.q)) s.en)/\∃ w1 o',Kept (ofP p) w w1/\Did w1 o m w' o'

theorem AB {Q:Value->LN->Prop} {a0 a1 a2 a3 a4 a5 a6 a7:Value} {l0 l1 l2 l3 l4 l5 l6 l7:LN} (h0:Q a0 l0) (h1:Q a1 l1) (h2:Q a2 l2) (h3:Q a3 l3) (h4:Q a4 l4) (h5:Q a5 l5) (h6:Q a6 l6) (h7:Q a7 l7):∀ v zs,(v,zs) ∈ [(a0,l0),(a1,l1),(a2,l2),(a3,l3),(a4,l4),(a5,l5),(a6,l6),(a7,l7)]->Q v zs:=by
 intro v zs h;simp only [fL,fN,List.not_mem_nil,or_false] at h;rcases h with ⟨rfl,rfl⟩ | ⟨rfl,rfl⟩ | ⟨rfl,rfl⟩ | ⟨rfl,rfl⟩ | ⟨rfl,rfl⟩ | ⟨rfl,rfl⟩ | ⟨rfl,rfl⟩ | ⟨rfl,rfl⟩ <;> assumption

theorem VPriT.plain (h:VPriT):VPri:=by
 obtain ⟨F,_,h⟩:=h;intro s l co cl cc cs p B bs at_ fo fl fc fs w he hr hd hl hc g i hs hB c e hf gf j b;refine (h none s l co cl cc cs p B bs at_ fo fl fc fs w (TrRoom.none w _ (by omega)) he (AB (.none hr.n) (.none hr.d) (.none hr.p) (.none hr.q) (.none hr.dp) (.none hr.dq) (.none hr.qi) (.none hf)) hd hl hc g i hs hB c e gf j b).mono ?_;rintro q w' ⟨v',E,rfl,RL,rest,m,hp,a,_,_,w1,o',k1,d⟩;exact ⟨v',E,rfl,RL,rest,hp,a,k1.next d.1 (fun x hx f=>f.elim)⟩

theorem AJ {p:OA} {B:Nat} {bs:LN} (h:Lsc w p B bs):∀ o,TrIn w o->∀ x,dm o x->¬ ofP p x:=by
 intro o ht x hf hp;rcases h with ⟨rfl,_⟩ | ⟨b,v,ps,k,rfl,_,hb,_⟩
 ·simp [ofP] at hp
 ·have e:=qR hp;subst e;exact aG hb ht (by decide) (by decide) hf

end Go.Proofs.YtpkmoamgpjcdeaaGreatDoor
