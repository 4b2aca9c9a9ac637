/- Put together of: Kex6 Kex7. -/
import Derived.Test.YtcemlfokmjjiaaaGreatDoorPf34

namespace Go.Proofs.YtcemlfokmjjiaaaGreatDoor
set_option maxRecDepth 100000
set_option maxHeartbeats 4000000
open Go.RowKit

def OfEnd (L M P Q e B bK:Nat) (a w:World) (r:Ending) (w':World):Prop:=
 (bw L M P Q e∧r=.returned (.tuple #[])∧∃ kv,w'.heap[bK]? = some (.cells kv 42 (0,0))∧KeyAt w' P Q e kv∧fB B kv∧Kept (fun b=>b=bK) w w'∧Kept af a w')∨(¬ bw L M P Q e∧r=.panicked [refusal 190]∧Kept af w w')

theorem OfEnd.no {L M P Q e B bK:Nat} {a w w':World} (h:¬ bw L M P Q e) (k:Kept af w w'):OfEnd L M P Q e B bK a w (.panicked [refusal 190]) w':=.inr ⟨h,rfl,k⟩

theorem fu {P Q:Nat} (h:0<P*Q):aO P Q=digs (P*Q) (aj (P*Q)):=by
 unfold aO;have:¬ aj (P*Q)≤0:=fun h1=>by
  have:=(am _ _).1 h1;rw [Nat.pow_zero] at this;omega
 rw [Nat.max_eq_left (by omega)]

theorem KeyAt.kept {S:Nat→Prop} {w w':World} {P Q e:Nat} {kv:Array Value} (h:KeyAt w P Q e kv) (k:Kept S w w') (hs:∀ v ∈ kv.toList,∀ x,v.ownBlock=some x→¬ S x):KeyAt w' P Q e kv:=by
 obtain ⟨vn,vd,vp,vq,b,c,a,d,u,rfl,rn,m,f,rd,rp,rq,g,j,i,l,n⟩:=h;exact ⟨vn,vd,vp,vq,b,c,a,d,u,rfl,rn.kept k (hs vn (by simp)),m,f,rd.kept k (hs vd (by simp)),rp.kept k (hs vp (by simp)),rq.kept k (hs vq (by simp)),g.kept k (hs b (by simp)),j.kept k (hs c (by simp)),i,l,n.kept k (hs a (by simp))⟩

theorem Cb {W:World} {a:Addr} {p:Nat} {x0 x1 x2 x3 x4 x5 x6 x7 q:Value} (h:W.cell? a=some q) (b:a.block≠p):((((((((W.setCell ⟨p,0,none⟩ x0).setCell ⟨p,1,none⟩ x1).setCell ⟨p,2,none⟩ x2).setCell ⟨p,3,none⟩ x3).setCell ⟨p,4,none⟩ x4).setCell ⟨p,5,none⟩ x5).setCell ⟨p,6,none⟩ x6).setCell ⟨p,7,none⟩ x7).cell? a=some q:=by
 have h1:∀ (V:World) (j:Nat) (x:Value),V.cell? a=some q→(V.setCell ⟨p,j,none⟩ x).cell? a=some q:=fun V j x hv=>by
  unfold World.cell? at hv ⊢;rw [Below.heap_setCell V ⟨p,j,none⟩ x a.block b];exact hv
 exact h1 _ _ _ (h1 _ _ _ (h1 _ _ _ (h1 _ _ _ (h1 _ _ _ (h1 _ _ _ (h1 _ _ _ (h1 _ _ _ h)))))))

theorem Ca (bP bQ bE bK:Nat) (ao bo:Option Addr) (L M cap c:Nat) (xs:List Nat) (P Q e B:Nat) (hP:P=val xs) (f:L≤1000) (b:¬ (L≤300∧bY P)) (a w:World) (hu:Row .u64 w (.slice ao L cap) xs) (d:Digs xs) (b0:w.cell? ⟨bP,0,none⟩=some (.slice ao L cap)) (b1:w.cell? ⟨bQ,0,none⟩=some (.slice bo M c)) :
  Calls Tryz.prog 47 #[.pointer (some ⟨bP,0,none⟩),.pointer (some ⟨bQ,0,none⟩),.pointer (some ⟨bE,0,none⟩),.pointer (some ⟨bK,0,none⟩)] w fun r w'=>OfEnd L M P Q e B bK a w r w':=by
 have hN:¬ bw L M P Q e:=fun h=>b ⟨h.1.1,h.2.1⟩
 have KD:Kept af w w.drew:=(ai af w).drew;have J1:=nP ao L cap xs P hP (by omega) b w.drew (hu.grew KD) d;clear hu d hP b;go_enter Tryz.func47,Tryz.ntmps47;go_wp2_with fail;refine wp_region_held_drew (S:=fun w'=>w'.cell? ⟨bP,0,none⟩=some (.slice ao L cap)∧w'.cell? ⟨bQ,0,none⟩=some (.slice bo M c)) (by kernel_rfl) ⟨b0,b1⟩ (fun hS=>?_);refine aB 0 (some 10) (.slice ao L cap) (y:=.inl ⟨by rfl,fun w h=>by simp [execOp,go_sem,h.1]⟩) (s:=hS) (k:=?_);simp only [Act.put,lsA,lsS,lsZ];refine aB 2 (some 12) (.slice bo M c) (y:=.inl ⟨by rfl,fun w h=>by simp [execOp,go_sem,h.2]⟩) (s:=hS) (k:=?_);simp only [Act.put,lsA,lsS,lsZ]
 refine bk 1 (some 11) (by kernel_rfl) rfl rfl (by rfl) 48 _ _ [.slice ao L cap] rfl rfl (fun _ _=>by simp [go_sem]) (J1) ?_;rintro e w4 ⟨rfl,k4⟩;exact .inr ⟨_,rfl,rfl,.no hN (KD.trans k4)⟩

theorem Br (bP bQ bE bK:Nat) (ao bo:Option Addr) (L M cap b:Nat) (xs ys:List Nat) (P Q e B:Nat) (hP:P=val xs) (hQ:Q=val ys) (j:M≤1000) (f:L≤300∧bY P) (c:¬ (M≤300∧bY Q)) (a w:World) (hu:Row .u64 w (.slice ao L cap) xs) (hv:Row .u64 w (.slice bo M b) ys) (g:Digs xs) (d:Digs ys) (b0:w.cell? ⟨bP,0,none⟩=some (.slice ao L cap)) (b1:w.cell? ⟨bQ,0,none⟩=some (.slice bo M b)) :
  Calls Tryz.prog 47 #[.pointer (some ⟨bP,0,none⟩),.pointer (some ⟨bQ,0,none⟩),.pointer (some ⟨bE,0,none⟩),.pointer (some ⟨bK,0,none⟩)] w fun r w'=>OfEnd L M P Q e B bK a w r w':=by
 have hN:¬ bw L M P Q e:=fun h=>c ⟨h.1.2,h.2.2.1⟩
 have KD:Kept af w w.drew:=(ai af w).drew;have J1:=iN ao L cap xs P (aj P) hP rfl f w.drew (hu.grew KD) g;have J2:Hid (∀ W,Kept af w W→Calls Tryz.prog 48 #[.slice bo M b] W fun e w'=>e=.panicked [refusal 190]∧Kept af W w'):=fun W k=>nP bo M b ys Q hQ (by omega) c W (hv.grew k) d
 clear hu hv g d hP hQ c f;go_enter Tryz.func47,Tryz.ntmps47;go_wp2_with fail;refine wp_region_held_drew (S:=fun w'=>w'.cell? ⟨bP,0,none⟩=some (.slice ao L cap)∧w'.cell? ⟨bQ,0,none⟩=some (.slice bo M b)) (by kernel_rfl) ⟨b0,b1⟩ (fun hS=>?_);refine aB 0 (some 10) (.slice ao L cap) (y:=.inl ⟨by rfl,fun w h=>by simp [execOp,go_sem,h.1]⟩) (s:=hS) (k:=?_);simp only [Act.put,lsA,lsS,lsZ];refine aB 2 (some 12) (.slice bo M b) (y:=.inl ⟨by rfl,fun w h=>by simp [execOp,go_sem,h.2]⟩) (s:=hS) (k:=?_);simp only [Act.put,lsA,lsS,lsZ];refine bk 1 (some 11) (by kernel_rfl) rfl rfl (by rfl) 48 _ _ [.slice ao L cap] rfl rfl (fun _ _=>by simp [go_sem]) (J1) ?_
 rintro e w4 ⟨vo,vc,rfl,_,_,k4⟩;have i:w4.cell? ⟨bP,0,none⟩=some (.slice ao L cap)∧w4.cell? ⟨bQ,0,none⟩=some (.slice bo M b):=⟨k4.cellN hS.1,k4.cellN hS.2⟩
 refine .inl ⟨_,rfl,i,?_⟩;simp only [Act.put,lsA,lsS,lsZ];refine bk 3 (some 13) (by kernel_rfl) rfl rfl (by rfl) 48 _ _ [.slice bo M b] rfl rfl (fun _ _=>by simp [go_sem]) (J2.out w4 (KD.trans k4)) ?_;rintro e w5 ⟨rfl,k5⟩;exact .inr ⟨_,rfl,rfl,.no hN ((KD.trans k4).trans k5)⟩

theorem Bt (bP bQ bE bK:Nat) (ao bo:Option Addr) (L M cap d:Nat) (xs ys:List Nat) (P Q e B:Nat) (hP:P=val xs) (hQ:Q=val ys) (g:L≤300∧bY P) (b:M≤300∧bY Q) (l:fm (aO P Q) e≠0) (a w:World) (hu:Row .u64 w (.slice ao L cap) xs) (hv:Row .u64 w (.slice bo M d) ys) (V:Digs xs) (N:Digs ys) (b0:w.cell? ⟨bP,0,none⟩=some (.slice ao L cap)) (b1:w.cell? ⟨bQ,0,none⟩=some (.slice bo M d)) (b2:w.cell? ⟨bE,0,none⟩=some (.int .u64 (e:Int))) :
  Calls Tryz.prog 47 #[.pointer (some ⟨bP,0,none⟩),.pointer (some ⟨bQ,0,none⟩),.pointer (some ⟨bE,0,none⟩),.pointer (some ⟨bK,0,none⟩)] w fun r w'=>OfEnd L M P Q e B bK a w r w':=by
 have O:0<P*Q:=Nat.mul_pos (by have:=g.2.1;omega) (by have:=b.2.1;omega);obtain ⟨np,E⟩:∃ np,np=aj P:=⟨_,rfl⟩
 obtain ⟨nq,H⟩:∃ nq,nq=aj Q:=⟨_,rfl⟩
 obtain ⟨nw,m⟩:∃ nw,nw=aj (P*Q):=⟨_,rfl⟩
 have ac:=g.2.1;have ad:=b.2.1;have ab:=g.2.2.1;have F:np≤128:=by rw [E];exact aJ (n:=128) (by have:=g.2.2.2;omega)
 have A:nq≤128:=by rw [H];exact aJ (n:=128) (by have:=b.2.2.2;omega)
 have q:P<18446744073709551616^np:=(am P np).1 (by omega);have I:Q<18446744073709551616^nq:=(am Q nq).1 (by omega);have G:P*Q<18446744073709551616^(np+nq):=by rw [Nat.pow_add];exact Nat.mul_lt_mul_of_lt_of_lt q I
 have D:nw≤np+nq:=by rw [m];exact (am _ _).2 G
 have Y:P*Q<18446744073709551616^nw:=(am _ nw).1 (by omega);have vP:val (digs P np)=P:=by rw [ak,al q]
 have vQ:val (digs Q nq)=Q:=by rw [ak,al I]
 have vN:val (digs (P*Q) nw)=P*Q:=by rw [ak,al Y]
 have dP:Digs (digs P np):=ah (by omega) _ _;have dQ:Digs (digs Q nq):=ah (by omega) _ _;have dN:Digs (digs (P*Q) nw):=ah (by omega) _ _;have X:aO P Q=digs (P*Q) nw:=by rw [m];exact fu O
 have KD:Kept af w w.drew:=(ai af w).drew;have J1:=iN ao L cap xs P np hP E g w.drew (hu.grew KD) V;have J2:Hid (∀ W,Kept af w W→Calls Tryz.prog 48 #[.slice bo M d] W fun e w'=>∃ vo vc,e=.returned (.slice vo nq vc)∧Row .u64 w' (.slice vo nq vc) (digs Q nq)∧Fresh W (.slice vo nq vc)∧Kept af W w'):=fun W k=>iN bo M d ys Q nq hQ H b W (hv.grew k) N
 have i:Hid (∀ W va ca vb cb,Row .u64 W (.slice va np ca) (digs P np)→Row .u64 W (.slice vb nq cb) (digs Q nq)→Calls Tryz.prog 50 #[.pointer none,.slice va np ca,.slice vb nq cb] W fun e w'=>∃ vo vc,e=.returned (.slice vo (np+nq) vc)∧Row .u64 w' (.slice vo (np+nq) vc) (digs (P*Q) (np+nq))∧Kept af W w'):=fun W va ca vb cb h1 h2=>by
  refine (uH va vb np nq ca cb _ _ W h1 h2 dP dQ).mono ?_;rintro e w' ⟨v',rfl,hr,k⟩;rw [vP,vQ] at hr;unfold fF at hr;rw [if_pos (by omega)] at hr;obtain ⟨vo,vn,vc,rfl,hl,_,_,_,_⟩:=hr.open;obtain rfl:np+nq=vn:=by rw [← hl.out,ag]
  exact ⟨_,_,rfl,hr,k⟩
 have JN:Hid (∀ W v c,Row .u64 W (.slice v (np+nq) c) (digs (P*Q) (np+nq))→Calls Tryz.prog 49 #[.slice v (np+nq) c] W fun e w'=>∃ vo vc,e=.returned (.slice vo nw vc)∧Row .u64 w' (.slice vo nw vc) (digs (P*Q) nw)∧Fresh W (.slice vo nw vc)∧Kept af W w'):=fun W v c h=>li v (np+nq) c _ (P*Q) nw (by rw [ak,al G]) m (by omega) W h (ah (by omega) _ _) (by rw [ag];omega)
 have f:Hid (∀ W v c,Row .u64 W (.slice v nw c) (digs (P*Q) nw)→Calls Tryz.prog 52 #[.slice v nw c,.int .u64 (e:Nat)] W fun r w'=>r=.returned (.int .i64 ((fm (digs (P*Q) nw) e:Nat):Int))∧Kept af W w'):=fun W v c h=>xQ v nw c _ e W h dN (by omega)
 have hN:¬ bw L M P Q e:=fun h=>l h.2.2.2.2.1
 rw [X] at l;rw [(gh _ _).resolve_left l] at f;have hY:=cf 190;clear hu hv V N hP hQ g b O E H m ac ad ab F A q I G D Y vP vQ vN dP dQ dN X l;go_enter Tryz.func47,Tryz.ntmps47;go_wp2_with fail;refine wp_region_held_drew (S:=fun w'=>w'.cell? ⟨bP,0,none⟩=some (.slice ao L cap)∧w'.cell? ⟨bQ,0,none⟩=some (.slice bo M d)) (by kernel_rfl) ⟨b0,b1⟩ (fun hS=>?_);refine aB 0 (some 10) (.slice ao L cap) (y:=.inl ⟨by rfl,fun w h=>by simp [execOp,go_sem,h.1]⟩) (s:=hS) (k:=?_);simp only [Act.put,lsA,lsS,lsZ];refine aB 2 (some 12) (.slice bo M d) (y:=.inl ⟨by rfl,fun w h=>by simp [execOp,go_sem,h.2]⟩) (s:=hS) (k:=?_)
 simp only [Act.put,lsA,lsS,lsZ];refine bk 1 (some 11) (by kernel_rfl) rfl rfl (by rfl) 48 _ _ [.slice ao L cap] rfl rfl (fun _ _=>by simp [go_sem]) (J1) ?_;rintro e w4 ⟨vp,cp,rfl,U,_,k4⟩;have o:w4.cell? ⟨bP,0,none⟩=some (.slice ao L cap)∧w4.cell? ⟨bQ,0,none⟩=some (.slice bo M d):=⟨k4.cellN hS.1,k4.cellN hS.2⟩
 refine .inl ⟨_,rfl,o,?_⟩;simp only [Act.put,lsA,lsS,lsZ];refine bk 3 (some 13) (by kernel_rfl) rfl rfl (by rfl) 48 _ _ [.slice bo M d] rfl rfl (fun _ _=>by simp [go_sem]) (J2.out w4 (KD.trans k4)) ?_;rintro e w5 ⟨vq,cq,rfl,J,_,k5⟩;have j:w5.cell? ⟨bP,0,none⟩=some (.slice ao L cap)∧w5.cell? ⟨bQ,0,none⟩=some (.slice bo M d):=⟨k5.cellN o.1,k5.cellN o.2⟩
 refine .inl ⟨_,rfl,j,?_⟩;simp only [Act.put,lsA,lsS,lsZ];refine aB 4 (some 4) (.slice vp np cp) (y:=.inl ⟨by rfl,fun w h=>by simp [execOp,go_sem]⟩) (s:=j) (k:=?_);simp only [Act.put,lsA,lsS,lsZ];refine aB 5 (some 5) (.slice vq nq cq) (y:=.inl ⟨by rfl,fun w h=>by simp [execOp,go_sem]⟩) (s:=j) (k:=?_);simp only [Act.put,lsA,lsS,lsZ];refine wpAnyH_done (by kernel_rfl) ?_ _;have z:=aa ((KD.trans k4).trans k5);have t:=aa (U.grew k5);have p:=aa J;have J5:=i.out w5 vp cp vq cq t.out p.out;clear J1 J2 KD k4 k5 U J hS o j i b0 b1;go_wp2_with fail;refine J5.mono ?_;rintro e6 w6 ⟨vm,cm,rfl,T,k6⟩;have J6:=JN.out w6 vm cm T;clear J5 T JN
 go_wp2_with fail;refine J6.mono ?_;rintro e6 w7 ⟨vn,cn,rfl,C,R,k7⟩;have x:=aa (z.out.trans (k6.trans k7));have aq:=aa (t.out.grew (k6.trans k7));have ap:=aa (p.out.grew (k6.trans k7));have ae:=aa C;have an:=aa (R.after (z.out.trans k6));have J7:=f.out w7 vn cn C;have c7:=x.out.cellN b2;clear J6 C R k6 k7 z t p f;go_wp2_with fail;refine J7.mono ?_;rintro e6 w8 ⟨rfl,k8⟩;have Z:=aa (x.out.trans k8);clear J7 k8 x;go_wp2_with fail;refine (hY _).mono ?_;rintro e6 w9 ⟨rfl,rfl⟩;exact ⟨rfl,.no hN Z.out⟩

theorem BO (bP bQ bE bK:Nat) (ao bo:Option Addr) (L M cap f:Nat) (xs ys:List Nat) (P Q e B:Nat) (hP:P=val xs) (hQ:Q=val ys) (j:L≤300∧bY P) (b:M≤300∧bY Q) (g:fm (aO P Q) e=0) (F:Nat.gcd Q P≠1) (a w:World) (hu:Row .u64 w (.slice ao L cap) xs) (hv:Row .u64 w (.slice bo M f) ys) (ad:Digs xs) (T:Digs ys) (b0:w.cell? ⟨bP,0,none⟩=some (.slice ao L cap)) (b1:w.cell? ⟨bQ,0,none⟩=some (.slice bo M f)) (b2:w.cell? ⟨bE,0,none⟩=some (.int .u64 (e:Int))) :
  Calls Tryz.prog 47 #[.pointer (some ⟨bP,0,none⟩),.pointer (some ⟨bQ,0,none⟩),.pointer (some ⟨bE,0,none⟩),.pointer (some ⟨bK,0,none⟩)] w fun r w'=>OfEnd L M P Q e B bK a w r w':=by
 have V:0<P*Q:=Nat.mul_pos (by have:=j.2.1;omega) (by have:=b.2.1;omega);obtain ⟨np,q⟩:∃ np,np=aj P:=⟨_,rfl⟩
 obtain ⟨nq,J⟩:∃ nq,nq=aj Q:=⟨_,rfl⟩
 obtain ⟨nw,o⟩:∃ nw,nw=aj (P*Q):=⟨_,rfl⟩
 have av:=j.2.1;have aA:=b.2.1;have X:=j.2.2.1;have H:np≤128:=by rw [q];exact aJ (n:=128) (by have:=j.2.2.2;omega)
 have D:nq≤128:=by rw [J];exact aJ (n:=128) (by have:=b.2.2.2;omega)
 have x:P<18446744073709551616^np:=(am P np).1 (by omega);have N:Q<18446744073709551616^nq:=(am Q nq).1 (by omega);have I:P*Q<18446744073709551616^(np+nq):=by rw [Nat.pow_add];exact Nat.mul_lt_mul_of_lt_of_lt x N
 have G:nw≤np+nq:=by rw [o];exact (am _ _).2 I
 have ap:P*Q<18446744073709551616^nw:=(am _ nw).1 (by omega);have vP:val (digs P np)=P:=by rw [ak,al x]
 have vQ:val (digs Q nq)=Q:=by rw [ak,al N]
 have vN:val (digs (P*Q) nw)=P*Q:=by rw [ak,al ap]
 have dP:Digs (digs P np):=ah (by omega) _ _;have dQ:Digs (digs Q nq):=ah (by omega) _ _;have dN:Digs (digs (P*Q) nw):=ah (by omega) _ _;have ae:aO P Q=digs (P*Q) nw:=by rw [o];exact fu V
 have KD:Kept af w w.drew:=(ai af w).drew;have J1:=iN ao L cap xs P np hP q j w.drew (hu.grew KD) ad;have J2:Hid (∀ W,Kept af w W→Calls Tryz.prog 48 #[.slice bo M f] W fun e w'=>∃ vo vc,e=.returned (.slice vo nq vc)∧Row .u64 w' (.slice vo nq vc) (digs Q nq)∧Fresh W (.slice vo nq vc)∧Kept af W w'):=fun W k=>iN bo M f ys Q nq hQ J b W (hv.grew k) T
 have l:Hid (∀ W va ca vb cb,Row .u64 W (.slice va np ca) (digs P np)→Row .u64 W (.slice vb nq cb) (digs Q nq)→Calls Tryz.prog 50 #[.pointer none,.slice va np ca,.slice vb nq cb] W fun e w'=>∃ vo vc,e=.returned (.slice vo (np+nq) vc)∧Row .u64 w' (.slice vo (np+nq) vc) (digs (P*Q) (np+nq))∧Kept af W w'):=fun W va ca vb cb h1 h2=>by
  refine (uH va vb np nq ca cb _ _ W h1 h2 dP dQ).mono ?_;rintro e w' ⟨v',rfl,hr,k⟩;rw [vP,vQ] at hr;unfold fF at hr;rw [if_pos (by omega)] at hr;obtain ⟨vo,vn,vc,rfl,hl,_,_,_,_⟩:=hr.open;obtain rfl:np+nq=vn:=by rw [← hl.out,ag]
  exact ⟨_,_,rfl,hr,k⟩
 have JN:Hid (∀ W v c,Row .u64 W (.slice v (np+nq) c) (digs (P*Q) (np+nq))→Calls Tryz.prog 49 #[.slice v (np+nq) c] W fun e w'=>∃ vo vc,e=.returned (.slice vo nw vc)∧Row .u64 w' (.slice vo nw vc) (digs (P*Q) nw)∧Fresh W (.slice vo nw vc)∧Kept af W w'):=fun W v c h=>li v (np+nq) c _ (P*Q) nw (by rw [ak,al I]) o (by omega) W h (ah (by omega) _ _) (by rw [ag];omega)
 have i:Hid (∀ W v c,Row .u64 W (.slice v nw c) (digs (P*Q) nw)→Calls Tryz.prog 52 #[.slice v nw c,.int .u64 (e:Nat)] W fun r w'=>r=.returned (.int .i64 ((fm (digs (P*Q) nw) e:Nat):Int))∧Kept af W w'):=fun W v c h=>xQ v nw c _ e W h dN (by omega)
 have d:=g;rw [ae] at d;have U:=(jD dN (by rw [ag];omega) e).1 d;rw [vN] at U;obtain ⟨-,-,az,ay,au⟩:=U;rw [d] at i;have hR:=bd 190;have hN:¬ bw L M P Q e:=fun h=>F (by rw [Nat.gcd_comm];exact h.2.2.2.1)
 have JI:Hid (∀ W va ca vb cb,Row .u64 W (.slice va nq ca) (digs Q nq)→Row .u64 W (.slice vb np cb) (digs P np)→Calls Tryz.prog 53 #[.slice va nq ca,.slice vb np cb] W fun e w'=>e=.panicked [refusal 190]∧Kept af W w'):=fun W va ca vb cb h1 h2=>pF va vb nq np ca cb _ _ Q P vQ.symm vP.symm (by omega) X q (by omega) (by omega) F W h1 h2 dQ dP
 clear az ay au F hu hv ad T hP hQ j b V q J o av aA X H D x N I G ap vP vQ vN dP dQ dN ae d g;go_enter Tryz.func47,Tryz.ntmps47;go_wp2_with fail;refine wp_region_held_drew (S:=fun w'=>w'.cell? ⟨bP,0,none⟩=some (.slice ao L cap)∧w'.cell? ⟨bQ,0,none⟩=some (.slice bo M f)) (by kernel_rfl) ⟨b0,b1⟩ (fun hS=>?_);refine aB 0 (some 10) (.slice ao L cap) (y:=.inl ⟨by rfl,fun w h=>by simp [execOp,go_sem,h.1]⟩) (s:=hS) (k:=?_);simp only [Act.put,lsA,lsS,lsZ];refine aB 2 (some 12) (.slice bo M f) (y:=.inl ⟨by rfl,fun w h=>by simp [execOp,go_sem,h.2]⟩) (s:=hS) (k:=?_);simp only [Act.put,lsA,lsS,lsZ]
 refine bk 1 (some 11) (by kernel_rfl) rfl rfl (by rfl) 48 _ _ [.slice ao L cap] rfl rfl (fun _ _=>by simp [go_sem]) (J1) ?_;rintro e w4 ⟨vp,cp,rfl,ab,_,k4⟩;have p:w4.cell? ⟨bP,0,none⟩=some (.slice ao L cap)∧w4.cell? ⟨bQ,0,none⟩=some (.slice bo M f):=⟨k4.cellN hS.1,k4.cellN hS.2⟩
 refine .inl ⟨_,rfl,p,?_⟩;simp only [Act.put,lsA,lsS,lsZ];refine bk 3 (some 13) (by kernel_rfl) rfl rfl (by rfl) 48 _ _ [.slice bo M f] rfl rfl (fun _ _=>by simp [go_sem]) (J2.out w4 (KD.trans k4)) ?_;rintro e w5 ⟨vq,cq,rfl,R,_,k5⟩;have m:w5.cell? ⟨bP,0,none⟩=some (.slice ao L cap)∧w5.cell? ⟨bQ,0,none⟩=some (.slice bo M f):=⟨k5.cellN p.1,k5.cellN p.2⟩
 refine .inl ⟨_,rfl,m,?_⟩;simp only [Act.put,lsA,lsS,lsZ];refine aB 4 (some 4) (.slice vp np cp) (y:=.inl ⟨by rfl,fun w h=>by simp [execOp,go_sem]⟩) (s:=m) (k:=?_);simp only [Act.put,lsA,lsS,lsZ];refine aB 5 (some 5) (.slice vq nq cq) (y:=.inl ⟨by rfl,fun w h=>by simp [execOp,go_sem]⟩) (s:=m) (k:=?_);simp only [Act.put,lsA,lsS,lsZ];refine wpAnyH_done (by kernel_rfl) ?_ _;have C:=aa ((KD.trans k4).trans k5);have z:=aa (ab.grew k5);have t:=aa R;have J5:=l.out w5 vp cp vq cq z.out t.out;clear J1 J2 KD k4 k5 ab R hS p m l b0 b1;go_wp2_with fail;refine J5.mono ?_;rintro e6 w6 ⟨vm,cm,rfl,Z,k6⟩;have J6:=JN.out w6 vm cm Z;clear J5 Z JN
 go_wp2_with fail;refine J6.mono ?_;rintro e6 w7 ⟨vn,cn,rfl,E,Y,k7⟩;have A:=aa (C.out.trans (k6.trans k7));have an:=aa (z.out.grew (k6.trans k7));have ac:=aa (t.out.grew (k6.trans k7));have O:=aa E;have aE:=aa (Y.after (C.out.trans k6));have J7:=i.out w7 vn cn E;have c7:=A.out.cellN b2;clear J6 E Y k6 k7 C z t i;go_wp2_with fail;refine J7.mono ?_;rintro e6 w8 ⟨rfl,k8⟩;have aq:=aa (A.out.trans k8);have aw:=aa (an.out.grew k8);have ax:=aa (ac.out.grew k8);have aC:=aa (O.out.grew k8);clear J7 k8 A an ac O;go_wp2_with fail;refine (hR _).mono ?_;rintro e6 w9 ⟨rfl,rfl⟩
 have J9:=JI.out w9 vq cq vp cp ax.out aw.out;clear hR JI;go_wp2_with fail;refine J9.mono ?_;rintro e6 aD ⟨rfl,ar⟩;exact ⟨rfl,.no hN (aq.out.trans ar)⟩

theorem B2 (bP bQ bE bK:Nat) (ao bo:Option Addr) (L M cap g:Nat) (xs ys:List Nat) (P Q e B:Nat) (hP:P=val xs) (hQ:Q=val ys) (m:L≤300∧bY P) (b:M≤300∧bY Q) (i:fm (aO P Q) e=0) (hg:Nat.gcd Q P=1) (an:Nat.gcd (bZ P Q) e≠1) (a w:World) (hu:Row .u64 w (.slice ao L cap) xs) (hv:Row .u64 w (.slice bo M g) ys) (aI:Digs xs) (aM:Digs ys) (b0:w.cell? ⟨bP,0,none⟩=some (.slice ao L cap)) (b1:w.cell? ⟨bQ,0,none⟩=some (.slice bo M g)) (b2:w.cell? ⟨bE,0,none⟩=some (.int .u64 (e:Int))) :
  Calls Tryz.prog 47 #[.pointer (some ⟨bP,0,none⟩),.pointer (some ⟨bQ,0,none⟩),.pointer (some ⟨bE,0,none⟩),.pointer (some ⟨bK,0,none⟩)] w fun r w'=>OfEnd L M P Q e B bK a w r w':=by
 have aP:0<P*Q:=Nat.mul_pos (by have:=m.2.1;omega) (by have:=b.2.1;omega);obtain ⟨np,A⟩:∃ np,np=aj P:=⟨_,rfl⟩
 obtain ⟨nq,au⟩:∃ nq,nq=aj Q:=⟨_,rfl⟩
 obtain ⟨nw,E⟩:∃ nw,nw=aj (P*Q):=⟨_,rfl⟩
 have aC:=m.2.1;have aU:=b.2.1;have aQ:=m.2.2.1;have aq:np≤128:=by rw [A];exact aJ (n:=128) (by have:=m.2.2.2;omega)
 have J:nq≤128:=by rw [au];exact aJ (n:=128) (by have:=b.2.2.2;omega)
 have z:P<18446744073709551616^np:=(am P np).1 (by omega);have D:Q<18446744073709551616^nq:=(am Q nq).1 (by omega);have ar:P*Q<18446744073709551616^(np+nq):=by rw [Nat.pow_add];exact Nat.mul_lt_mul_of_lt_of_lt z D
 have ap:nw≤np+nq:=by rw [E];exact (am _ _).2 ar
 have aT:P*Q<18446744073709551616^nw:=(am _ nw).1 (by omega);have vP:val (digs P np)=P:=by rw [ak,al z]
 have vQ:val (digs Q nq)=Q:=by rw [ak,al D]
 have vN:val (digs (P*Q) nw)=P*Q:=by rw [ak,al aT]
 have dP:Digs (digs P np):=ah (by omega) _ _;have dQ:Digs (digs Q nq):=ah (by omega) _ _;have dN:Digs (digs (P*Q) nw):=ah (by omega) _ _;have aS:aO P Q=digs (P*Q) nw:=by rw [E];exact fu aP
 have KD:Kept af w w.drew:=(ai af w).drew;have J1:=iN ao L cap xs P np hP A m w.drew (hu.grew KD) aI;have J2:Hid (∀ W,Kept af w W→Calls Tryz.prog 48 #[.slice bo M g] W fun e w'=>∃ vo vc,e=.returned (.slice vo nq vc)∧Row .u64 w' (.slice vo nq vc) (digs Q nq)∧Fresh W (.slice vo nq vc)∧Kept af W w'):=fun W k=>iN bo M g ys Q nq hQ au b W (hv.grew k) aM
 have p:Hid (∀ W va ca vb cb,Row .u64 W (.slice va np ca) (digs P np)→Row .u64 W (.slice vb nq cb) (digs Q nq)→Calls Tryz.prog 50 #[.pointer none,.slice va np ca,.slice vb nq cb] W fun e w'=>∃ vo vc,e=.returned (.slice vo (np+nq) vc)∧Row .u64 w' (.slice vo (np+nq) vc) (digs (P*Q) (np+nq))∧Kept af W w'):=fun W va ca vb cb h1 h2=>by
  refine (uH va vb np nq ca cb _ _ W h1 h2 dP dQ).mono ?_;rintro e w' ⟨v',rfl,hr,k⟩;rw [vP,vQ] at hr;unfold fF at hr;rw [if_pos (by omega)] at hr;obtain ⟨vo,vn,vc,rfl,hl,_,_,_,_⟩:=hr.open;obtain rfl:np+nq=vn:=by rw [← hl.out,ag]
  exact ⟨_,_,rfl,hr,k⟩
 have JN:Hid (∀ W v c,Row .u64 W (.slice v (np+nq) c) (digs (P*Q) (np+nq))→Calls Tryz.prog 49 #[.slice v (np+nq) c] W fun e w'=>∃ vo vc,e=.returned (.slice vo nw vc)∧Row .u64 w' (.slice vo nw vc) (digs (P*Q) nw)∧Fresh W (.slice vo nw vc)∧Kept af W w'):=fun W v c h=>li v (np+nq) c _ (P*Q) nw (by rw [ak,al ar]) E (by omega) W h (ah (by omega) _ _) (by rw [ag];omega)
 have l:Hid (∀ W v c,Row .u64 W (.slice v nw c) (digs (P*Q) nw)→Calls Tryz.prog 52 #[.slice v nw c,.int .u64 (e:Nat)] W fun r w'=>r=.returned (.int .i64 ((fm (digs (P*Q) nw) e:Nat):Int))∧Kept af W w'):=fun W v c h=>xQ v nw c _ e W h dN (by omega)
 have f:=i;rw [aS] at f;have aN:=(jD dN (by rw [ag];omega) e).1 f;rw [vN] at aN;obtain ⟨-,-,aR,a0,ay⟩:=aN;rw [f] at l;have hR:=bd 190;have hN:¬ bw L M P Q e:=fun h=>an (by rw [Nat.gcd_comm];exact h.2.2.2.2.2)
 have JI:Hid (∀ W va ca vb cb,Row .u64 W (.slice va nq ca) (digs Q nq)→Row .u64 W (.slice vb np cb) (digs P np)→Calls Tryz.prog 53 #[.slice va nq ca,.slice vb np cb] W fun e w'=>∃ vo vc T,e=.returned (.slice vo np vc)∧Hid (T<P∧Q*T%P=1)∧Row .u64 w' (.slice vo np vc) (digs T np)∧Kept af W w'):=fun W va ca vb cb h1 h2=>AU va vb nq np ca cb _ _ Q P vQ.symm vP.symm (by omega) aQ A (by omega) (by omega) hg W h1 h2 dQ dP
 obtain ⟨C,hC⟩:∃ C,C=bZ P Q:=⟨_,rfl⟩
 obtain ⟨nc,ad⟩:∃ nc,nc=aj C:=⟨_,rfl⟩
 have aD:C<18446744073709551616^(np+nq):=by rw [hC];exact jK z D (by omega) (by omega)
 have I:nc≤np+nq:=by rw [ad];exact (am _ _).2 aD
 have aA:C<18446744073709551616^nc:=(am C nc).1 (by omega);have vC:val (digs C nc)=C:=by rw [ak,al aA]
 have a1:2≤C:=by rw [hC];exact pq aC aU
 have U:Hid (∀ W va ca vb cb,Row .u64 W (.slice va np ca) (digs P np)→Row .u64 W (.slice vb nq cb) (digs Q nq)→Calls Tryz.prog 56 #[.slice va np ca,.slice vb nq cb] W fun e w'=>∃ vo vc,e=.returned (.tuple #[.slice vo nc vc,.int .i64 0])∧Row .u64 w' (.slice vo nc vc) (digs C nc)∧Kept af W w'):=fun W va ca vb cb h1 h2=>by
  refine (BW va vb np nq ca cb _ _ P Q 0 _ vP.symm vQ.symm (by omega) (by omega) (.inl ⟨rfl,by omega,by omega⟩) (by rw [if_pos rfl,← hC,← ad]) W h1 h2 dP dQ).mono ?_;rintro e w' ⟨v',rfl,hr,_,k⟩;obtain ⟨vo,vn,vc,rfl,hl,_,_,_,_⟩:=hr.open;obtain rfl:nc=vn:=by rw [← hl.out,ag]
  exact ⟨_,_,rfl,hr,k⟩
 have aV:=fun v n c W=>ix v n c W
 have JX:Hid (∀ W v c,Row .u64 W (.slice v nc c) (digs C nc)→Calls Tryz.prog 54 #[.int .u64 (e:Nat),.slice v nc c] W fun r w'=>r=.panicked [refusal 190]∧Kept af W w'):=fun W v c h=>yy v nc c _ C e vC.symm aR ay (by omega) (by omega) (by rw [hC];exact an) W h (ah (by omega) _ _)
 clear aR a0 ay an hg hC ad aD I aA vC a1 hu hv aI aM hP hQ m b aP A au E aC aU aQ aq J z D ar ap aT vP vQ vN dP dQ dN aS f i;go_enter Tryz.func47,Tryz.ntmps47;go_wp2_with fail;refine wp_region_held_drew (S:=fun w'=>w'.cell? ⟨bP,0,none⟩=some (.slice ao L cap)∧w'.cell? ⟨bQ,0,none⟩=some (.slice bo M g)) (by kernel_rfl) ⟨b0,b1⟩ (fun hS=>?_);refine aB 0 (some 10) (.slice ao L cap) (y:=.inl ⟨by rfl,fun w h=>by simp [execOp,go_sem,h.1]⟩) (s:=hS) (k:=?_);simp only [Act.put,lsA,lsS,lsZ];refine aB 2 (some 12) (.slice bo M g) (y:=.inl ⟨by rfl,fun w h=>by simp [execOp,go_sem,h.2]⟩) (s:=hS) (k:=?_);simp only [Act.put,lsA,lsS,lsZ]
 refine bk 1 (some 11) (by kernel_rfl) rfl rfl (by rfl) 48 _ _ [.slice ao L cap] rfl rfl (fun _ _=>by simp [go_sem]) (J1) ?_;rintro e w4 ⟨vp,cp,rfl,aG,_,k4⟩;have F:w4.cell? ⟨bP,0,none⟩=some (.slice ao L cap)∧w4.cell? ⟨bQ,0,none⟩=some (.slice bo M g):=⟨k4.cellN hS.1,k4.cellN hS.2⟩
 refine .inl ⟨_,rfl,F,?_⟩;simp only [Act.put,lsA,lsS,lsZ];refine bk 3 (some 13) (by kernel_rfl) rfl rfl (by rfl) 48 _ _ [.slice bo M g] rfl rfl (fun _ _=>by simp [go_sem]) (J2.out w4 (KD.trans k4)) ?_;rintro e w5 ⟨vq,cq,rfl,ax,_,k5⟩;have x:w5.cell? ⟨bP,0,none⟩=some (.slice ao L cap)∧w5.cell? ⟨bQ,0,none⟩=some (.slice bo M g):=⟨k5.cellN F.1,k5.cellN F.2⟩
 refine .inl ⟨_,rfl,x,?_⟩;simp only [Act.put,lsA,lsS,lsZ];refine aB 4 (some 4) (.slice vp np cp) (y:=.inl ⟨by rfl,fun w h=>by simp [execOp,go_sem]⟩) (s:=x) (k:=?_);simp only [Act.put,lsA,lsS,lsZ];refine aB 5 (some 5) (.slice vq nq cq) (y:=.inl ⟨by rfl,fun w h=>by simp [execOp,go_sem]⟩) (s:=x) (k:=?_);simp only [Act.put,lsA,lsS,lsZ];refine wpAnyH_done (by kernel_rfl) ?_ _;have ab:=aa ((KD.trans k4).trans k5);have H:=aa (aG.grew k5);have G:=aa ax;have J5:=p.out w5 vp cp vq cq H.out G.out;clear J1 J2 KD k4 k5 aG ax hS F x p b0 b1;go_wp2_with fail;refine J5.mono ?_;rintro e6 w6 ⟨vm,cm,rfl,aF,k6⟩;have J6:=JN.out w6 vm cm aF;clear J5 aF JN
 go_wp2_with fail;refine J6.mono ?_;rintro e6 w7 ⟨vn,cn,rfl,N,aE,k7⟩;have Z:=aa (ab.out.trans (k6.trans k7));have aK:=aa (H.out.grew (k6.trans k7));have aH:=aa (G.out.grew (k6.trans k7));have aw:=aa N;have a4:=aa (aE.after (ab.out.trans k6));have J7:=l.out w7 vn cn N;have c7:=Z.out.cellN b2;clear J6 N aE k6 k7 ab H G l;go_wp2_with fail;refine J7.mono ?_;rintro e6 w8 ⟨rfl,k8⟩;have av:=aa (Z.out.trans k8);have ae:=aa (aK.out.grew k8);have O:=aa (aH.out.grew k8);have az:=aa (aw.out.grew k8);clear J7 k8 Z aK aH aw;go_wp2_with fail;refine (hR _).mono ?_;rintro e6 w9 ⟨rfl,rfl⟩
 have J9:=JI.out w9 vq cq vp cp O.out ae.out;clear hR JI;go_wp2_with fail;refine J9.mono ?_;rintro e6 ac ⟨vi,ci,T,rfl,HT,q,o⟩;have t:=aa (av.out.trans o);have R:=aa (ae.out.grew o);have V:=aa (O.out.grew o);have a2:=aa (az.out.grew o);have aX:=aa q;have j:Kept af ac ac.drew:=(ai af ac).drew;have aZ:=t.out.cellN b2;clear J9 q o av ae O az c7;go_wp2_with fail;refine wp_region_held_drew (S:=fun w'=>w'.cell? ⟨bE,0,none⟩=some (.int .u64 (e:Int))) (by kernel_rfl) aZ (fun hS=>?_);refine aB 0 (some 26) (.int .u64 (e:Int)) (y:=.inl ⟨by rfl,fun w h=>by simp [execOp,go_sem,h]⟩) (s:=hS) (k:=?_)
 simp only [Act.put,lsA,lsS,lsZ];refine aB 1 (some 27) (.slice vp np cp) (y:=.inl ⟨by rfl,fun w h=>by simp [execOp,go_sem]⟩) (s:=hS) (k:=?_);simp only [Act.put,lsA,lsS,lsZ];refine aB 2 (some 28) (.slice vq nq cq) (y:=.inl ⟨by rfl,fun w h=>by simp [execOp,go_sem]⟩) (s:=hS) (k:=?_);simp only [Act.put,lsA,lsS,lsZ];refine bk 3 (some 29) (by kernel_rfl) rfl rfl (by rfl) 56 _ _ [.slice vp np cp,.slice vq nq cq] rfl rfl (fun _ _=>by simp [go_sem]) (U.out _ vp cp vq cq (R.out.grew j) (V.out.grew j)) ?_;rintro e6 aW ⟨vc,cc,rfl,X,aL⟩;have d:=aL.cellN hS;refine .inl ⟨_,rfl,d,?_⟩;simp only [Act.put,lsA,lsS,lsZ]
 refine aB 4 (some 30) (.slice vc nc cc) (y:=.inl ⟨by rfl,fun w h=>by simp [execOp,go_sem]⟩) (s:=d) (k:=?_);simp only [Act.put,lsA,lsS,lsZ];refine aB 5 (some 31) (.int .i64 0) (y:=.inl ⟨by rfl,fun w h=>by simp [execOp,go_sem]⟩) (s:=d) (k:=?_);simp only [Act.put,lsA,lsS,lsZ];refine bk 6 (some 32) (by kernel_rfl) rfl rfl (by rfl) 55 _ _ [.slice vc nc cc,.int .i64 0] rfl rfl (fun _ _=>by simp [go_sem]) (aV vc nc cc aW) ?_;rintro e6 a5 ⟨rfl,Y⟩;subst Y;refine .inl ⟨_,rfl,d,?_⟩;simp only [Act.put,lsA,lsS,lsZ];refine bk 7 (some 33) (by kernel_rfl) rfl rfl (by rfl) 54 _ _ [.int .u64 (e:Int),.slice vc nc cc] rfl rfl (fun _ _=>by simp [go_sem]) (JX.out _ vc cc X) ?_
 rintro e6 a3 ⟨rfl,aY⟩;exact .inr ⟨_,rfl,rfl,.no hN ((t.out.trans (j.trans aL)).trans aY)⟩

theorem Bb (bP bQ bE bK:Nat) (ao bo:Option Addr) (L M cap D:Nat) (xs ys:List Nat) (P Q e B:Nat) (hP:P=val xs) (hQ:Q=val ys) (E:L≤300∧bY P) (j:M≤300∧bY Q) (p:fm (aO P Q) e=0) (hg:Nat.gcd Q P=1) (a8:Nat.gcd (bZ P Q) e=1) (a w:World) (hu:Row .u64 w (.slice ao L cap) xs) (hv:Row .u64 w (.slice bo M D) ys) (bC:Digs xs) (b4:Digs ys) (b0:w.cell? ⟨bP,0,none⟩=some (.slice ao L cap)) (b1:w.cell? ⟨bQ,0,none⟩=some (.slice bo M D)) (b2:w.cell? ⟨bE,0,none⟩=some (.int .u64 (e:Int))) (ha:Kept af a w) (bV:a.heap.size≤bK) (hB:w.heap.size=B+1) (bx:w.heap[bK]? = some (.cells zeroKey 42 (0,0))) :
  Calls Tryz.prog 47 #[.pointer (some ⟨bP,0,none⟩),.pointer (some ⟨bQ,0,none⟩),.pointer (some ⟨bE,0,none⟩),.pointer (some ⟨bK,0,none⟩)] w fun r w'=>OfEnd L M P Q e B bK a w r w':=by
 have bG:0<P*Q:=Nat.mul_pos (by have:=E.2.1;omega) (by have:=j.2.1;omega);obtain ⟨np,ac⟩:∃ np,np=aj P:=⟨_,rfl⟩
 obtain ⟨nq,aK⟩:∃ nq,nq=aj Q:=⟨_,rfl⟩
 obtain ⟨nw,aH⟩:∃ nw,nw=aj (P*Q):=⟨_,rfl⟩
 have bU:=E.2.1;have bN:=j.2.1;have bH:=E.2.2.1;have bm:np≤128:=by rw [ac];exact aJ (n:=128) (by have:=E.2.2.2;omega)
 have bb:nq≤128:=by rw [aK];exact aJ (n:=128) (by have:=j.2.2.2;omega)
 have au:P<18446744073709551616^np:=(am P np).1 (by omega);have ad:Q<18446744073709551616^nq:=(am Q nq).1 (by omega);have a3:P*Q<18446744073709551616^(np+nq):=by rw [Nat.pow_add];exact Nat.mul_lt_mul_of_lt_of_lt au ad
 have bj:nw≤np+nq:=by rw [aH];exact (am _ _).2 a3
 have bM:P*Q<18446744073709551616^nw:=(am _ nw).1 (by omega);have vP:val (digs P np)=P:=by rw [ak,al au]
 have vQ:val (digs Q nq)=Q:=by rw [ak,al ad]
 have vN:val (digs (P*Q) nw)=P*Q:=by rw [ak,al bM]
 have dP:Digs (digs P np):=ah (by omega) _ _;have dQ:Digs (digs Q nq):=ah (by omega) _ _;have dN:Digs (digs (P*Q) nw):=ah (by omega) _ _;have bl:aO P Q=digs (P*Q) nw:=by rw [aH];exact fu bG
 have KD:Kept af w w.drew:=(ai af w).drew;have J1:=iN ao L cap xs P np hP ac E w.drew (hu.grew KD) bC;have J2:Hid (∀ W,Kept af w W→Calls Tryz.prog 48 #[.slice bo M D] W fun e w'=>∃ vo vc,e=.returned (.slice vo nq vc)∧Row .u64 w' (.slice vo nq vc) (digs Q nq)∧Fresh W (.slice vo nq vc)∧Kept af W w'):=fun W k=>iN bo M D ys Q nq hQ aK j W (hv.grew k) b4
 have ap:Hid (∀ W va ca vb cb,Row .u64 W (.slice va np ca) (digs P np)→Row .u64 W (.slice vb nq cb) (digs Q nq)→Calls Tryz.prog 50 #[.pointer none,.slice va np ca,.slice vb nq cb] W fun e w'=>∃ vo vc,e=.returned (.slice vo (np+nq) vc)∧Row .u64 w' (.slice vo (np+nq) vc) (digs (P*Q) (np+nq))∧Kept af W w'):=fun W va ca vb cb h1 h2=>by
  refine (uH va vb np nq ca cb _ _ W h1 h2 dP dQ).mono ?_;rintro e w' ⟨v',rfl,hr,k⟩;rw [vP,vQ] at hr;unfold fF at hr;rw [if_pos (by omega)] at hr;obtain ⟨vo,vn,vc,rfl,hl,_,_,_,_⟩:=hr.open;obtain rfl:np+nq=vn:=by rw [← hl.out,ag]
  exact ⟨_,_,rfl,hr,k⟩
 have JN:Hid (∀ W v c,Row .u64 W (.slice v (np+nq) c) (digs (P*Q) (np+nq))→Calls Tryz.prog 49 #[.slice v (np+nq) c] W fun e w'=>∃ vo vc,e=.returned (.slice vo nw vc)∧Row .u64 w' (.slice vo nw vc) (digs (P*Q) nw)∧Fresh W (.slice vo nw vc)∧Kept af W w'):=fun W v c h=>li v (np+nq) c _ (P*Q) nw (by rw [ak,al a3]) aH (by omega) W h (ah (by omega) _ _) (by rw [ag];omega)
 have G:Hid (∀ W v c,Row .u64 W (.slice v nw c) (digs (P*Q) nw)→Calls Tryz.prog 52 #[.slice v nw c,.int .u64 (e:Nat)] W fun r w'=>r=.returned (.int .i64 ((fm (digs (P*Q) nw) e:Nat):Int))∧Kept af W w'):=fun W v c h=>xQ v nw c _ e W h dN (by omega)
 have z:=p;rw [bl] at z;have b5:=(jD dN (by rw [ag];omega) e).1 z;rw [vN] at b5;obtain ⟨-,-,bL,b9,bR⟩:=b5;rw [z] at G;have hR:=bd 190;have JI:Hid (∀ W va ca vb cb,Row .u64 W (.slice va nq ca) (digs Q nq)→Row .u64 W (.slice vb np cb) (digs P np)→Calls Tryz.prog 53 #[.slice va nq ca,.slice vb np cb] W fun e w'=>∃ vo vc T,e=.returned (.slice vo np vc)∧Hid (T<P∧Q*T%P=1)∧Row .u64 w' (.slice vo np vc) (digs T np)∧Kept af W w'):=fun W va ca vb cb h1 h2=>AU va vb nq np ca cb _ _ Q P vQ.symm vP.symm (by omega) bH ac (by omega) (by omega) hg W h1 h2 dQ dP
 obtain ⟨C,hC⟩:∃ C,C=bZ P Q:=⟨_,rfl⟩
 obtain ⟨nc,bh⟩:∃ nc,nc=aj C:=⟨_,rfl⟩
 have bt:C<18446744073709551616^(np+nq):=by rw [hC];exact jK au ad (by omega) (by omega)
 have aU:nc≤np+nq:=by rw [bh];exact (am _ _).2 bt
 have Z:C<18446744073709551616^nc:=(am C nc).1 (by omega);have vC:val (digs C nc)=C:=by rw [ak,al Z]
 have b3:2≤C:=by rw [hC];exact pq bU bN
 have ab:Hid (∀ W va ca vb cb,Row .u64 W (.slice va np ca) (digs P np)→Row .u64 W (.slice vb nq cb) (digs Q nq)→Calls Tryz.prog 56 #[.slice va np ca,.slice vb nq cb] W fun e w'=>∃ vo vc,e=.returned (.tuple #[.slice vo nc vc,.int .i64 0])∧Row .u64 w' (.slice vo nc vc) (digs C nc)∧Kept af W w'):=fun W va ca vb cb h1 h2=>by
  refine (BW va vb np nq ca cb _ _ P Q 0 _ vP.symm vQ.symm (by omega) (by omega) (.inl ⟨rfl,by omega,by omega⟩) (by rw [if_pos rfl,← hC,← bh]) W h1 h2 dP dQ).mono ?_;rintro e w' ⟨v',rfl,hr,_,k⟩;obtain ⟨vo,vn,vc,rfl,hl,_,_,_,_⟩:=hr.open;obtain rfl:nc=vn:=by rw [← hl.out,ag]
  exact ⟨_,_,rfl,hr,k⟩
 have bO:=fun v n c W=>ix v n c W
 have JX:Hid (∀ W v c,Row .u64 W (.slice v nc c) (digs C nc)→Calls Tryz.prog 54 #[.int .u64 (e:Nat),.slice v nc c] W fun r w'=>∃ vo vc d,r=.returned (.slice vo (nc+1) vc)∧Hid (d<C∧e*d%C=1)∧Row .u64 w' (.slice vo (nc+1) vc) (digs d (nc+1))∧Kept af W w'):=fun W v c h=>CN v nc c _ C e vC.symm b3 bL bR (by omega) (by omega) (by rw [hC];exact a8) W h (ah (by omega) _ _)
 obtain ⟨m,hm⟩:∃ m,m=max np nq:=⟨_,rfl⟩
 have cy:max (np:Int) (nq:Int)=(m:Int):=by omega
 have cs:C<P*Q:=by
  have h1:C≤(P-1)*(Q-1):=by
   rw [hC,bZ];exact Nat.mul_le_mul_right _ (Nat.div_le_self _ _)
  have h2:(P-1)*(Q-1)≤(P-1)*Q:=Nat.mul_le_mul_left _ (by omega);have h3:(P-1)*Q<P*Q:=Nat.mul_lt_mul_of_pos_right (by omega) (by omega);omega
 have ch:P<18446744073709551616^m:=Nat.lt_of_lt_of_le au (Nat.pow_le_pow_right (by omega) (by omega));have cl:Q<18446744073709551616^m:=Nat.lt_of_lt_of_le ad (Nat.pow_le_pow_right (by omega) (by omega));have F1:Hid (∀ W v c d,d<C→Row .u64 W (.slice v (nc+1) c) (digs d (nc+1))→Calls Tryz.prog 57 #[.slice v (nc+1) c,.int .i64 (nw:Nat)] W fun e w'=>∃ vo vc,e=.returned (.slice vo nw vc)∧Row .u64 w' (.slice vo nw vc) (digs d nw)∧Fresh W (.slice vo nw vc)∧Kept af W w'):=fun W v c d aw h=>xw v (nc+1) c _ d nw (by rw [ak,al];exact Nat.lt_of_lt_of_le (Nat.lt_trans aw Z) (Nat.pow_le_pow_right (by omega) (by omega))) (by omega) (by omega) W h (ah (by omega) _ _)
 have FP:Hid (∀ W v c X,X≤P→Row .u64 W (.slice v np c) (digs X np)→Calls Tryz.prog 57 #[.slice v np c,.int .i64 (m:Nat)] W fun e w'=>∃ vo vc,e=.returned (.slice vo m vc)∧Row .u64 w' (.slice vo m vc) (digs X m)∧Fresh W (.slice vo m vc)∧Kept af W w'):=fun W v c X hX h=>xw v np c _ X m (by rw [ak,al (by omega)]) (by omega) (by omega) W h (ah (by omega) _ _)
 have FQ:Hid (∀ W v c X,X≤Q→Row .u64 W (.slice v nq c) (digs X nq)→Calls Tryz.prog 57 #[.slice v nq c,.int .i64 (m:Nat)] W fun e w'=>∃ vo vc,e=.returned (.slice vo m vc)∧Row .u64 w' (.slice vo m vc) (digs X m)∧Fresh W (.slice vo m vc)∧Kept af W w'):=fun W v c X hX h=>xw v nq c _ X m (by rw [ak,al (by omega)]) (by omega) (by omega) W h (ah (by omega) _ _)
 have LP:Hid (∀ W v c,Row .u64 W (.slice v np c) (digs P np)→Calls Tryz.prog 59 #[.slice v np c] W fun e w'=>∃ vo vc,e=.returned (.slice vo np vc)∧Row .u64 w' (.slice vo np vc) (digs (P-1) np)∧Kept af W w'):=fun W v c h=>qj v np c _ P vP.symm (by omega) (ag _ _ _) (by omega) W h dP
 have LQ:Hid (∀ W v c,Row .u64 W (.slice v nq c) (digs Q nq)→Calls Tryz.prog 59 #[.slice v nq c] W fun e w'=>∃ vo vc,e=.returned (.slice vo nq vc)∧Row .u64 w' (.slice vo nq vc) (digs (Q-1) nq)∧Kept af W w'):=fun W v c h=>qj v nq c _ Q vQ.symm (by omega) (ag _ _ _) (by omega) W h dQ
 have RP:Hid (∀ W v c v2 c2 d,d<C→Row .u64 W (.slice v (nc+1) c) (digs d (nc+1))→Row .u64 W (.slice v2 np c2) (digs (P-1) np)→Calls Tryz.prog 58 #[.slice v (nc+1) c,.slice v2 np c2] W fun e w'=>∃ vo vc,e=.returned (.slice vo np vc)∧Row .u64 w' (.slice vo np vc) (digs (d%(P-1)) np)∧Kept af W w'):=fun W v c v2 c2 d aw h1 h2=>qq v v2 (nc+1) np c c2 _ _ d (P-1) (by rw [ak,al];exact Nat.lt_of_lt_of_le (Nat.lt_trans aw Z) (Nat.pow_le_pow_right (by omega) (by omega))) (by rw [ak,al (by omega)]) (by omega) (by omega) (by omega) W h1 h2 (ah (by omega) _ _) (ah (by omega) _ _)
 have RQ:Hid (∀ W v c v2 c2 d,d<C→Row .u64 W (.slice v (nc+1) c) (digs d (nc+1))→Row .u64 W (.slice v2 nq c2) (digs (Q-1) nq)→Calls Tryz.prog 58 #[.slice v (nc+1) c,.slice v2 nq c2] W fun e w'=>∃ vo vc,e=.returned (.slice vo nq vc)∧Row .u64 w' (.slice vo nq vc) (digs (d%(Q-1)) nq)∧Kept af W w'):=fun W v c v2 c2 d aw h1 h2=>qq v v2 (nc+1) nq c c2 _ _ d (Q-1) (by rw [ak,al];exact Nat.lt_of_lt_of_le (Nat.lt_trans aw Z) (Nat.pow_le_pow_right (by omega) (by omega))) (by rw [ak,al (by omega)]) (by omega) (by omega) (by omega) W h1 h2 (ah (by omega) _ _) (ah (by omega) _ _)
 have b8:Hid (∀ d,d%(P-1)≤P):=fun d=>by have:=Nat.mod_lt d (show 0<P-1 by omega);omega
 have co:Hid (∀ d,d%(Q-1)≤Q):=fun d=>by have:=Nat.mod_lt d (show 0<Q-1 by omega);omega
 have bz:=aa bl;have an:Hid (m=max (aj P) (aj Q)):=by rw [hm,ac,aK];rfl
 have bF:=aa hC;have cw:Hid (bw L M P Q e):=⟨⟨E.1,j.1⟩,E.2,j.2,by rw [Nat.gcd_comm];exact hg,p,by rw [Nat.gcd_comm];exact a8⟩
 have cz:Hid (∀ W,Kept af w W→W.heap[bK]? = some (.cells zeroKey 42 (0,0))):=fun W k=>(k.block _ (lt_of_block bx) (fun f=>f)).trans bx
 have ct:Hid (bK<w.heap.size):=lt_of_block bx;have cA:=aa hB;have HA:=aa ha;have ce:=aa bV;have cr:bE≠bK:=fun h=>by
  subst h;rw [cell_of_row w _ 0 _ _ _ bx] at b2;cases b2
 clear bL b9 bR hg a8 hC bh bt aU Z vC b3 hm cs ch cl ha bV hB bx hu hv bC b4 hP hQ E j bG ac aK aH bU bN bH bm bb au ad a3 bj bM vP vQ vN dP dQ dN bl z p;go_enter Tryz.func47,Tryz.ntmps47;go_wp2_with fail;refine wp_region_held_drew (S:=fun w'=>w'.cell? ⟨bP,0,none⟩=some (.slice ao L cap)∧w'.cell? ⟨bQ,0,none⟩=some (.slice bo M D)) (by kernel_rfl) ⟨b0,b1⟩ (fun hS=>?_);refine aB 0 (some 10) (.slice ao L cap) (y:=.inl ⟨by rfl,fun w h=>by simp [execOp,go_sem,h.1]⟩) (s:=hS) (k:=?_);simp only [Act.put,lsA,lsS,lsZ];refine aB 2 (some 12) (.slice bo M D) (y:=.inl ⟨by rfl,fun w h=>by simp [execOp,go_sem,h.2]⟩) (s:=hS) (k:=?_)
 simp only [Act.put,lsA,lsS,lsZ];refine bk 1 (some 11) (by kernel_rfl) rfl rfl (by rfl) 48 _ _ [.slice ao L cap] rfl rfl (fun _ _=>by simp [go_sem]) (J1) ?_;rintro e w4 ⟨vp,cp,rfl,bA,_,k4⟩;have aI:w4.cell? ⟨bP,0,none⟩=some (.slice ao L cap)∧w4.cell? ⟨bQ,0,none⟩=some (.slice bo M D):=⟨k4.cellN hS.1,k4.cellN hS.2⟩
 refine .inl ⟨_,rfl,aI,?_⟩;simp only [Act.put,lsA,lsS,lsZ];refine bk 3 (some 13) (by kernel_rfl) rfl rfl (by rfl) 48 _ _ [.slice bo M D] rfl rfl (fun _ _=>by simp [go_sem]) (J2.out w4 (KD.trans k4)) ?_;rintro e w5 ⟨vq,cq,rfl,bq,_,k5⟩;have aN:w5.cell? ⟨bP,0,none⟩=some (.slice ao L cap)∧w5.cell? ⟨bQ,0,none⟩=some (.slice bo M D):=⟨k5.cellN aI.1,k5.cellN aI.2⟩
 refine .inl ⟨_,rfl,aN,?_⟩;simp only [Act.put,lsA,lsS,lsZ];refine aB 4 (some 4) (.slice vp np cp) (y:=.inl ⟨by rfl,fun w h=>by simp [execOp,go_sem]⟩) (s:=aN) (k:=?_);simp only [Act.put,lsA,lsS,lsZ];refine aB 5 (some 5) (.slice vq nq cq) (y:=.inl ⟨by rfl,fun w h=>by simp [execOp,go_sem]⟩) (s:=aN) (k:=?_);simp only [Act.put,lsA,lsS,lsZ];refine wpAnyH_done (by kernel_rfl) ?_ _;have bf:=aa ((KD.trans k4).trans k5);have a5:=aa (bA.grew k5);have aT:=aa bq;have J5:=ap.out w5 vp cp vq cq a5.out aT.out;clear J1 J2 KD k4 k5 bA bq hS aI aN ap b0 b1;go_wp2_with fail;refine J5.mono ?_;rintro e6 w6 ⟨vm,cm,rfl,bX,k6⟩;have J6:=JN.out w6 vm cm bX;clear J5 bX JN
 go_wp2_with fail;refine J6.mono ?_;rintro e6 w7 ⟨vn,cn,rfl,bc,bW,k7⟩;have a1:=aa (bf.out.trans (k6.trans k7));have bD:=aa (a5.out.grew (k6.trans k7));have bB:=aa (aT.out.grew (k6.trans k7));have bp:=aa bc;have bJ:=aa (bW.after (bf.out.trans k6));have J7:=G.out w7 vn cn bc;have c7:=a1.out.cellN b2;clear J6 bc bW k6 k7 bf a5 aT G;go_wp2_with fail;refine J7.mono ?_;rintro e6 w8 ⟨rfl,k8⟩;have bn:=aa (a1.out.trans k8);have bi:=aa (bD.out.grew k8);have aV:=aa (bB.out.grew k8);have br:=aa (bp.out.grew k8);clear J7 k8 a1 bD bB bp;go_wp2_with fail;refine (hR _).mono ?_;rintro e6 w9 ⟨rfl,rfl⟩
 have J9:=JI.out w9 vq cq vp cp aV.out bi.out;clear hR JI;go_wp2_with fail;refine J9.mono ?_;rintro e6 bg ⟨vi,ci,T,rfl,HT,aq,az⟩;have O:=aa (bn.out.trans az);have H:=aa (bi.out.grew az);have J:=aa (aV.out.grew az);have aA:=aa (br.out.grew az);have V:=aa aq;have o:Kept af bg bg.drew:=(ai af bg).drew;have bu:=O.out.cellN b2;clear J9 aq az bn bi aV br c7;go_wp2_with fail;refine wp_region_held_drew (S:=fun w'=>w'.cell? ⟨bE,0,none⟩=some (.int .u64 (e:Int))) (by kernel_rfl) bu (fun hS=>?_);refine aB 0 (some 26) (.int .u64 (e:Int)) (y:=.inl ⟨by rfl,fun w h=>by simp [execOp,go_sem,h]⟩) (s:=hS) (k:=?_)
 simp only [Act.put,lsA,lsS,lsZ];refine aB 1 (some 27) (.slice vp np cp) (y:=.inl ⟨by rfl,fun w h=>by simp [execOp,go_sem]⟩) (s:=hS) (k:=?_);simp only [Act.put,lsA,lsS,lsZ];refine aB 2 (some 28) (.slice vq nq cq) (y:=.inl ⟨by rfl,fun w h=>by simp [execOp,go_sem]⟩) (s:=hS) (k:=?_);simp only [Act.put,lsA,lsS,lsZ];refine bk 3 (some 29) (by kernel_rfl) rfl rfl (by rfl) 56 _ _ [.slice vp np cp,.slice vq nq cq] rfl rfl (fun _ _=>by simp [go_sem]) (ab.out _ vp cp vq cq (H.out.grew o) (J.out.grew o)) ?_;rintro e6 cj ⟨vc,cc,rfl,ae,aE⟩;have l:=aE.cellN hS;refine .inl ⟨_,rfl,l,?_⟩;simp only [Act.put,lsA,lsS,lsZ]
 refine aB 4 (some 30) (.slice vc nc cc) (y:=.inl ⟨by rfl,fun w h=>by simp [execOp,go_sem]⟩) (s:=l) (k:=?_);simp only [Act.put,lsA,lsS,lsZ];refine aB 5 (some 31) (.int .i64 0) (y:=.inl ⟨by rfl,fun w h=>by simp [execOp,go_sem]⟩) (s:=l) (k:=?_);simp only [Act.put,lsA,lsS,lsZ];refine bk 6 (some 32) (by kernel_rfl) rfl rfl (by rfl) 55 _ _ [.slice vc nc cc,.int .i64 0] rfl rfl (fun _ _=>by simp [go_sem]) (bO vc nc cc cj) ?_;rintro e6 cK ⟨rfl,a0⟩;subst a0;refine .inl ⟨_,rfl,l,?_⟩;simp only [Act.put,lsA,lsS,lsZ];refine bk 7 (some 33) (by kernel_rfl) rfl rfl (by rfl) 54 _ _ [.int .u64 (e:Int),.slice vc nc cc] rfl rfl (fun _ _=>by simp [go_sem]) (JX.out _ vc cc ae) ?_
 rintro e6 ba ⟨vd,cd,d,rfl,HD,ar,aD⟩;have N:=aD.cellN l;refine .inl ⟨_,rfl,N,?_⟩;simp only [Act.put,lsA,lsS,lsZ];refine aB 8 (some 8) (.slice vd (nc+1) cd) (y:=.inl ⟨by rfl,fun w h=>by simp [execOp,go_sem]⟩) (s:=N) (k:=?_);simp only [Act.put,lsA,lsS,lsZ];refine wpAnyH_done (by kernel_rfl) ?_ _;have g:=aa (O.out.trans ((o.trans aE).trans aD));have q:=(o.trans aE).trans aD;have av:=aa (H.out.grew q);have Y:=aa (J.out.grew q);have a6:=aa (aA.out.grew q);have aX:=aa (V.out.grew q);have I:=aa ar;have t:=g.out.cellN b2
 clear O H J aA V o aE aD q ae ar hS l N bu ab JX bO;have a7:Kept af ba ba.drew:=(ai af ba).drew;go_wp2_with fail;go_region_held3 (fun w'=>w'.cell? ⟨bE,0,none⟩=some (.int .u64 (e:Int)))
  (((try dsimp only);first | (with_reducible assumption) | (with_reducible refine Cb ?_ ?_;(with_reducible assumption);(dsimp only;exact cr)) | (go_keep;done)))
  (first
  | (go_at_call 57;refine (FP.out _ vi ci T (Nat.le_of_lt HT.out.1) (aX.out.grew aG)).mono ?_;rintro e6 cg ⟨bs,b6,rfl,cx,ck,R⟩;have U:=aG.trans R;have cI:=U.cellN t;have b:=cz.out cg (g.out.trans U);obtain ⟨g0,g1,g2,g3,g4,g5,g6,g7⟩:=aL b;have q0:=aM b 0;have q1:=aM b 1;have q2:=aM b 2;have q3:=aM b 3;have q4:=aM b 4;have q5:=aM b 5;have q6:=aM b 6;have q7:=aM b 7)
  | (go_at_call 57;refine (FQ.out _ z8 y8 _ (co.out d) s8).mono ?_;rintro e6 cM ⟨z9,y9,rfl,s9,f9,aC⟩;have aG:=be.trans aC;have cO:=aG.cellN t)
  | (go_at_call 58;refine (RQ.out _ vd cd z7 y7 d HD.out.1 (I.out.grew a4) s7).mono ?_;rintro e6 cC ⟨z8,y8,rfl,s8,ax⟩;have be:=a4.trans ax;have cD:=be.cellN t)
  | (go_at_call 59;refine (LQ.out _ vq cq (Y.out.grew a2)).mono ?_;rintro e6 cQ ⟨z7,y7,rfl,s7,ay⟩;have a4:=a2.trans ay;have cP:=a4.cellN t)
  | (go_at_call 57;refine (FP.out _ z5 y5 _ (b8.out d) s5).mono ?_;rintro e6 cF ⟨z6,y6,rfl,s6,f6,aQ⟩;have a2:=a9.trans aQ;have cN:=a2.cellN t)
  | (go_at_call 58;refine (RP.out _ vd cd z4 y4 d HD.out.1 (I.out.grew aW) s4).mono ?_;rintro e6 cV ⟨z5,y5,rfl,s5,aF⟩;have a9:=aW.trans aF;have cH:=a9.cellN t)
  | (go_at_call 59;refine (LP.out _ vp cp (av.out.grew aZ)).mono ?_;rintro e6 cT ⟨z4,y4,rfl,s4,aP⟩;have aW:=aZ.trans aP;have cL:=aW.cellN t)
  | (go_at_call 57;refine (FQ.out _ vq cq Q (leR _) (Y.out.grew aS)).mono ?_;rintro e6 cE ⟨z3,y3,rfl,s3,f3,aY⟩;have aZ:=aS.trans aY;have cG:=aZ.cellN t)
  | (go_at_call 57;refine (FP.out _ vp cp P (leR _) (av.out.grew aR)).mono ?_;rintro e6 cU ⟨z2,y2,rfl,s2,f2,bI⟩;have aS:=aR.trans bI;have cS:=aS.cellN t)
  | (go_at_call 57;refine (F1.out _ vd cd d HD.out.1 (I.out.grew a7)).mono ?_;rintro e6 cR ⟨z1,y1,rfl,s1,f1,cf⟩;have aR:=a7.trans cf;have cJ:=aR.cellN t))
 go_end0
 have e1:Fresh w (.slice z1 nw y1):=fun x hx=>by have h1:=f1 x hx;have h2:=(g.out.trans a7).size;omega
 have e2:Fresh w (.slice z2 m y2):=f2.after (g.out.trans aR);have e3:Fresh w (.slice z3 m y3):=f3.after (g.out.trans aS);have e6:Fresh w (.slice z6 m y6):=f6.after (g.out.trans a9);have e9:Fresh w (.slice z9 m y9):=f9.after (g.out.trans be);have bS:Fresh w (.slice bs m b6):=ck.after (g.out.trans aG);obtain ⟨bT,bv,A⟩:=dm (HA.out.trans (g.out.trans U)) ce.out b (.slice vn nw cn) (.int .u64 (e:Nat)) (.slice z1 nw y1) (.slice z2 m y2) (.slice z3 m y3) (.slice z6 m y6) (.slice z9 m y9) (.slice bs m b6);unfold dh at bT bv A;have i:∀ v,Fresh w v→∀ x,v.ownBlock=some x→B<x:=fun v h x hx=>by have h1:=h x hx;have h2:=cA.out;omega
 have F:∀ v,Fresh w v→∀ x,v.ownBlock=some x→¬ x=bK:=fun v h x hx cW=>by have h1:=h x hx;have h2:=ct.out;omega
 have cv:=bI.trans (aY.trans (aP.trans (aF.trans (aQ.trans (ay.trans (ax.trans (aC.trans R)))))));have cB:=aY.trans (aP.trans (aF.trans (aQ.trans (ay.trans (ax.trans (aC.trans R))))));have cu:=aP.trans (aF.trans (aQ.trans (ay.trans (ax.trans (aC.trans R)))));have b7:=ay.trans (ax.trans (aC.trans R));refine .inl ⟨cw.out,rfl,_,bT,⟨_,_,_,_,_,_,_,d,T,rfl,?_,?_,?_,?_,?_,?_,?_,?_,HT.out.1,HT.out.2,?_⟩,pH (i _ bJ.out) (i _ e1) (i _ e2) (i _ e3) (i _ e6) (i _ e9) (i _ bS),(g.out.trans U).any.trans A,bv⟩
 ·rw [bz.out];exact (a6.out.grew U).kept A (F _ bJ.out)
 ·rw [← bF.out];exact HD.out.1
 ·rw [← bF.out];exact HD.out.2
 ·rw [bz.out,ag];exact (s1.grew cv).kept A (F _ e1)
 ·rw [← an.out];exact (s2.grew cB).kept A (F _ e2)
 ·rw [← an.out];exact (s3.grew cu).kept A (F _ e3)
 ·rw [← an.out];exact (s6.grew b7).kept A (F _ e6)
 ·rw [← an.out];exact (s9.grew R).kept A (F _ e9)
 ·rw [← an.out];exact cx.kept A (F _ bS)

end Go.Proofs.YtcemlfokmjjiaaaGreatDoor
