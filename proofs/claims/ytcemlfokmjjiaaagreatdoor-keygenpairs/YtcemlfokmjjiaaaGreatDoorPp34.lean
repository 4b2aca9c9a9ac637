/- Put together of: Kex6 Kex7. -/
import Derived.Test.YtcemlfokmjjiaaaGreatDoorPp33

namespace Go.Proofs.YtcemlfokmjjiaaaGreatDoor
set_option maxRecDepth 100000
set_option maxHeartbeats 4000000
open Go.RowKit

def OfEnd (L M P Q e B bK:Nat) (a w:World) (r:Ending) (w':World):Prop:=
 (dX L M P Q e∧r=.returned (.tuple #[])∧∃ kv,w'.heap[bK]? = some (.cells kv 42 (0,0))∧KeyAt w' P Q e kv∧fL B kv∧Kept (fun b=>b=bK) w w'∧Kept ae a w')∨(¬ dX L M P Q e∧r=.panicked [refusal 190]∧Kept ae w w')

theorem OfEnd.no {L M P Q e B bK:Nat} {a w w':World} (h:¬ dX L M P Q e) (k:Kept ae w w'):OfEnd L M P Q e B bK a w (.panicked [refusal 190]) w':=.inr ⟨h,rfl,k⟩

theorem fh {P Q:Nat} (h:0<P*Q):bw P Q=ag (P*Q) (aj (P*Q)):=by
 unfold bw;have:¬ aj (P*Q)≤0:=fun h1=>by
  have:=(ap _ _).1 h1;rw [Nat.pow_zero] at this;omega
 rw [Nat.max_eq_left (by omega)]

theorem KeyAt.kept {S:Nat→Prop} {w w':World} {P Q e:Nat} {kv:Array Value} (h:KeyAt w P Q e kv) (k:Kept S w w') (hs:∀ v ∈ kv.toList,∀ x,v.ownBlock=some x→¬ S x):KeyAt w' P Q e kv:=by
 obtain ⟨vn,vd,vp,vq,a,b,c,d,u,rfl,rn,f,j,rd,rp,rq,m,i,n,g,l⟩:=h;exact ⟨vn,vd,vp,vq,a,b,c,d,u,rfl,rn.kept k (hs vn (by simp)),f,j,rd.kept k (hs vd (by simp)),rp.kept k (hs vp (by simp)),rq.kept k (hs vq (by simp)),m.kept k (hs a (by simp)),i.kept k (hs b (by simp)),n,g,l.kept k (hs c (by simp))⟩

theorem AP {W:World} {a:Addr} {p:Nat} {x0 x1 x2 x3 x4 x5 x6 x7 q:Value} (h:W.cell? a=some q) (b:a.block≠p):((((((((W.setCell ⟨p,0,none⟩ x0).setCell ⟨p,1,none⟩ x1).setCell ⟨p,2,none⟩ x2).setCell ⟨p,3,none⟩ x3).setCell ⟨p,4,none⟩ x4).setCell ⟨p,5,none⟩ x5).setCell ⟨p,6,none⟩ x6).setCell ⟨p,7,none⟩ x7).cell? a=some q:=by
 have h1:∀ (V:World) (j:Nat) (x:Value),V.cell? a=some q→(V.setCell ⟨p,j,none⟩ x).cell? a=some q:=fun V j x hv=>by
  unfold World.cell? at hv ⊢;rw [Below.heap_setCell V ⟨p,j,none⟩ x a.block b];exact hv
 exact h1 _ _ _ (h1 _ _ _ (h1 _ _ _ (h1 _ _ _ (h1 _ _ _ (h1 _ _ _ (h1 _ _ _ (h1 _ _ _ h)))))))

theorem AK (bP bQ bE bK:Nat) (ao bo:Option Addr) (L M cap c:Nat) (xs:List Nat) (P Q e B:Nat) (hP:P=val xs) (f:L≤1000) (b:¬ (L≤300∧cK P)) (a w:World) (hu:Row .u64 w (.slice ao L cap) xs) (d:Digs xs) (b0:w.cell? ⟨bP,0,none⟩=some (.slice ao L cap)) (b1:w.cell? ⟨bQ,0,none⟩=some (.slice bo M c)) :
  Calls Tryz.prog 47 #[.pointer (some ⟨bP,0,none⟩),.pointer (some ⟨bQ,0,none⟩),.pointer (some ⟨bE,0,none⟩),.pointer (some ⟨bK,0,none⟩)] w fun r w'=>OfEnd L M P Q e B bK a w r w':=by
 have hN:¬ dX L M P Q e:=fun h=>b ⟨h.1.1,h.2.1⟩
 have KD:Kept ae w w.drew:=(ah ae w).drew;have J1:=nJ ao L cap xs P hP (by omega) b w.drew (hu.grew KD) d;clear hu d hP b;go_enter Tryz.func47,Tryz.ntmps47;go_wp2_with fail;refine wp_region_held_drew (S:=fun w'=>w'.cell? ⟨bP,0,none⟩=some (.slice ao L cap)∧w'.cell? ⟨bQ,0,none⟩=some (.slice bo M c)) (by kernel_rfl) ⟨b0,b1⟩ (fun hS=>?_);refine aB 0 (some 10) (.slice ao L cap) (y:=.inl ⟨by rfl,fun w h=>by simp [execOp,go_sem,h.1]⟩) (s:=hS) (k:=?_);simp only [Act.put,lsA,lsS,lsZ];refine aB 2 (some 12) (.slice bo M c) (y:=.inl ⟨by rfl,fun w h=>by simp [execOp,go_sem,h.2]⟩) (s:=hS) (k:=?_);simp only [Act.put,lsA,lsS,lsZ]
 refine bi 1 (some 11) (by kernel_rfl) rfl rfl (by rfl) 48 _ _ [.slice ao L cap] rfl rfl (fun _ _=>by simp [go_sem]) (J1) ?_;rintro e w4 ⟨rfl,k4⟩;exact .inr ⟨_,rfl,rfl,.no hN (KD.trans k4)⟩

theorem Bx (bP bQ bE bK:Nat) (ao bo:Option Addr) (L M cap b:Nat) (xs ys:List Nat) (P Q e B:Nat) (hP:P=val xs) (hQ:Q=val ys) (j:M≤1000) (g:L≤300∧cK P) (c:¬ (M≤300∧cK Q)) (a w:World) (hu:Row .u64 w (.slice ao L cap) xs) (hv:Row .u64 w (.slice bo M b) ys) (d:Digs xs) (f:Digs ys) (b0:w.cell? ⟨bP,0,none⟩=some (.slice ao L cap)) (b1:w.cell? ⟨bQ,0,none⟩=some (.slice bo M b)) :
  Calls Tryz.prog 47 #[.pointer (some ⟨bP,0,none⟩),.pointer (some ⟨bQ,0,none⟩),.pointer (some ⟨bE,0,none⟩),.pointer (some ⟨bK,0,none⟩)] w fun r w'=>OfEnd L M P Q e B bK a w r w':=by
 have hN:¬ dX L M P Q e:=fun h=>c ⟨h.1.2,h.2.2.1⟩
 have KD:Kept ae w w.drew:=(ah ae w).drew;have J1:=iE ao L cap xs P (aj P) hP rfl g w.drew (hu.grew KD) d;have J2:Hid (∀ W,Kept ae w W→Calls Tryz.prog 48 #[.slice bo M b] W fun e w'=>e=.panicked [refusal 190]∧Kept ae W w'):=fun W k=>nJ bo M b ys Q hQ (by omega) c W (hv.grew k) f
 clear hu hv d f hP hQ c g;go_enter Tryz.func47,Tryz.ntmps47;go_wp2_with fail;refine wp_region_held_drew (S:=fun w'=>w'.cell? ⟨bP,0,none⟩=some (.slice ao L cap)∧w'.cell? ⟨bQ,0,none⟩=some (.slice bo M b)) (by kernel_rfl) ⟨b0,b1⟩ (fun hS=>?_);refine aB 0 (some 10) (.slice ao L cap) (y:=.inl ⟨by rfl,fun w h=>by simp [execOp,go_sem,h.1]⟩) (s:=hS) (k:=?_);simp only [Act.put,lsA,lsS,lsZ];refine aB 2 (some 12) (.slice bo M b) (y:=.inl ⟨by rfl,fun w h=>by simp [execOp,go_sem,h.2]⟩) (s:=hS) (k:=?_);simp only [Act.put,lsA,lsS,lsZ];refine bi 1 (some 11) (by kernel_rfl) rfl rfl (by rfl) 48 _ _ [.slice ao L cap] rfl rfl (fun _ _=>by simp [go_sem]) (J1) ?_
 rintro e w4 ⟨vo,vc,rfl,_,_,k4⟩;have i:w4.cell? ⟨bP,0,none⟩=some (.slice ao L cap)∧w4.cell? ⟨bQ,0,none⟩=some (.slice bo M b):=⟨k4.cellN hS.1,k4.cellN hS.2⟩
 refine .inl ⟨_,rfl,i,?_⟩;simp only [Act.put,lsA,lsS,lsZ];refine bi 3 (some 13) (by kernel_rfl) rfl rfl (by rfl) 48 _ _ [.slice bo M b] rfl rfl (fun _ _=>by simp [go_sem]) (J2.out w4 (KD.trans k4)) ?_;rintro e w5 ⟨rfl,k5⟩;exact .inr ⟨_,rfl,rfl,.no hN ((KD.trans k4).trans k5)⟩

theorem Bt (bP bQ bE bK:Nat) (ao bo:Option Addr) (L M cap d:Nat) (xs ys:List Nat) (P Q e B:Nat) (hP:P=val xs) (hQ:Q=val ys) (g:L≤300∧cK P) (b:M≤300∧cK Q) (m:fN (bw P Q) e≠0) (a w:World) (hu:Row .u64 w (.slice ao L cap) xs) (hv:Row .u64 w (.slice bo M d) ys) (T:Digs xs) (O:Digs ys) (b0:w.cell? ⟨bP,0,none⟩=some (.slice ao L cap)) (b1:w.cell? ⟨bQ,0,none⟩=some (.slice bo M d)) (b2:w.cell? ⟨bE,0,none⟩=some (.int .u64 (e:Int))) :
  Calls Tryz.prog 47 #[.pointer (some ⟨bP,0,none⟩),.pointer (some ⟨bQ,0,none⟩),.pointer (some ⟨bE,0,none⟩),.pointer (some ⟨bK,0,none⟩)] w fun r w'=>OfEnd L M P Q e B bK a w r w':=by
 have Y:0<P*Q:=Nat.mul_pos (by have:=g.2.1;omega) (by have:=b.2.1;omega);obtain ⟨np,H⟩:∃ np,np=aj P:=⟨_,rfl⟩
 obtain ⟨nq,p⟩:∃ nq,nq=aj Q:=⟨_,rfl⟩
 obtain ⟨nw,l⟩:∃ nw,nw=aj (P*Q):=⟨_,rfl⟩
 have ab:=g.2.1;have Z:=b.2.1;have ac:=g.2.2.1;have z:np≤128:=by rw [H];exact bg (n:=128) (by have:=g.2.2.2;omega)
 have I:nq≤128:=by rw [p];exact bg (n:=128) (by have:=b.2.2.2;omega)
 have G:P<18446744073709551616^np:=(ap P np).1 (by omega);have E:Q<18446744073709551616^nq:=(ap Q nq).1 (by omega);have F:P*Q<18446744073709551616^(np+nq):=by rw [Nat.pow_add];exact Nat.mul_lt_mul_of_lt_of_lt G E
 have x:nw≤np+nq:=by rw [l];exact (ap _ _).2 F
 have J:P*Q<18446744073709551616^nw:=(ap _ nw).1 (by omega);have vP:val (ag P np)=P:=by rw [ak,al G]
 have vQ:val (ag Q nq)=Q:=by rw [ak,al E]
 have vN:val (ag (P*Q) nw)=P*Q:=by rw [ak,al J]
 have dP:Digs (ag P np):=ai (by omega) _ _;have dQ:Digs (ag Q nq):=ai (by omega) _ _;have dN:Digs (ag (P*Q) nw):=ai (by omega) _ _;have N:bw P Q=ag (P*Q) nw:=by rw [l];exact fh Y
 have KD:Kept ae w w.drew:=(ah ae w).drew;have J1:=iE ao L cap xs P np hP H g w.drew (hu.grew KD) T;have J2:Hid (∀ W,Kept ae w W→Calls Tryz.prog 48 #[.slice bo M d] W fun e w'=>∃ vo vc,e=.returned (.slice vo nq vc)∧Row .u64 w' (.slice vo nq vc) (ag Q nq)∧Fresh W (.slice vo nq vc)∧Kept ae W w'):=fun W k=>iE bo M d ys Q nq hQ p b W (hv.grew k) O
 have i:Hid (∀ W va ca vb cb,Row .u64 W (.slice va np ca) (ag P np)→Row .u64 W (.slice vb nq cb) (ag Q nq)→Calls Tryz.prog 50 #[.pointer none,.slice va np ca,.slice vb nq cb] W fun e w'=>∃ vo vc,e=.returned (.slice vo (np+nq) vc)∧Row .u64 w' (.slice vo (np+nq) vc) (ag (P*Q) (np+nq))∧Kept ae W w'):=fun W va ca vb cb h1 h2=>by
  refine (rK va vb np nq ca cb _ _ W h1 h2 dP dQ).mono ?_;rintro e w' ⟨v',rfl,hr,k⟩;rw [vP,vQ] at hr;unfold fl at hr;rw [if_pos (by omega)] at hr;obtain ⟨vo,vn,vc,rfl,hl,_,_,_,_⟩:=hr.open;obtain rfl:np+nq=vn:=by rw [← hl.out,af]
  exact ⟨_,_,rfl,hr,k⟩
 have JN:Hid (∀ W v c,Row .u64 W (.slice v (np+nq) c) (ag (P*Q) (np+nq))→Calls Tryz.prog 49 #[.slice v (np+nq) c] W fun e w'=>∃ vo vc,e=.returned (.slice vo nw vc)∧Row .u64 w' (.slice vo nw vc) (ag (P*Q) nw)∧Fresh W (.slice vo nw vc)∧Kept ae W w'):=fun W v c h=>ky v (np+nq) c _ (P*Q) nw (by rw [ak,al F]) l (by omega) W h (ai (by omega) _ _) (by rw [af];omega)
 have f:Hid (∀ W v c,Row .u64 W (.slice v nw c) (ag (P*Q) nw)→Calls Tryz.prog 52 #[.slice v nw c,.int .u64 (e:Nat)] W fun r w'=>r=.returned (.int .i64 ((fN (ag (P*Q) nw) e:Nat):Int))∧Kept ae W w'):=fun W v c h=>xt v nw c _ e W h dN (by omega)
 have hN:¬ dX L M P Q e:=fun h=>m h.2.2.2.2.1
 rw [N] at m;rw [(fK _ _).resolve_left m] at f;have hY:=bY 190;clear hu hv T O hP hQ g b Y H p l ab Z ac z I G E F x J vP vQ vN dP dQ dN N m;go_enter Tryz.func47,Tryz.ntmps47;go_wp2_with fail;refine wp_region_held_drew (S:=fun w'=>w'.cell? ⟨bP,0,none⟩=some (.slice ao L cap)∧w'.cell? ⟨bQ,0,none⟩=some (.slice bo M d)) (by kernel_rfl) ⟨b0,b1⟩ (fun hS=>?_);refine aB 0 (some 10) (.slice ao L cap) (y:=.inl ⟨by rfl,fun w h=>by simp [execOp,go_sem,h.1]⟩) (s:=hS) (k:=?_);simp only [Act.put,lsA,lsS,lsZ];refine aB 2 (some 12) (.slice bo M d) (y:=.inl ⟨by rfl,fun w h=>by simp [execOp,go_sem,h.2]⟩) (s:=hS) (k:=?_)
 simp only [Act.put,lsA,lsS,lsZ];refine bi 1 (some 11) (by kernel_rfl) rfl rfl (by rfl) 48 _ _ [.slice ao L cap] rfl rfl (fun _ _=>by simp [go_sem]) (J1) ?_;rintro e w4 ⟨vp,cp,rfl,U,_,k4⟩;have j:w4.cell? ⟨bP,0,none⟩=some (.slice ao L cap)∧w4.cell? ⟨bQ,0,none⟩=some (.slice bo M d):=⟨k4.cellN hS.1,k4.cellN hS.2⟩
 refine .inl ⟨_,rfl,j,?_⟩;simp only [Act.put,lsA,lsS,lsZ];refine bi 3 (some 13) (by kernel_rfl) rfl rfl (by rfl) 48 _ _ [.slice bo M d] rfl rfl (fun _ _=>by simp [go_sem]) (J2.out w4 (KD.trans k4)) ?_;rintro e w5 ⟨vq,cq,rfl,X,_,k5⟩;have o:w5.cell? ⟨bP,0,none⟩=some (.slice ao L cap)∧w5.cell? ⟨bQ,0,none⟩=some (.slice bo M d):=⟨k5.cellN j.1,k5.cellN j.2⟩
 refine .inl ⟨_,rfl,o,?_⟩;simp only [Act.put,lsA,lsS,lsZ];refine aB 4 (some 4) (.slice vp np cp) (y:=.inl ⟨by rfl,fun w h=>by simp [execOp,go_sem]⟩) (s:=o) (k:=?_);simp only [Act.put,lsA,lsS,lsZ];refine aB 5 (some 5) (.slice vq nq cq) (y:=.inl ⟨by rfl,fun w h=>by simp [execOp,go_sem]⟩) (s:=o) (k:=?_);simp only [Act.put,lsA,lsS,lsZ];refine wpAnyH_done (by kernel_rfl) ?_ _;have C:=aa ((KD.trans k4).trans k5);have t:=aa (U.grew k5);have q:=aa X;have J5:=i.out w5 vp cp vq cq t.out q.out;clear J1 J2 KD k4 k5 U X hS j o i b0 b1;go_wp2_with fail;refine J5.mono ?_;rintro e6 w6 ⟨vm,cm,rfl,V,k6⟩;have J6:=JN.out w6 vm cm V;clear J5 V JN
 go_wp2_with fail;refine J6.mono ?_;rintro e6 w7 ⟨vn,cn,rfl,D,R,k7⟩;have A:=aa (C.out.trans (k6.trans k7));have am:=aa (t.out.grew (k6.trans k7));have ar:=aa (q.out.grew (k6.trans k7));have an:=aa D;have aq:=aa (R.after (C.out.trans k6));have J7:=f.out w7 vn cn D;have c7:=A.out.cellN b2;clear J6 D R k6 k7 C t q f;go_wp2_with fail;refine J7.mono ?_;rintro e6 w8 ⟨rfl,k8⟩;have ad:=aa (A.out.trans k8);clear J7 k8 A;go_wp2_with fail;refine (hY _).mono ?_;rintro e6 w9 ⟨rfl,rfl⟩;exact ⟨rfl,.no hN ad.out⟩

theorem AL (bP bQ bE bK:Nat) (ao bo:Option Addr) (L M cap d:Nat) (xs ys:List Nat) (P Q e B:Nat) (hP:P=val xs) (hQ:Q=val ys) (j:L≤300∧cK P) (b:M≤300∧cK Q) (g:fN (bw P Q) e=0) (F:Nat.gcd Q P≠1) (a w:World) (hu:Row .u64 w (.slice ao L cap) xs) (hv:Row .u64 w (.slice bo M d) ys) (ab:Digs xs) (Y:Digs ys) (b0:w.cell? ⟨bP,0,none⟩=some (.slice ao L cap)) (b1:w.cell? ⟨bQ,0,none⟩=some (.slice bo M d)) (b2:w.cell? ⟨bE,0,none⟩=some (.int .u64 (e:Int))) :
  Calls Tryz.prog 47 #[.pointer (some ⟨bP,0,none⟩),.pointer (some ⟨bQ,0,none⟩),.pointer (some ⟨bE,0,none⟩),.pointer (some ⟨bK,0,none⟩)] w fun r w'=>OfEnd L M P Q e B bK a w r w':=by
 have aq:0<P*Q:=Nat.mul_pos (by have:=j.2.1;omega) (by have:=b.2.1;omega);obtain ⟨np,q⟩:∃ np,np=aj P:=⟨_,rfl⟩
 obtain ⟨nq,t⟩:∃ nq,nq=aj Q:=⟨_,rfl⟩
 obtain ⟨nw,o⟩:∃ nw,nw=aj (P*Q):=⟨_,rfl⟩
 have aA:=j.2.1;have av:=b.2.1;have an:=j.2.2.1;have C:np≤128:=by rw [q];exact bg (n:=128) (by have:=j.2.2.2;omega)
 have N:nq≤128:=by rw [t];exact bg (n:=128) (by have:=b.2.2.2;omega)
 have J:P<18446744073709551616^np:=(ap P np).1 (by omega);have H:Q<18446744073709551616^nq:=(ap Q nq).1 (by omega);have I:P*Q<18446744073709551616^(np+nq):=by rw [Nat.pow_add];exact Nat.mul_lt_mul_of_lt_of_lt J H
 have A:nw≤np+nq:=by rw [o];exact (ap _ _).2 I
 have R:P*Q<18446744073709551616^nw:=(ap _ nw).1 (by omega);have vP:val (ag P np)=P:=by rw [ak,al J]
 have vQ:val (ag Q nq)=Q:=by rw [ak,al H]
 have vN:val (ag (P*Q) nw)=P*Q:=by rw [ak,al R]
 have dP:Digs (ag P np):=ai (by omega) _ _;have dQ:Digs (ag Q nq):=ai (by omega) _ _;have dN:Digs (ag (P*Q) nw):=ai (by omega) _ _;have T:bw P Q=ag (P*Q) nw:=by rw [o];exact fh aq
 have KD:Kept ae w w.drew:=(ah ae w).drew;have J1:=iE ao L cap xs P np hP q j w.drew (hu.grew KD) ab;have J2:Hid (∀ W,Kept ae w W→Calls Tryz.prog 48 #[.slice bo M d] W fun e w'=>∃ vo vc,e=.returned (.slice vo nq vc)∧Row .u64 w' (.slice vo nq vc) (ag Q nq)∧Fresh W (.slice vo nq vc)∧Kept ae W w'):=fun W k=>iE bo M d ys Q nq hQ t b W (hv.grew k) Y
 have l:Hid (∀ W va ca vb cb,Row .u64 W (.slice va np ca) (ag P np)→Row .u64 W (.slice vb nq cb) (ag Q nq)→Calls Tryz.prog 50 #[.pointer none,.slice va np ca,.slice vb nq cb] W fun e w'=>∃ vo vc,e=.returned (.slice vo (np+nq) vc)∧Row .u64 w' (.slice vo (np+nq) vc) (ag (P*Q) (np+nq))∧Kept ae W w'):=fun W va ca vb cb h1 h2=>by
  refine (rK va vb np nq ca cb _ _ W h1 h2 dP dQ).mono ?_;rintro e w' ⟨v',rfl,hr,k⟩;rw [vP,vQ] at hr;unfold fl at hr;rw [if_pos (by omega)] at hr;obtain ⟨vo,vn,vc,rfl,hl,_,_,_,_⟩:=hr.open;obtain rfl:np+nq=vn:=by rw [← hl.out,af]
  exact ⟨_,_,rfl,hr,k⟩
 have JN:Hid (∀ W v c,Row .u64 W (.slice v (np+nq) c) (ag (P*Q) (np+nq))→Calls Tryz.prog 49 #[.slice v (np+nq) c] W fun e w'=>∃ vo vc,e=.returned (.slice vo nw vc)∧Row .u64 w' (.slice vo nw vc) (ag (P*Q) nw)∧Fresh W (.slice vo nw vc)∧Kept ae W w'):=fun W v c h=>ky v (np+nq) c _ (P*Q) nw (by rw [ak,al I]) o (by omega) W h (ai (by omega) _ _) (by rw [af];omega)
 have i:Hid (∀ W v c,Row .u64 W (.slice v nw c) (ag (P*Q) nw)→Calls Tryz.prog 52 #[.slice v nw c,.int .u64 (e:Nat)] W fun r w'=>r=.returned (.int .i64 ((fN (ag (P*Q) nw) e:Nat):Int))∧Kept ae W w'):=fun W v c h=>xt v nw c _ e W h dN (by omega)
 have f:=g;rw [T] at f;have O:=(js dN (by rw [af];omega) e).1 f;rw [vN] at O;obtain ⟨-,-,aw,az,ax⟩:=O;rw [f] at i;have hR:=aW 190;have hN:¬ dX L M P Q e:=fun h=>F (by rw [Nat.gcd_comm];exact h.2.2.2.1)
 have JI:Hid (∀ W va ca vb cb,Row .u64 W (.slice va nq ca) (ag Q nq)→Row .u64 W (.slice vb np cb) (ag P np)→Calls Tryz.prog 53 #[.slice va nq ca,.slice vb np cb] W fun e w'=>e=.panicked [refusal 190]∧Kept ae W w'):=fun W va ca vb cb h1 h2=>px va vb nq np ca cb _ _ Q P vQ.symm vP.symm (by omega) an q (by omega) (by omega) F W h1 h2 dQ dP
 clear aw az ax F hu hv ab Y hP hQ j b aq q t o aA av an C N J H I A R vP vQ vN dP dQ dN T f g;go_enter Tryz.func47,Tryz.ntmps47;go_wp2_with fail;refine wp_region_held_drew (S:=fun w'=>w'.cell? ⟨bP,0,none⟩=some (.slice ao L cap)∧w'.cell? ⟨bQ,0,none⟩=some (.slice bo M d)) (by kernel_rfl) ⟨b0,b1⟩ (fun hS=>?_);refine aB 0 (some 10) (.slice ao L cap) (y:=.inl ⟨by rfl,fun w h=>by simp [execOp,go_sem,h.1]⟩) (s:=hS) (k:=?_);simp only [Act.put,lsA,lsS,lsZ];refine aB 2 (some 12) (.slice bo M d) (y:=.inl ⟨by rfl,fun w h=>by simp [execOp,go_sem,h.2]⟩) (s:=hS) (k:=?_);simp only [Act.put,lsA,lsS,lsZ]
 refine bi 1 (some 11) (by kernel_rfl) rfl rfl (by rfl) 48 _ _ [.slice ao L cap] rfl rfl (fun _ _=>by simp [go_sem]) (J1) ?_;rintro e w4 ⟨vp,cp,rfl,ac,_,k4⟩;have m:w4.cell? ⟨bP,0,none⟩=some (.slice ao L cap)∧w4.cell? ⟨bQ,0,none⟩=some (.slice bo M d):=⟨k4.cellN hS.1,k4.cellN hS.2⟩
 refine .inl ⟨_,rfl,m,?_⟩;simp only [Act.put,lsA,lsS,lsZ];refine bi 3 (some 13) (by kernel_rfl) rfl rfl (by rfl) 48 _ _ [.slice bo M d] rfl rfl (fun _ _=>by simp [go_sem]) (J2.out w4 (KD.trans k4)) ?_;rintro e w5 ⟨vq,cq,rfl,am,_,k5⟩;have p:w5.cell? ⟨bP,0,none⟩=some (.slice ao L cap)∧w5.cell? ⟨bQ,0,none⟩=some (.slice bo M d):=⟨k5.cellN m.1,k5.cellN m.2⟩
 refine .inl ⟨_,rfl,p,?_⟩;simp only [Act.put,lsA,lsS,lsZ];refine aB 4 (some 4) (.slice vp np cp) (y:=.inl ⟨by rfl,fun w h=>by simp [execOp,go_sem]⟩) (s:=p) (k:=?_);simp only [Act.put,lsA,lsS,lsZ];refine aB 5 (some 5) (.slice vq nq cq) (y:=.inl ⟨by rfl,fun w h=>by simp [execOp,go_sem]⟩) (s:=p) (k:=?_);simp only [Act.put,lsA,lsS,lsZ];refine wpAnyH_done (by kernel_rfl) ?_ _;have E:=aa ((KD.trans k4).trans k5);have z:=aa (ac.grew k5);have x:=aa am;have J5:=l.out w5 vp cp vq cq z.out x.out;clear J1 J2 KD k4 k5 ac am hS m p l b0 b1;go_wp2_with fail;refine J5.mono ?_;rintro e6 w6 ⟨vm,cm,rfl,ad,k6⟩;have J6:=JN.out w6 vm cm ad;clear J5 ad JN
 go_wp2_with fail;refine J6.mono ?_;rintro e6 w7 ⟨vn,cn,rfl,G,Z,k7⟩;have D:=aa (E.out.trans (k6.trans k7));have U:=aa (z.out.grew (k6.trans k7));have X:=aa (x.out.grew (k6.trans k7));have V:=aa G;have aD:=aa (Z.after (E.out.trans k6));have J7:=i.out w7 vn cn G;have c7:=D.out.cellN b2;clear J6 G Z k6 k7 E z x i;go_wp2_with fail;refine J7.mono ?_;rintro e6 w8 ⟨rfl,k8⟩;have aC:=aa (D.out.trans k8);have au:=aa (U.out.grew k8);have ay:=aa (X.out.grew k8);have aF:=aa (V.out.grew k8);clear J7 k8 D U X V;go_wp2_with fail;refine (hR _).mono ?_;rintro e6 w9 ⟨rfl,rfl⟩
 have J9:=JI.out w9 vq cq vp cp ay.out au.out;clear hR JI;go_wp2_with fail;refine J9.mono ?_;rintro e6 aE ⟨rfl,ar⟩;exact ⟨rfl,.no hN (aC.out.trans ar)⟩

theorem A0 (bP bQ bE bK:Nat) (ao bo:Option Addr) (L M cap f:Nat) (xs ys:List Nat) (P Q e B:Nat) (hP:P=val xs) (hQ:Q=val ys) (m:L≤300∧cK P) (b:M≤300∧cK Q) (i:fN (bw P Q) e=0) (hg:Nat.gcd Q P=1) (X:Nat.gcd (fq P Q) e≠1) (a w:World) (hu:Row .u64 w (.slice ao L cap) xs) (hv:Row .u64 w (.slice bo M f) ys) (aN:Digs xs) (az:Digs ys) (b0:w.cell? ⟨bP,0,none⟩=some (.slice ao L cap)) (b1:w.cell? ⟨bQ,0,none⟩=some (.slice bo M f)) (b2:w.cell? ⟨bE,0,none⟩=some (.int .u64 (e:Int))) :
  Calls Tryz.prog 47 #[.pointer (some ⟨bP,0,none⟩),.pointer (some ⟨bQ,0,none⟩),.pointer (some ⟨bE,0,none⟩),.pointer (some ⟨bK,0,none⟩)] w fun r w'=>OfEnd L M P Q e B bK a w r w':=by
 have aT:0<P*Q:=Nat.mul_pos (by have:=m.2.1;omega) (by have:=b.2.1;omega);obtain ⟨np,D⟩:∃ np,np=aj P:=⟨_,rfl⟩
 obtain ⟨nq,ac⟩:∃ nq,nq=aj Q:=⟨_,rfl⟩
 obtain ⟨nw,x⟩:∃ nw,nw=aj (P*Q):=⟨_,rfl⟩
 have aE:=m.2.1;have ay:=b.2.1;have aR:=m.2.2.1;have N:np≤128:=by rw [D];exact bg (n:=128) (by have:=m.2.2.2;omega)
 have Y:nq≤128:=by rw [ac];exact bg (n:=128) (by have:=b.2.2.2;omega)
 have A:P<18446744073709551616^np:=(ap P np).1 (by omega);have z:Q<18446744073709551616^nq:=(ap Q nq).1 (by omega);have ar:P*Q<18446744073709551616^(np+nq):=by rw [Nat.pow_add];exact Nat.mul_lt_mul_of_lt_of_lt A z
 have J:nw≤np+nq:=by rw [x];exact (ap _ _).2 ar
 have aw:P*Q<18446744073709551616^nw:=(ap _ nw).1 (by omega);have vP:val (ag P np)=P:=by rw [ak,al A]
 have vQ:val (ag Q nq)=Q:=by rw [ak,al z]
 have vN:val (ag (P*Q) nw)=P*Q:=by rw [ak,al aw]
 have dP:Digs (ag P np):=ai (by omega) _ _;have dQ:Digs (ag Q nq):=ai (by omega) _ _;have dN:Digs (ag (P*Q) nw):=ai (by omega) _ _;have aH:bw P Q=ag (P*Q) nw:=by rw [x];exact fh aT
 have KD:Kept ae w w.drew:=(ah ae w).drew;have J1:=iE ao L cap xs P np hP D m w.drew (hu.grew KD) aN;have J2:Hid (∀ W,Kept ae w W→Calls Tryz.prog 48 #[.slice bo M f] W fun e w'=>∃ vo vc,e=.returned (.slice vo nq vc)∧Row .u64 w' (.slice vo nq vc) (ag Q nq)∧Fresh W (.slice vo nq vc)∧Kept ae W w'):=fun W k=>iE bo M f ys Q nq hQ ac b W (hv.grew k) az
 have t:Hid (∀ W va ca vb cb,Row .u64 W (.slice va np ca) (ag P np)→Row .u64 W (.slice vb nq cb) (ag Q nq)→Calls Tryz.prog 50 #[.pointer none,.slice va np ca,.slice vb nq cb] W fun e w'=>∃ vo vc,e=.returned (.slice vo (np+nq) vc)∧Row .u64 w' (.slice vo (np+nq) vc) (ag (P*Q) (np+nq))∧Kept ae W w'):=fun W va ca vb cb h1 h2=>by
  refine (rK va vb np nq ca cb _ _ W h1 h2 dP dQ).mono ?_;rintro e w' ⟨v',rfl,hr,k⟩;rw [vP,vQ] at hr;unfold fl at hr;rw [if_pos (by omega)] at hr;obtain ⟨vo,vn,vc,rfl,hl,_,_,_,_⟩:=hr.open;obtain rfl:np+nq=vn:=by rw [← hl.out,af]
  exact ⟨_,_,rfl,hr,k⟩
 have JN:Hid (∀ W v c,Row .u64 W (.slice v (np+nq) c) (ag (P*Q) (np+nq))→Calls Tryz.prog 49 #[.slice v (np+nq) c] W fun e w'=>∃ vo vc,e=.returned (.slice vo nw vc)∧Row .u64 w' (.slice vo nw vc) (ag (P*Q) nw)∧Fresh W (.slice vo nw vc)∧Kept ae W w'):=fun W v c h=>ky v (np+nq) c _ (P*Q) nw (by rw [ak,al ar]) x (by omega) W h (ai (by omega) _ _) (by rw [af];omega)
 have l:Hid (∀ W v c,Row .u64 W (.slice v nw c) (ag (P*Q) nw)→Calls Tryz.prog 52 #[.slice v nw c,.int .u64 (e:Nat)] W fun r w'=>r=.returned (.int .i64 ((fN (ag (P*Q) nw) e:Nat):Int))∧Kept ae W w'):=fun W v c h=>xt v nw c _ e W h dN (by omega)
 have g:=i;rw [aH] at g;have aG:=(js dN (by rw [af];omega) e).1 g;rw [vN] at aG;obtain ⟨-,-,aK,a1,aM⟩:=aG;rw [g] at l;have hR:=aW 190;have hN:¬ dX L M P Q e:=fun h=>X (by rw [Nat.gcd_comm];exact h.2.2.2.2.2)
 have JI:Hid (∀ W va ca vb cb,Row .u64 W (.slice va nq ca) (ag Q nq)→Row .u64 W (.slice vb np cb) (ag P np)→Calls Tryz.prog 53 #[.slice va nq ca,.slice vb np cb] W fun e w'=>∃ vo vc T,e=.returned (.slice vo np vc)∧Hid (T<P∧Q*T%P=1)∧Row .u64 w' (.slice vo np vc) (ag T np)∧Kept ae W w'):=fun W va ca vb cb h1 h2=>AF va vb nq np ca cb _ _ Q P vQ.symm vP.symm (by omega) aR D (by omega) (by omega) hg W h1 h2 dQ dP
 obtain ⟨C,hC⟩:∃ C,C=fq P Q:=⟨_,rfl⟩
 obtain ⟨nc,am⟩:∃ nc,nc=aj C:=⟨_,rfl⟩
 have aP:C<18446744073709551616^(np+nq):=by rw [hC];exact jw A z (by omega) (by omega)
 have ab:nc≤np+nq:=by rw [am];exact (ap _ _).2 aP
 have aL:C<18446744073709551616^nc:=(ap C nc).1 (by omega);have vC:val (ag C nc)=C:=by rw [ak,al aL]
 have aZ:2≤C:=by rw [hC];exact tV aE ay
 have au:Hid (∀ W va ca vb cb,Row .u64 W (.slice va np ca) (ag P np)→Row .u64 W (.slice vb nq cb) (ag Q nq)→Calls Tryz.prog 56 #[.slice va np ca,.slice vb nq cb] W fun e w'=>∃ vo vc,e=.returned (.tuple #[.slice vo nc vc,.int .i64 0])∧Row .u64 w' (.slice vo nc vc) (ag C nc)∧Kept ae W w'):=fun W va ca vb cb h1 h2=>by
  refine (BS va vb np nq ca cb _ _ P Q 0 _ vP.symm vQ.symm (by omega) (by omega) (.inl ⟨rfl,by omega,by omega⟩) (by rw [if_pos rfl,← hC,← am]) W h1 h2 dP dQ).mono ?_;rintro e w' ⟨v',rfl,hr,_,k⟩;obtain ⟨vo,vn,vc,rfl,hl,_,_,_,_⟩:=hr.open;obtain rfl:nc=vn:=by rw [← hl.out,af]
  exact ⟨_,_,rfl,hr,k⟩
 have aV:=fun v n c W=>ij v n c W
 have JX:Hid (∀ W v c,Row .u64 W (.slice v nc c) (ag C nc)→Calls Tryz.prog 54 #[.int .u64 (e:Nat),.slice v nc c] W fun r w'=>r=.panicked [refusal 190]∧Kept ae W w'):=fun W v c h=>vW v nc c _ C e vC.symm aK aM (by omega) (by omega) (by rw [hC];exact X) W h (ai (by omega) _ _)
 clear aK a1 aM X hg hC am aP ab aL vC aZ hu hv aN az hP hQ m b aT D ac x aE ay aR N Y A z ar J aw vP vQ vN dP dQ dN aH g i;go_enter Tryz.func47,Tryz.ntmps47;go_wp2_with fail;refine wp_region_held_drew (S:=fun w'=>w'.cell? ⟨bP,0,none⟩=some (.slice ao L cap)∧w'.cell? ⟨bQ,0,none⟩=some (.slice bo M f)) (by kernel_rfl) ⟨b0,b1⟩ (fun hS=>?_);refine aB 0 (some 10) (.slice ao L cap) (y:=.inl ⟨by rfl,fun w h=>by simp [execOp,go_sem,h.1]⟩) (s:=hS) (k:=?_);simp only [Act.put,lsA,lsS,lsZ];refine aB 2 (some 12) (.slice bo M f) (y:=.inl ⟨by rfl,fun w h=>by simp [execOp,go_sem,h.2]⟩) (s:=hS) (k:=?_);simp only [Act.put,lsA,lsS,lsZ]
 refine bi 1 (some 11) (by kernel_rfl) rfl rfl (by rfl) 48 _ _ [.slice ao L cap] rfl rfl (fun _ _=>by simp [go_sem]) (J1) ?_;rintro e w4 ⟨vp,cp,rfl,aC,_,k4⟩;have E:w4.cell? ⟨bP,0,none⟩=some (.slice ao L cap)∧w4.cell? ⟨bQ,0,none⟩=some (.slice bo M f):=⟨k4.cellN hS.1,k4.cellN hS.2⟩
 refine .inl ⟨_,rfl,E,?_⟩;simp only [Act.put,lsA,lsS,lsZ];refine bi 3 (some 13) (by kernel_rfl) rfl rfl (by rfl) 48 _ _ [.slice bo M f] rfl rfl (fun _ _=>by simp [go_sem]) (J2.out w4 (KD.trans k4)) ?_;rintro e w5 ⟨vq,cq,rfl,aF,_,k5⟩;have F:w5.cell? ⟨bP,0,none⟩=some (.slice ao L cap)∧w5.cell? ⟨bQ,0,none⟩=some (.slice bo M f):=⟨k5.cellN E.1,k5.cellN E.2⟩
 refine .inl ⟨_,rfl,F,?_⟩;simp only [Act.put,lsA,lsS,lsZ];refine aB 4 (some 4) (.slice vp np cp) (y:=.inl ⟨by rfl,fun w h=>by simp [execOp,go_sem]⟩) (s:=F) (k:=?_);simp only [Act.put,lsA,lsS,lsZ];refine aB 5 (some 5) (.slice vq nq cq) (y:=.inl ⟨by rfl,fun w h=>by simp [execOp,go_sem]⟩) (s:=F) (k:=?_);simp only [Act.put,lsA,lsS,lsZ];refine wpAnyH_done (by kernel_rfl) ?_ _;have U:=aa ((KD.trans k4).trans k5);have H:=aa (aC.grew k5);have G:=aa aF;have J5:=t.out w5 vp cp vq cq H.out G.out;clear J1 J2 KD k4 k5 aC aF hS E F t b0 b1;go_wp2_with fail;refine J5.mono ?_;rintro e6 w6 ⟨vm,cm,rfl,aD,k6⟩;have J6:=JN.out w6 vm cm aD;clear J5 aD JN
 go_wp2_with fail;refine J6.mono ?_;rintro e6 w7 ⟨vn,cn,rfl,Z,aA,k7⟩;have O:=aa (U.out.trans (k6.trans k7));have ax:=aa (H.out.grew (k6.trans k7));have aJ:=aa (G.out.grew (k6.trans k7));have aI:=aa Z;have a4:=aa (aA.after (U.out.trans k6));have J7:=l.out w7 vn cn Z;have c7:=O.out.cellN b2;clear J6 Z aA k6 k7 U H G l;go_wp2_with fail;refine J7.mono ?_;rintro e6 w8 ⟨rfl,k8⟩;have aS:=aa (O.out.trans k8);have ad:=aa (ax.out.grew k8);have aq:=aa (aJ.out.grew k8);have aO:=aa (aI.out.grew k8);clear J7 k8 O ax aJ aI;go_wp2_with fail;refine (hR _).mono ?_;rintro e6 w9 ⟨rfl,rfl⟩
 have J9:=JI.out w9 vq cq vp cp aq.out ad.out;clear hR JI;go_wp2_with fail;refine J9.mono ?_;rintro e6 V ⟨vi,ci,T,rfl,HT,o,q⟩;have p:=aa (aS.out.trans q);have an:=aa (ad.out.grew q);have I:=aa (aq.out.grew q);have a0:=aa (aO.out.grew q);have aY:=aa o;have j:Kept ae V V.drew:=(ah ae V).drew;have a2:=p.out.cellN b2;clear J9 o q aS ad aq aO c7;go_wp2_with fail;refine wp_region_held_drew (S:=fun w'=>w'.cell? ⟨bE,0,none⟩=some (.int .u64 (e:Int))) (by kernel_rfl) a2 (fun hS=>?_);refine aB 0 (some 26) (.int .u64 (e:Int)) (y:=.inl ⟨by rfl,fun w h=>by simp [execOp,go_sem,h]⟩) (s:=hS) (k:=?_)
 simp only [Act.put,lsA,lsS,lsZ];refine aB 1 (some 27) (.slice vp np cp) (y:=.inl ⟨by rfl,fun w h=>by simp [execOp,go_sem]⟩) (s:=hS) (k:=?_);simp only [Act.put,lsA,lsS,lsZ];refine aB 2 (some 28) (.slice vq nq cq) (y:=.inl ⟨by rfl,fun w h=>by simp [execOp,go_sem]⟩) (s:=hS) (k:=?_);simp only [Act.put,lsA,lsS,lsZ];refine bi 3 (some 29) (by kernel_rfl) rfl rfl (by rfl) 56 _ _ [.slice vp np cp,.slice vq nq cq] rfl rfl (fun _ _=>by simp [go_sem]) (au.out _ vp cp vq cq (an.out.grew j) (I.out.grew j)) ?_;rintro e6 aU ⟨vc,cc,rfl,av,aQ⟩;have d:=aQ.cellN hS;refine .inl ⟨_,rfl,d,?_⟩;simp only [Act.put,lsA,lsS,lsZ]
 refine aB 4 (some 30) (.slice vc nc cc) (y:=.inl ⟨by rfl,fun w h=>by simp [execOp,go_sem]⟩) (s:=d) (k:=?_);simp only [Act.put,lsA,lsS,lsZ];refine aB 5 (some 31) (.int .i64 0) (y:=.inl ⟨by rfl,fun w h=>by simp [execOp,go_sem]⟩) (s:=d) (k:=?_);simp only [Act.put,lsA,lsS,lsZ];refine bi 6 (some 32) (by kernel_rfl) rfl rfl (by rfl) 55 _ _ [.slice vc nc cc,.int .i64 0] rfl rfl (fun _ _=>by simp [go_sem]) (aV vc nc cc aU) ?_;rintro e6 a5 ⟨rfl,R⟩;subst R;refine .inl ⟨_,rfl,d,?_⟩;simp only [Act.put,lsA,lsS,lsZ];refine bi 7 (some 33) (by kernel_rfl) rfl rfl (by rfl) 54 _ _ [.int .u64 (e:Int),.slice vc nc cc] rfl rfl (fun _ _=>by simp [go_sem]) (JX.out _ vc cc av) ?_
 rintro e6 a3 ⟨rfl,aX⟩;exact .inr ⟨_,rfl,rfl,.no hN ((p.out.trans (j.trans aQ)).trans aX)⟩

theorem A4 (bP bQ bE bK:Nat) (ao bo:Option Addr) (L M cap A:Nat) (xs ys:List Nat) (P Q e B:Nat) (hP:P=val xs) (hQ:Q=val ys) (E:L≤300∧cK P) (i:M≤300∧cK Q) (o:fN (bw P Q) e=0) (hg:Nat.gcd Q P=1) (bb:Nat.gcd (fq P Q) e=1) (a w:World) (hu:Row .u64 w (.slice ao L cap) xs) (hv:Row .u64 w (.slice bo M A) ys) (bV:Digs xs) (bq:Digs ys) (b0:w.cell? ⟨bP,0,none⟩=some (.slice ao L cap)) (b1:w.cell? ⟨bQ,0,none⟩=some (.slice bo M A)) (b2:w.cell? ⟨bE,0,none⟩=some (.int .u64 (e:Int))) (ha:Kept ae a w) (bz:a.heap.size≤bK) (hB:w.heap.size=B+1) (bx:w.heap[bK]? = some (.cells zeroKey 42 (0,0))) :
  Calls Tryz.prog 47 #[.pointer (some ⟨bP,0,none⟩),.pointer (some ⟨bQ,0,none⟩),.pointer (some ⟨bE,0,none⟩),.pointer (some ⟨bK,0,none⟩)] w fun r w'=>OfEnd L M P Q e B bK a w r w':=by
 have b3:0<P*Q:=Nat.mul_pos (by have:=E.2.1;omega) (by have:=i.2.1;omega);obtain ⟨np,ac⟩:∃ np,np=aj P:=⟨_,rfl⟩
 obtain ⟨nq,aO⟩:∃ nq,nq=aj Q:=⟨_,rfl⟩
 obtain ⟨nw,aN⟩:∃ nw,nw=aj (P*Q):=⟨_,rfl⟩
 have bL:=E.2.1;have bp:=i.2.1;have bY:=E.2.2.1;have aT:np≤128:=by rw [ac];exact bg (n:=128) (by have:=E.2.2.2;omega)
 have aZ:nq≤128:=by rw [aO];exact bg (n:=128) (by have:=i.2.2.2;omega)
 have ab:P<18446744073709551616^np:=(ap P np).1 (by omega);have au:Q<18446744073709551616^nq:=(ap Q nq).1 (by omega);have bl:P*Q<18446744073709551616^(np+nq):=by rw [Nat.pow_add];exact Nat.mul_lt_mul_of_lt_of_lt ab au
 have aS:nw≤np+nq:=by rw [aN];exact (ap _ _).2 bl
 have bD:P*Q<18446744073709551616^nw:=(ap _ nw).1 (by omega);have vP:val (ag P np)=P:=by rw [ak,al ab]
 have vQ:val (ag Q nq)=Q:=by rw [ak,al au]
 have vN:val (ag (P*Q) nw)=P*Q:=by rw [ak,al bD]
 have dP:Digs (ag P np):=ai (by omega) _ _;have dQ:Digs (ag Q nq):=ai (by omega) _ _;have dN:Digs (ag (P*Q) nw):=ai (by omega) _ _;have a3:bw P Q=ag (P*Q) nw:=by rw [aN];exact fh b3
 have KD:Kept ae w w.drew:=(ah ae w).drew;have J1:=iE ao L cap xs P np hP ac E w.drew (hu.grew KD) bV;have J2:Hid (∀ W,Kept ae w W→Calls Tryz.prog 48 #[.slice bo M A] W fun e w'=>∃ vo vc,e=.returned (.slice vo nq vc)∧Row .u64 w' (.slice vo nq vc) (ag Q nq)∧Fresh W (.slice vo nq vc)∧Kept ae W w'):=fun W k=>iE bo M A ys Q nq hQ aO i W (hv.grew k) bq
 have aA:Hid (∀ W va ca vb cb,Row .u64 W (.slice va np ca) (ag P np)→Row .u64 W (.slice vb nq cb) (ag Q nq)→Calls Tryz.prog 50 #[.pointer none,.slice va np ca,.slice vb nq cb] W fun e w'=>∃ vo vc,e=.returned (.slice vo (np+nq) vc)∧Row .u64 w' (.slice vo (np+nq) vc) (ag (P*Q) (np+nq))∧Kept ae W w'):=fun W va ca vb cb h1 h2=>by
  refine (rK va vb np nq ca cb _ _ W h1 h2 dP dQ).mono ?_;rintro e w' ⟨v',rfl,hr,k⟩;rw [vP,vQ] at hr;unfold fl at hr;rw [if_pos (by omega)] at hr;obtain ⟨vo,vn,vc,rfl,hl,_,_,_,_⟩:=hr.open;obtain rfl:np+nq=vn:=by rw [← hl.out,af]
  exact ⟨_,_,rfl,hr,k⟩
 have JN:Hid (∀ W v c,Row .u64 W (.slice v (np+nq) c) (ag (P*Q) (np+nq))→Calls Tryz.prog 49 #[.slice v (np+nq) c] W fun e w'=>∃ vo vc,e=.returned (.slice vo nw vc)∧Row .u64 w' (.slice vo nw vc) (ag (P*Q) nw)∧Fresh W (.slice vo nw vc)∧Kept ae W w'):=fun W v c h=>ky v (np+nq) c _ (P*Q) nw (by rw [ak,al bl]) aN (by omega) W h (ai (by omega) _ _) (by rw [af];omega)
 have O:Hid (∀ W v c,Row .u64 W (.slice v nw c) (ag (P*Q) nw)→Calls Tryz.prog 52 #[.slice v nw c,.int .u64 (e:Nat)] W fun r w'=>r=.returned (.int .i64 ((fN (ag (P*Q) nw) e:Nat):Int))∧Kept ae W w'):=fun W v c h=>xt v nw c _ e W h dN (by omega)
 have D:=o;rw [a3] at D;have bO:=(js dN (by rw [af];omega) e).1 D;rw [vN] at bO;obtain ⟨-,-,bv,cf,bU⟩:=bO;rw [D] at O;have hR:=aW 190;have JI:Hid (∀ W va ca vb cb,Row .u64 W (.slice va nq ca) (ag Q nq)→Row .u64 W (.slice vb np cb) (ag P np)→Calls Tryz.prog 53 #[.slice va nq ca,.slice vb np cb] W fun e w'=>∃ vo vc T,e=.returned (.slice vo np vc)∧Hid (T<P∧Q*T%P=1)∧Row .u64 w' (.slice vo np vc) (ag T np)∧Kept ae W w'):=fun W va ca vb cb h1 h2=>AF va vb nq np ca cb _ _ Q P vQ.symm vP.symm (by omega) bY ac (by omega) (by omega) hg W h1 h2 dQ dP
 obtain ⟨C,hC⟩:∃ C,C=fq P Q:=⟨_,rfl⟩
 obtain ⟨nc,a6⟩:∃ nc,nc=aj C:=⟨_,rfl⟩
 have bX:C<18446744073709551616^(np+nq):=by rw [hC];exact jw ab au (by omega) (by omega)
 have a1:nc≤np+nq:=by rw [a6];exact (ap _ _).2 bX
 have ad:C<18446744073709551616^nc:=(ap C nc).1 (by omega);have vC:val (ag C nc)=C:=by rw [ak,al ad]
 have bt:2≤C:=by rw [hC];exact tV bL bp
 have aC:Hid (∀ W va ca vb cb,Row .u64 W (.slice va np ca) (ag P np)→Row .u64 W (.slice vb nq cb) (ag Q nq)→Calls Tryz.prog 56 #[.slice va np ca,.slice vb nq cb] W fun e w'=>∃ vo vc,e=.returned (.tuple #[.slice vo nc vc,.int .i64 0])∧Row .u64 w' (.slice vo nc vc) (ag C nc)∧Kept ae W w'):=fun W va ca vb cb h1 h2=>by
  refine (BS va vb np nq ca cb _ _ P Q 0 _ vP.symm vQ.symm (by omega) (by omega) (.inl ⟨rfl,by omega,by omega⟩) (by rw [if_pos rfl,← hC,← a6]) W h1 h2 dP dQ).mono ?_;rintro e w' ⟨v',rfl,hr,_,k⟩;obtain ⟨vo,vn,vc,rfl,hl,_,_,_,_⟩:=hr.open;obtain rfl:nc=vn:=by rw [← hl.out,af]
  exact ⟨_,_,rfl,hr,k⟩
 have bF:=fun v n c W=>ij v n c W
 have JX:Hid (∀ W v c,Row .u64 W (.slice v nc c) (ag C nc)→Calls Tryz.prog 54 #[.int .u64 (e:Nat),.slice v nc c] W fun r w'=>∃ vo vc d,r=.returned (.slice vo (nc+1) vc)∧Hid (d<C∧e*d%C=1)∧Row .u64 w' (.slice vo (nc+1) vc) (ag d (nc+1))∧Kept ae W w'):=fun W v c h=>Cs v nc c _ C e vC.symm bt bv bU (by omega) (by omega) (by rw [hC];exact bb) W h (ai (by omega) _ _)
 obtain ⟨m,hm⟩:∃ m,m=max np nq:=⟨_,rfl⟩
 have ch:max (np:Int) (nq:Int)=(m:Int):=by omega
 have b8:C<P*Q:=by
  have h1:C≤(P-1)*(Q-1):=by
   rw [hC,fq];exact Nat.mul_le_mul_right _ (Nat.div_le_self _ _)
  have h2:(P-1)*(Q-1)≤(P-1)*Q:=Nat.mul_le_mul_left _ (by omega);have h3:(P-1)*Q<P*Q:=Nat.mul_lt_mul_of_pos_right (by omega) (by omega);omega
 have b6:P<18446744073709551616^m:=Nat.lt_of_lt_of_le ab (Nat.pow_le_pow_right (by omega) (by omega));have cl:Q<18446744073709551616^m:=Nat.lt_of_lt_of_le au (Nat.pow_le_pow_right (by omega) (by omega));have F1:Hid (∀ W v c d,d<C→Row .u64 W (.slice v (nc+1) c) (ag d (nc+1))→Calls Tryz.prog 57 #[.slice v (nc+1) c,.int .i64 (nw:Nat)] W fun e w'=>∃ vo vc,e=.returned (.slice vo nw vc)∧Row .u64 w' (.slice vo nw vc) (ag d nw)∧Fresh W (.slice vo nw vc)∧Kept ae W w'):=fun W v c d V h=>xR v (nc+1) c _ d nw (by rw [ak,al];exact Nat.lt_of_lt_of_le (Nat.lt_trans V ad) (Nat.pow_le_pow_right (by omega) (by omega))) (by omega) (by omega) W h (ai (by omega) _ _)
 have FP:Hid (∀ W v c X,X≤P→Row .u64 W (.slice v np c) (ag X np)→Calls Tryz.prog 57 #[.slice v np c,.int .i64 (m:Nat)] W fun e w'=>∃ vo vc,e=.returned (.slice vo m vc)∧Row .u64 w' (.slice vo m vc) (ag X m)∧Fresh W (.slice vo m vc)∧Kept ae W w'):=fun W v c X hX h=>xR v np c _ X m (by rw [ak,al (by omega)]) (by omega) (by omega) W h (ai (by omega) _ _)
 have FQ:Hid (∀ W v c X,X≤Q→Row .u64 W (.slice v nq c) (ag X nq)→Calls Tryz.prog 57 #[.slice v nq c,.int .i64 (m:Nat)] W fun e w'=>∃ vo vc,e=.returned (.slice vo m vc)∧Row .u64 w' (.slice vo m vc) (ag X m)∧Fresh W (.slice vo m vc)∧Kept ae W w'):=fun W v c X hX h=>xR v nq c _ X m (by rw [ak,al (by omega)]) (by omega) (by omega) W h (ai (by omega) _ _)
 have LP:Hid (∀ W v c,Row .u64 W (.slice v np c) (ag P np)→Calls Tryz.prog 59 #[.slice v np c] W fun e w'=>∃ vo vc,e=.returned (.slice vo np vc)∧Row .u64 w' (.slice vo np vc) (ag (P-1) np)∧Kept ae W w'):=fun W v c h=>pF v np c _ P vP.symm (by omega) (af _ _ _) (by omega) W h dP
 have LQ:Hid (∀ W v c,Row .u64 W (.slice v nq c) (ag Q nq)→Calls Tryz.prog 59 #[.slice v nq c] W fun e w'=>∃ vo vc,e=.returned (.slice vo nq vc)∧Row .u64 w' (.slice vo nq vc) (ag (Q-1) nq)∧Kept ae W w'):=fun W v c h=>pF v nq c _ Q vQ.symm (by omega) (af _ _ _) (by omega) W h dQ
 have RP:Hid (∀ W v c v2 c2 d,d<C→Row .u64 W (.slice v (nc+1) c) (ag d (nc+1))→Row .u64 W (.slice v2 np c2) (ag (P-1) np)→Calls Tryz.prog 58 #[.slice v (nc+1) c,.slice v2 np c2] W fun e w'=>∃ vo vc,e=.returned (.slice vo np vc)∧Row .u64 w' (.slice vo np vc) (ag (d%(P-1)) np)∧Kept ae W w'):=fun W v c v2 c2 d V h1 h2=>pz v v2 (nc+1) np c c2 _ _ d (P-1) (by rw [ak,al];exact Nat.lt_of_lt_of_le (Nat.lt_trans V ad) (Nat.pow_le_pow_right (by omega) (by omega))) (by rw [ak,al (by omega)]) (by omega) (by omega) (by omega) W h1 h2 (ai (by omega) _ _) (ai (by omega) _ _)
 have RQ:Hid (∀ W v c v2 c2 d,d<C→Row .u64 W (.slice v (nc+1) c) (ag d (nc+1))→Row .u64 W (.slice v2 nq c2) (ag (Q-1) nq)→Calls Tryz.prog 58 #[.slice v (nc+1) c,.slice v2 nq c2] W fun e w'=>∃ vo vc,e=.returned (.slice vo nq vc)∧Row .u64 w' (.slice vo nq vc) (ag (d%(Q-1)) nq)∧Kept ae W w'):=fun W v c v2 c2 d V h1 h2=>pz v v2 (nc+1) nq c c2 _ _ d (Q-1) (by rw [ak,al];exact Nat.lt_of_lt_of_le (Nat.lt_trans V ad) (Nat.pow_le_pow_right (by omega) (by omega))) (by rw [ak,al (by omega)]) (by omega) (by omega) (by omega) W h1 h2 (ai (by omega) _ _) (ai (by omega) _ _)
 have cr:Hid (∀ d,d%(P-1)≤P):=fun d=>by have:=Nat.mod_lt d (show 0<P-1 by omega);omega
 have cy:Hid (∀ d,d%(Q-1)≤Q):=fun d=>by have:=Nat.mod_lt d (show 0<Q-1 by omega);omega
 have bZ:=aa a3;have an:Hid (m=max (aj P) (aj Q)):=by rw [hm,ac,aO];rfl
 have bN:=aa hC;have ck:Hid (dX L M P Q e):=⟨⟨E.1,i.1⟩,E.2,i.2,by rw [Nat.gcd_comm];exact hg,o,by rw [Nat.gcd_comm];exact bb⟩
 have cg:Hid (∀ W,Kept ae w W→W.heap[bK]? = some (.cells zeroKey 42 (0,0))):=fun W k=>(k.block _ (lt_of_block bx) (fun f=>f)).trans bx
 have cx:Hid (bK<w.heap.size):=lt_of_block bx;have b7:=aa hB;have HA:=aa ha;have b9:=aa bz;have cv:bE≠bK:=fun h=>by
  subst h;rw [cell_of_row w _ 0 _ _ _ bx] at b2;cases b2
 clear bv cf bU hg bb hC a6 bX a1 ad vC bt hm b8 b6 cl ha bz hB bx hu hv bV bq hP hQ E i b3 ac aO aN bL bp bY aT aZ ab au bl aS bD vP vQ vN dP dQ dN a3 D o;go_enter Tryz.func47,Tryz.ntmps47;go_wp2_with fail;refine wp_region_held_drew (S:=fun w'=>w'.cell? ⟨bP,0,none⟩=some (.slice ao L cap)∧w'.cell? ⟨bQ,0,none⟩=some (.slice bo M A)) (by kernel_rfl) ⟨b0,b1⟩ (fun hS=>?_);refine aB 0 (some 10) (.slice ao L cap) (y:=.inl ⟨by rfl,fun w h=>by simp [execOp,go_sem,h.1]⟩) (s:=hS) (k:=?_);simp only [Act.put,lsA,lsS,lsZ];refine aB 2 (some 12) (.slice bo M A) (y:=.inl ⟨by rfl,fun w h=>by simp [execOp,go_sem,h.2]⟩) (s:=hS) (k:=?_)
 simp only [Act.put,lsA,lsS,lsZ];refine bi 1 (some 11) (by kernel_rfl) rfl rfl (by rfl) 48 _ _ [.slice ao L cap] rfl rfl (fun _ _=>by simp [go_sem]) (J1) ?_;rintro e w4 ⟨vp,cp,rfl,bI,_,k4⟩;have aH:w4.cell? ⟨bP,0,none⟩=some (.slice ao L cap)∧w4.cell? ⟨bQ,0,none⟩=some (.slice bo M A):=⟨k4.cellN hS.1,k4.cellN hS.2⟩
 refine .inl ⟨_,rfl,aH,?_⟩;simp only [Act.put,lsA,lsS,lsZ];refine bi 3 (some 13) (by kernel_rfl) rfl rfl (by rfl) 48 _ _ [.slice bo M A] rfl rfl (fun _ _=>by simp [go_sem]) (J2.out w4 (KD.trans k4)) ?_;rintro e w5 ⟨vq,cq,rfl,bu,_,k5⟩;have aP:w5.cell? ⟨bP,0,none⟩=some (.slice ao L cap)∧w5.cell? ⟨bQ,0,none⟩=some (.slice bo M A):=⟨k5.cellN aH.1,k5.cellN aH.2⟩
 refine .inl ⟨_,rfl,aP,?_⟩;simp only [Act.put,lsA,lsS,lsZ];refine aB 4 (some 4) (.slice vp np cp) (y:=.inl ⟨by rfl,fun w h=>by simp [execOp,go_sem]⟩) (s:=aP) (k:=?_);simp only [Act.put,lsA,lsS,lsZ];refine aB 5 (some 5) (.slice vq nq cq) (y:=.inl ⟨by rfl,fun w h=>by simp [execOp,go_sem]⟩) (s:=aP) (k:=?_);simp only [Act.put,lsA,lsS,lsZ];refine wpAnyH_done (by kernel_rfl) ?_ _;have be:=aa ((KD.trans k4).trans k5);have aR:=aa (bI.grew k5);have aQ:=aa bu;have J5:=aA.out w5 vp cp vq cq aR.out aQ.out;clear J1 J2 KD k4 k5 bI bu hS aH aP aA b0 b1;go_wp2_with fail;refine J5.mono ?_;rintro e6 w6 ⟨vm,cm,rfl,bJ,k6⟩;have J6:=JN.out w6 vm cm bJ;clear J5 bJ JN
 go_wp2_with fail;refine J6.mono ?_;rintro e6 w7 ⟨vn,cn,rfl,a0,br,k7⟩;have aV:=aa (be.out.trans (k6.trans k7));have bm:=aa (aR.out.grew (k6.trans k7));have bT:=aa (aQ.out.grew (k6.trans k7));have bR:=aa a0;have bS:=aa (br.after (be.out.trans k6));have J7:=O.out w7 vn cn a0;have c7:=aV.out.cellN b2;clear J6 a0 br k6 k7 be aR aQ O;go_wp2_with fail;refine J7.mono ?_;rintro e6 w8 ⟨rfl,k8⟩;have bC:=aa (aV.out.trans k8);have a4:=aa (bm.out.grew k8);have a7:=aa (bT.out.grew k8);have bA:=aa (bR.out.grew k8);clear J7 k8 aV bm bT bR;go_wp2_with fail;refine (hR _).mono ?_;rintro e6 w9 ⟨rfl,rfl⟩
 have J9:=JI.out w9 vq cq vp cp a7.out a4.out;clear hR JI;go_wp2_with fail;refine J9.mono ?_;rintro e6 aX ⟨vi,ci,T,rfl,HT,ar,ay⟩;have G:=aa (bC.out.trans ay);have J:=aa (a4.out.grew ay);have F:=aa (a7.out.grew ay);have av:=aa (bA.out.grew ay);have Z:=aa ar;have p:Kept ae aX aX.drew:=(ah ae aX).drew;have bB:=G.out.cellN b2;clear J9 ar ay bC a4 a7 bA c7;go_wp2_with fail;refine wp_region_held_drew (S:=fun w'=>w'.cell? ⟨bE,0,none⟩=some (.int .u64 (e:Int))) (by kernel_rfl) bB (fun hS=>?_);refine aB 0 (some 26) (.int .u64 (e:Int)) (y:=.inl ⟨by rfl,fun w h=>by simp [execOp,go_sem,h]⟩) (s:=hS) (k:=?_)
 simp only [Act.put,lsA,lsS,lsZ];refine aB 1 (some 27) (.slice vp np cp) (y:=.inl ⟨by rfl,fun w h=>by simp [execOp,go_sem]⟩) (s:=hS) (k:=?_);simp only [Act.put,lsA,lsS,lsZ];refine aB 2 (some 28) (.slice vq nq cq) (y:=.inl ⟨by rfl,fun w h=>by simp [execOp,go_sem]⟩) (s:=hS) (k:=?_);simp only [Act.put,lsA,lsS,lsZ];refine bi 3 (some 29) (by kernel_rfl) rfl rfl (by rfl) 56 _ _ [.slice vp np cp,.slice vq nq cq] rfl rfl (fun _ _=>by simp [go_sem]) (aC.out _ vp cp vq cq (J.out.grew p) (F.out.grew p)) ?_;rintro e6 b4 ⟨vc,cc,rfl,aD,aK⟩;have l:=aK.cellN hS;refine .inl ⟨_,rfl,l,?_⟩;simp only [Act.put,lsA,lsS,lsZ]
 refine aB 4 (some 30) (.slice vc nc cc) (y:=.inl ⟨by rfl,fun w h=>by simp [execOp,go_sem]⟩) (s:=l) (k:=?_);simp only [Act.put,lsA,lsS,lsZ];refine aB 5 (some 31) (.int .i64 0) (y:=.inl ⟨by rfl,fun w h=>by simp [execOp,go_sem]⟩) (s:=l) (k:=?_);simp only [Act.put,lsA,lsS,lsZ];refine bi 6 (some 32) (by kernel_rfl) rfl rfl (by rfl) 55 _ _ [.slice vc nc cc,.int .i64 0] rfl rfl (fun _ _=>by simp [go_sem]) (bF vc nc cc b4) ?_;rintro e6 cT ⟨rfl,bd⟩;subst bd;refine .inl ⟨_,rfl,l,?_⟩;simp only [Act.put,lsA,lsS,lsZ];refine bi 7 (some 33) (by kernel_rfl) rfl rfl (by rfl) 54 _ _ [.int .u64 (e:Int),.slice vc nc cc] rfl rfl (fun _ _=>by simp [go_sem]) (JX.out _ vc cc aD) ?_
 rintro e6 bc ⟨vd,cd,d,rfl,HD,ax,aL⟩;have N:=aL.cellN l;refine .inl ⟨_,rfl,N,?_⟩;simp only [Act.put,lsA,lsS,lsZ];refine aB 8 (some 8) (.slice vd (nc+1) cd) (y:=.inl ⟨by rfl,fun w h=>by simp [execOp,go_sem]⟩) (s:=N) (k:=?_);simp only [Act.put,lsA,lsS,lsZ];refine wpAnyH_done (by kernel_rfl) ?_ _;have b:=aa (G.out.trans ((p.trans aK).trans aL));have q:=(p.trans aK).trans aL;have aw:=aa (J.out.grew q);have am:=aa (F.out.grew q);have bf:=aa (av.out.grew q);have a2:=aa (Z.out.grew q);have H:=aa ax;have t:=b.out.cellN b2
 clear G J F av Z p aK aL q aD ax hS l N bB aC JX bF;have bk:Kept ae bc bc.drew:=(ah ae bc).drew;go_wp2_with fail;go_region_held3 (fun w'=>w'.cell? ⟨bE,0,none⟩=some (.int .u64 (e:Int)))
  (((try dsimp only);first | (with_reducible assumption) | (with_reducible refine AP ?_ ?_;(with_reducible assumption);(dsimp only;exact cv)) | (go_keep;done)))
  (first
  | (go_at_call 57;refine (FP.out _ vi ci T (Nat.le_of_lt HT.out.1) (a2.out.grew aJ)).mono ?_;rintro e6 cu ⟨bW,bM,rfl,co,ct,R⟩;have aq:=aJ.trans R;have cF:=aq.cellN t;have g:=cg.out cu (b.out.trans aq);obtain ⟨g0,g1,g2,g3,g4,g5,g6,g7⟩:=dV g;have q0:=aY g 0;have q1:=aY g 1;have q2:=aY g 2;have q3:=aY g 3;have q4:=aY g 4;have q5:=aY g 5;have q6:=aY g 6;have q7:=aY g 7)
  | (go_at_call 57;refine (FQ.out _ z8 y8 _ (cy.out d) s8).mono ?_;rintro e6 cz ⟨z9,y9,rfl,s9,f9,U⟩;have aJ:=ba.trans U;have cG:=aJ.cellN t)
  | (go_at_call 58;refine (RQ.out _ vd cd z7 y7 d HD.out.1 (H.out.grew bj) s7).mono ?_;rintro e6 cD ⟨z8,y8,rfl,s8,az⟩;have ba:=bj.trans az;have cO:=ba.cellN t)
  | (go_at_call 59;refine (LQ.out _ vq cq (am.out.grew a8)).mono ?_;rintro e6 cA ⟨z7,y7,rfl,s7,Y⟩;have bj:=a8.trans Y;have cB:=bj.cellN t)
  | (go_at_call 57;refine (FP.out _ z5 y5 _ (cr.out d) s5).mono ?_;rintro e6 cC ⟨z6,y6,rfl,s6,f6,aG⟩;have a8:=a9.trans aG;have cR:=a8.cellN t)
  | (go_at_call 58;refine (RP.out _ vd cd z4 y4 d HD.out.1 (H.out.grew bh) s4).mono ?_;rintro e6 cE ⟨z5,y5,rfl,s5,aF⟩;have a9:=bh.trans aF;have cJ:=a9.cellN t)
  | (go_at_call 59;refine (LP.out _ vp cp (aw.out.grew a5)).mono ?_;rintro e6 cI ⟨z4,y4,rfl,s4,aE⟩;have bh:=a5.trans aE;have cM:=bh.cellN t)
  | (go_at_call 57;refine (FQ.out _ vq cq Q (leR _) (am.out.grew aI)).mono ?_;rintro e6 cP ⟨z3,y3,rfl,s3,f3,aU⟩;have a5:=aI.trans aU;have cU:=a5.cellN t)
  | (go_at_call 57;refine (FP.out _ vp cp P (leR _) (aw.out.grew aM)).mono ?_;rintro e6 cH ⟨z2,y2,rfl,s2,f2,bs⟩;have aI:=aM.trans bs;have cQ:=aI.cellN t)
  | (go_at_call 57;refine (F1.out _ vd cd d HD.out.1 (H.out.grew bk)).mono ?_;rintro e6 cN ⟨z1,y1,rfl,s1,f1,b5⟩;have aM:=bk.trans b5;have cL:=aM.cellN t))
 go_end0
 have e1:Fresh w (.slice z1 nw y1):=fun x hx=>by have h1:=f1 x hx;have h2:=(b.out.trans bk).size;omega
 have e2:Fresh w (.slice z2 m y2):=f2.after (b.out.trans aM);have e3:Fresh w (.slice z3 m y3):=f3.after (b.out.trans aI);have e6:Fresh w (.slice z6 m y6):=f6.after (b.out.trans a9);have e9:Fresh w (.slice z9 m y9):=f9.after (b.out.trans ba);have bn:Fresh w (.slice bW m bM):=ct.after (b.out.trans aJ);obtain ⟨bH,bG,z⟩:=lY (HA.out.trans (b.out.trans aq)) b9.out g (.slice vn nw cn) (.int .u64 (e:Nat)) (.slice z1 nw y1) (.slice z2 m y2) (.slice z3 m y3) (.slice z6 m y6) (.slice z9 m y9) (.slice bW m bM);unfold ff at bH bG z;have j:∀ v,Fresh w v→∀ x,v.ownBlock=some x→B<x:=fun v h x hx=>by have h1:=h x hx;have h2:=b7.out;omega
 have I:∀ v,Fresh w v→∀ x,v.ownBlock=some x→¬ x=bK:=fun v h x hx cS=>by have h1:=h x hx;have h2:=cx.out;omega
 have cw:=bs.trans (aU.trans (aE.trans (aF.trans (aG.trans (Y.trans (az.trans (U.trans R)))))));have ce:=aU.trans (aE.trans (aF.trans (aG.trans (Y.trans (az.trans (U.trans R))))));have cs:=aE.trans (aF.trans (aG.trans (Y.trans (az.trans (U.trans R)))));have cj:=Y.trans (az.trans (U.trans R));refine .inl ⟨ck.out,rfl,_,bH,⟨_,_,_,_,_,_,_,d,T,rfl,?_,?_,?_,?_,?_,?_,?_,?_,HT.out.1,HT.out.2,?_⟩,xK (j _ bS.out) (j _ e1) (j _ e2) (j _ e3) (j _ e6) (j _ e9) (j _ bn),(b.out.trans aq).any.trans z,bG⟩
 ·rw [bZ.out];exact (bf.out.grew aq).kept z (I _ bS.out)
 ·rw [← bN.out];exact HD.out.1
 ·rw [← bN.out];exact HD.out.2
 ·rw [bZ.out,af];exact (s1.grew cw).kept z (I _ e1)
 ·rw [← an.out];exact (s2.grew ce).kept z (I _ e2)
 ·rw [← an.out];exact (s3.grew cs).kept z (I _ e3)
 ·rw [← an.out];exact (s6.grew cj).kept z (I _ e6)
 ·rw [← an.out];exact (s9.grew R).kept z (I _ e9)
 ·rw [← an.out];exact co.kept z (I _ bn)

end Go.Proofs.YtcemlfokmjjiaaaGreatDoor
