/- Put together of: Kex6 Kex7. -/
import Derived.Test.YtcemlfokmjjiaaaGreatDoorPm37

namespace Go.Proofs.YtcemlfokmjjiaaaGreatDoor
set_option maxRecDepth 100000
set_option maxHeartbeats 4000000
open Go.RowKit

def OfEnd (L M P Q e B bK:Nat) (a w:World) (r:Ending) (w':World):Prop:=
 (cl L M P Q e∧r=.returned (.tuple #[])∧∃ kv,w'.heap[bK]? = some (.cells kv 42 (0,0))∧KeyAt w' P Q e kv∧eW B kv∧Kept (fun b=>b=bK) w w'∧Kept af a w')∨(¬ cl L M P Q e∧r=.panicked [refusal 190]∧Kept af w w')

theorem OfEnd.no {L M P Q e B bK:Nat} {a w w':World} (h:¬ cl L M P Q e) (k:Kept af w w'):OfEnd L M P Q e B bK a w (.panicked [refusal 190]) w':=.inr ⟨h,rfl,k⟩

theorem fB {P Q:Nat} (h:0<P*Q):aT P Q=ai (P*Q) (ak (P*Q)):=by
 unfold aT;have:¬ ak (P*Q)≤0:=fun h1=>by
  have:=(ap _ _).1 h1;rw [Nat.pow_zero] at this;omega
 rw [Nat.max_eq_left (by omega)]

theorem KeyAt.kept {S:Nat→Prop} {w w':World} {P Q e:Nat} {kv:Array Value} (h:KeyAt w P Q e kv) (k:Kept S w w') (hs:∀ v ∈ kv.toList,∀ x,v.ownBlock=some x→¬ S x):KeyAt w' P Q e kv:=by
 obtain ⟨vn,vd,vp,vq,b,a,c,d,u,rfl,rn,j,n,rd,rp,rq,f,g,i,l,m⟩:=h;exact ⟨vn,vd,vp,vq,b,a,c,d,u,rfl,rn.kept k (hs vn (by simp)),j,n,rd.kept k (hs vd (by simp)),rp.kept k (hs vp (by simp)),rq.kept k (hs vq (by simp)),f.kept k (hs b (by simp)),g.kept k (hs a (by simp)),i,l,m.kept k (hs c (by simp))⟩

theorem BC {W:World} {a:Addr} {p:Nat} {x0 x1 x2 x3 x4 x5 x6 x7 q:Value} (h:W.cell? a=some q) (b:a.block≠p):((((((((W.setCell ⟨p,0,none⟩ x0).setCell ⟨p,1,none⟩ x1).setCell ⟨p,2,none⟩ x2).setCell ⟨p,3,none⟩ x3).setCell ⟨p,4,none⟩ x4).setCell ⟨p,5,none⟩ x5).setCell ⟨p,6,none⟩ x6).setCell ⟨p,7,none⟩ x7).cell? a=some q:=by
 have h1:∀ (V:World) (j:Nat) (x:Value),V.cell? a=some q→(V.setCell ⟨p,j,none⟩ x).cell? a=some q:=fun V j x hv=>by
  unfold World.cell? at hv ⊢;rw [Below.heap_setCell V ⟨p,j,none⟩ x a.block b];exact hv
 exact h1 _ _ _ (h1 _ _ _ (h1 _ _ _ (h1 _ _ _ (h1 _ _ _ (h1 _ _ _ (h1 _ _ _ (h1 _ _ _ h)))))))

theorem Cb (bP bQ bE bK:Nat) (ao bo:Option Addr) (L M cap c:Nat) (xs:List Nat) (P Q e B:Nat) (hP:P=val xs) (f:L≤1000) (b:¬ (L≤300∧cH P)) (a w:World) (hu:Row .u64 w (.slice ao L cap) xs) (d:Digs xs) (b0:w.cell? ⟨bP,0,none⟩=some (.slice ao L cap)) (b1:w.cell? ⟨bQ,0,none⟩=some (.slice bo M c)) :
  Calls Tryz.prog 47 #[.pointer (some ⟨bP,0,none⟩),.pointer (some ⟨bQ,0,none⟩),.pointer (some ⟨bE,0,none⟩),.pointer (some ⟨bK,0,none⟩)] w fun r w'=>OfEnd L M P Q e B bK a w r w':=by
 have hN:¬ cl L M P Q e:=fun h=>b ⟨h.1.1,h.2.1⟩
 have KD:Kept af w w.drew:=(ah af w).drew;have J1:=oB ao L cap xs P hP (by omega) b w.drew (hu.grew KD) d;clear hu d hP b;go_enter Tryz.func47,Tryz.ntmps47;go_wp2_with fail;refine wp_region_held_drew (S:=fun w'=>w'.cell? ⟨bP,0,none⟩=some (.slice ao L cap)∧w'.cell? ⟨bQ,0,none⟩=some (.slice bo M c)) (by kernel_rfl) ⟨b0,b1⟩ (fun hS=>?_);refine aC 0 (some 10) (.slice ao L cap) (y:=.inl ⟨by rfl,fun w h=>by simp [execOp,go_sem,h.1]⟩) (s:=hS) (k:=?_);simp only [Act.put,lsA,lsS,lsZ];refine aC 2 (some 12) (.slice bo M c) (y:=.inl ⟨by rfl,fun w h=>by simp [execOp,go_sem,h.2]⟩) (s:=hS) (k:=?_);simp only [Act.put,lsA,lsS,lsZ]
 refine bJ 1 (some 11) (by kernel_rfl) rfl rfl (by rfl) 48 _ _ [.slice ao L cap] rfl rfl (fun _ _=>by simp [go_sem]) (J1) ?_;rintro e w4 ⟨rfl,k4⟩;exact .inr ⟨_,rfl,rfl,.no hN (KD.trans k4)⟩

theorem BT (bP bQ bE bK:Nat) (ao bo:Option Addr) (L M cap b:Nat) (xs ys:List Nat) (P Q e B:Nat) (hP:P=val xs) (hQ:Q=val ys) (j:M≤1000) (g:L≤300∧cH P) (c:¬ (M≤300∧cH Q)) (a w:World) (hu:Row .u64 w (.slice ao L cap) xs) (hv:Row .u64 w (.slice bo M b) ys) (d:Digs xs) (f:Digs ys) (b0:w.cell? ⟨bP,0,none⟩=some (.slice ao L cap)) (b1:w.cell? ⟨bQ,0,none⟩=some (.slice bo M b)) :
  Calls Tryz.prog 47 #[.pointer (some ⟨bP,0,none⟩),.pointer (some ⟨bQ,0,none⟩),.pointer (some ⟨bE,0,none⟩),.pointer (some ⟨bK,0,none⟩)] w fun r w'=>OfEnd L M P Q e B bK a w r w':=by
 have hN:¬ cl L M P Q e:=fun h=>c ⟨h.1.2,h.2.2.1⟩
 have KD:Kept af w w.drew:=(ah af w).drew;have J1:=iK ao L cap xs P (ak P) hP rfl g w.drew (hu.grew KD) d;have J2:Hid (∀ W,Kept af w W→Calls Tryz.prog 48 #[.slice bo M b] W fun e w'=>e=.panicked [refusal 190]∧Kept af W w'):=fun W k=>oB bo M b ys Q hQ (by omega) c W (hv.grew k) f
 clear hu hv d f hP hQ c g;go_enter Tryz.func47,Tryz.ntmps47;go_wp2_with fail;refine wp_region_held_drew (S:=fun w'=>w'.cell? ⟨bP,0,none⟩=some (.slice ao L cap)∧w'.cell? ⟨bQ,0,none⟩=some (.slice bo M b)) (by kernel_rfl) ⟨b0,b1⟩ (fun hS=>?_);refine aC 0 (some 10) (.slice ao L cap) (y:=.inl ⟨by rfl,fun w h=>by simp [execOp,go_sem,h.1]⟩) (s:=hS) (k:=?_);simp only [Act.put,lsA,lsS,lsZ];refine aC 2 (some 12) (.slice bo M b) (y:=.inl ⟨by rfl,fun w h=>by simp [execOp,go_sem,h.2]⟩) (s:=hS) (k:=?_);simp only [Act.put,lsA,lsS,lsZ];refine bJ 1 (some 11) (by kernel_rfl) rfl rfl (by rfl) 48 _ _ [.slice ao L cap] rfl rfl (fun _ _=>by simp [go_sem]) (J1) ?_
 rintro e w4 ⟨vo,vc,rfl,_,_,k4⟩;have i:w4.cell? ⟨bP,0,none⟩=some (.slice ao L cap)∧w4.cell? ⟨bQ,0,none⟩=some (.slice bo M b):=⟨k4.cellN hS.1,k4.cellN hS.2⟩
 refine .inl ⟨_,rfl,i,?_⟩;simp only [Act.put,lsA,lsS,lsZ];refine bJ 3 (some 13) (by kernel_rfl) rfl rfl (by rfl) 48 _ _ [.slice bo M b] rfl rfl (fun _ _=>by simp [go_sem]) (J2.out w4 (KD.trans k4)) ?_;rintro e w5 ⟨rfl,k5⟩;exact .inr ⟨_,rfl,rfl,.no hN ((KD.trans k4).trans k5)⟩

theorem Cu (bP bQ bE bK:Nat) (ao bo:Option Addr) (L M cap d:Nat) (xs ys:List Nat) (P Q e B:Nat) (hP:P=val xs) (hQ:Q=val ys) (g:L≤300∧cH P) (b:M≤300∧cH Q) (l:fA (aT P Q) e≠0) (a w:World) (hu:Row .u64 w (.slice ao L cap) xs) (hv:Row .u64 w (.slice bo M d) ys) (J:Digs xs) (T:Digs ys) (b0:w.cell? ⟨bP,0,none⟩=some (.slice ao L cap)) (b1:w.cell? ⟨bQ,0,none⟩=some (.slice bo M d)) (b2:w.cell? ⟨bE,0,none⟩=some (.int .u64 (e:Int))) :
  Calls Tryz.prog 47 #[.pointer (some ⟨bP,0,none⟩),.pointer (some ⟨bQ,0,none⟩),.pointer (some ⟨bE,0,none⟩),.pointer (some ⟨bK,0,none⟩)] w fun r w'=>OfEnd L M P Q e B bK a w r w':=by
 have X:0<P*Q:=Nat.mul_pos (by have:=g.2.1;omega) (by have:=b.2.1;omega);obtain ⟨np,p⟩:∃ np,np=ak P:=⟨_,rfl⟩
 obtain ⟨nq,E⟩:∃ nq,nq=ak Q:=⟨_,rfl⟩
 obtain ⟨nw,j⟩:∃ nw,nw=ak (P*Q):=⟨_,rfl⟩
 have ab:=g.2.1;have Z:=b.2.1;have ad:=g.2.2.1;have I:np≤128:=by rw [p];exact aW (n:=128) (by have:=g.2.2.2;omega)
 have D:nq≤128:=by rw [E];exact aW (n:=128) (by have:=b.2.2.2;omega)
 have A:P<18446744073709551616^np:=(ap P np).1 (by omega);have x:Q<18446744073709551616^nq:=(ap Q nq).1 (by omega);have F:P*Q<18446744073709551616^(np+nq):=by rw [Nat.pow_add];exact Nat.mul_lt_mul_of_lt_of_lt A x
 have G:nw≤np+nq:=by rw [j];exact (ap _ _).2 F
 have Y:P*Q<18446744073709551616^nw:=(ap _ nw).1 (by omega);have vP:val (ai P np)=P:=by rw [al,am A]
 have vQ:val (ai Q nq)=Q:=by rw [al,am x]
 have vN:val (ai (P*Q) nw)=P*Q:=by rw [al,am Y]
 have dP:Digs (ai P np):=aj (by omega) _ _;have dQ:Digs (ai Q nq):=aj (by omega) _ _;have dN:Digs (ai (P*Q) nw):=aj (by omega) _ _;have N:aT P Q=ai (P*Q) nw:=by rw [j];exact fB X
 have KD:Kept af w w.drew:=(ah af w).drew;have J1:=iK ao L cap xs P np hP p g w.drew (hu.grew KD) J;have J2:Hid (∀ W,Kept af w W→Calls Tryz.prog 48 #[.slice bo M d] W fun e w'=>∃ vo vc,e=.returned (.slice vo nq vc)∧Row .u64 w' (.slice vo nq vc) (ai Q nq)∧Fresh W (.slice vo nq vc)∧Kept af W w'):=fun W k=>iK bo M d ys Q nq hQ E b W (hv.grew k) T
 have i:Hid (∀ W va ca vb cb,Row .u64 W (.slice va np ca) (ai P np)→Row .u64 W (.slice vb nq cb) (ai Q nq)→Calls Tryz.prog 50 #[.pointer none,.slice va np ca,.slice vb nq cb] W fun e w'=>∃ vo vc,e=.returned (.slice vo (np+nq) vc)∧Row .u64 w' (.slice vo (np+nq) vc) (ai (P*Q) (np+nq))∧Kept af W w'):=fun W va ca vb cb h1 h2=>by
  refine (tH va vb np nq ca cb _ _ W h1 h2 dP dQ).mono ?_;rintro e w' ⟨v',rfl,hr,k⟩;rw [vP,vQ] at hr;unfold fJ at hr;rw [if_pos (by omega)] at hr;obtain ⟨vo,vn,vc,rfl,hl,_,_,_,_⟩:=hr.open;obtain rfl:np+nq=vn:=by rw [← hl.out,ag]
  exact ⟨_,_,rfl,hr,k⟩
 have JN:Hid (∀ W v c,Row .u64 W (.slice v (np+nq) c) (ai (P*Q) (np+nq))→Calls Tryz.prog 49 #[.slice v (np+nq) c] W fun e w'=>∃ vo vc,e=.returned (.slice vo nw vc)∧Row .u64 w' (.slice vo nw vc) (ai (P*Q) nw)∧Fresh W (.slice vo nw vc)∧Kept af W w'):=fun W v c h=>lu v (np+nq) c _ (P*Q) nw (by rw [al,am F]) j (by omega) W h (aj (by omega) _ _) (by rw [ag];omega)
 have f:Hid (∀ W v c,Row .u64 W (.slice v nw c) (ai (P*Q) nw)→Calls Tryz.prog 52 #[.slice v nw c,.int .u64 (e:Nat)] W fun r w'=>r=.returned (.int .i64 ((fA (ai (P*Q) nw) e:Nat):Int))∧Kept af W w'):=fun W v c h=>yC v nw c _ e W h dN (by omega)
 have hN:¬ cl L M P Q e:=fun h=>l h.2.2.2.2.1
 rw [N] at l;rw [(gh _ _).resolve_left l] at f;have hY:=cG 190;clear hu hv J T hP hQ g b X p E j ab Z ad I D A x F G Y vP vQ vN dP dQ dN N l;go_enter Tryz.func47,Tryz.ntmps47;go_wp2_with fail;refine wp_region_held_drew (S:=fun w'=>w'.cell? ⟨bP,0,none⟩=some (.slice ao L cap)∧w'.cell? ⟨bQ,0,none⟩=some (.slice bo M d)) (by kernel_rfl) ⟨b0,b1⟩ (fun hS=>?_);refine aC 0 (some 10) (.slice ao L cap) (y:=.inl ⟨by rfl,fun w h=>by simp [execOp,go_sem,h.1]⟩) (s:=hS) (k:=?_);simp only [Act.put,lsA,lsS,lsZ];refine aC 2 (some 12) (.slice bo M d) (y:=.inl ⟨by rfl,fun w h=>by simp [execOp,go_sem,h.2]⟩) (s:=hS) (k:=?_)
 simp only [Act.put,lsA,lsS,lsZ];refine bJ 1 (some 11) (by kernel_rfl) rfl rfl (by rfl) 48 _ _ [.slice ao L cap] rfl rfl (fun _ _=>by simp [go_sem]) (J1) ?_;rintro e w4 ⟨vp,cp,rfl,O,_,k4⟩;have o:w4.cell? ⟨bP,0,none⟩=some (.slice ao L cap)∧w4.cell? ⟨bQ,0,none⟩=some (.slice bo M d):=⟨k4.cellN hS.1,k4.cellN hS.2⟩
 refine .inl ⟨_,rfl,o,?_⟩;simp only [Act.put,lsA,lsS,lsZ];refine bJ 3 (some 13) (by kernel_rfl) rfl rfl (by rfl) 48 _ _ [.slice bo M d] rfl rfl (fun _ _=>by simp [go_sem]) (J2.out w4 (KD.trans k4)) ?_;rintro e w5 ⟨vq,cq,rfl,R,_,k5⟩;have m:w5.cell? ⟨bP,0,none⟩=some (.slice ao L cap)∧w5.cell? ⟨bQ,0,none⟩=some (.slice bo M d):=⟨k5.cellN o.1,k5.cellN o.2⟩
 refine .inl ⟨_,rfl,m,?_⟩;simp only [Act.put,lsA,lsS,lsZ];refine aC 4 (some 4) (.slice vp np cp) (y:=.inl ⟨by rfl,fun w h=>by simp [execOp,go_sem]⟩) (s:=m) (k:=?_);simp only [Act.put,lsA,lsS,lsZ];refine aC 5 (some 5) (.slice vq nq cq) (y:=.inl ⟨by rfl,fun w h=>by simp [execOp,go_sem]⟩) (s:=m) (k:=?_);simp only [Act.put,lsA,lsS,lsZ];refine wpAnyH_done (by kernel_rfl) ?_ _;have H:=aa ((KD.trans k4).trans k5);have C:=aa (O.grew k5);have t:=aa R;have J5:=i.out w5 vp cp vq cq C.out t.out;clear J1 J2 KD k4 k5 O R hS o m i b0 b1;go_wp2_with fail;refine J5.mono ?_;rintro e6 w6 ⟨vm,cm,rfl,U,k6⟩;have J6:=JN.out w6 vm cm U;clear J5 U JN
 go_wp2_with fail;refine J6.mono ?_;rintro e6 w7 ⟨vn,cn,rfl,z,V,k7⟩;have q:=aa (H.out.trans (k6.trans k7));have aq:=aa (C.out.grew (k6.trans k7));have ar:=aa (t.out.grew (k6.trans k7));have an:=aa z;have ae:=aa (V.after (H.out.trans k6));have J7:=f.out w7 vn cn z;have c7:=q.out.cellN b2;clear J6 z V k6 k7 H C t f;go_wp2_with fail;refine J7.mono ?_;rintro e6 w8 ⟨rfl,k8⟩;have ac:=aa (q.out.trans k8);clear J7 k8 q;go_wp2_with fail;refine (hY _).mono ?_;rintro e6 w9 ⟨rfl,rfl⟩;exact ⟨rfl,.no hN ac.out⟩

theorem Cy (bP bQ bE bK:Nat) (ao bo:Option Addr) (L M cap f:Nat) (xs ys:List Nat) (P Q e B:Nat) (hP:P=val xs) (hQ:Q=val ys) (j:L≤300∧cH P) (b:M≤300∧cH Q) (g:fA (aT P Q) e=0) (A:Nat.gcd Q P≠1) (a w:World) (hu:Row .u64 w (.slice ao L cap) xs) (hv:Row .u64 w (.slice bo M f) ys) (O:Digs xs) (V:Digs ys) (b0:w.cell? ⟨bP,0,none⟩=some (.slice ao L cap)) (b1:w.cell? ⟨bQ,0,none⟩=some (.slice bo M f)) (b2:w.cell? ⟨bE,0,none⟩=some (.int .u64 (e:Int))) :
  Calls Tryz.prog 47 #[.pointer (some ⟨bP,0,none⟩),.pointer (some ⟨bQ,0,none⟩),.pointer (some ⟨bE,0,none⟩),.pointer (some ⟨bK,0,none⟩)] w fun r w'=>OfEnd L M P Q e B bK a w r w':=by
 have ae:0<P*Q:=Nat.mul_pos (by have:=j.2.1;omega) (by have:=b.2.1;omega);obtain ⟨np,m⟩:∃ np,np=ak P:=⟨_,rfl⟩
 obtain ⟨nq,G⟩:∃ nq,nq=ak Q:=⟨_,rfl⟩
 obtain ⟨nw,o⟩:∃ nw,nw=ak (P*Q):=⟨_,rfl⟩
 have ax:=j.2.1;have aw:=b.2.1;have Z:=j.2.2.1;have N:np≤128:=by rw [m];exact aW (n:=128) (by have:=j.2.2.2;omega)
 have F:nq≤128:=by rw [G];exact aW (n:=128) (by have:=b.2.2.2;omega)
 have D:P<18446744073709551616^np:=(ap P np).1 (by omega);have z:Q<18446744073709551616^nq:=(ap Q nq).1 (by omega);have H:P*Q<18446744073709551616^(np+nq):=by rw [Nat.pow_add];exact Nat.mul_lt_mul_of_lt_of_lt D z
 have I:nw≤np+nq:=by rw [o];exact (ap _ _).2 H
 have aq:P*Q<18446744073709551616^nw:=(ap _ nw).1 (by omega);have vP:val (ai P np)=P:=by rw [al,am D]
 have vQ:val (ai Q nq)=Q:=by rw [al,am z]
 have vN:val (ai (P*Q) nw)=P*Q:=by rw [al,am aq]
 have dP:Digs (ai P np):=aj (by omega) _ _;have dQ:Digs (ai Q nq):=aj (by omega) _ _;have dN:Digs (ai (P*Q) nw):=aj (by omega) _ _;have R:aT P Q=ai (P*Q) nw:=by rw [o];exact fB ae
 have KD:Kept af w w.drew:=(ah af w).drew;have J1:=iK ao L cap xs P np hP m j w.drew (hu.grew KD) O;have J2:Hid (∀ W,Kept af w W→Calls Tryz.prog 48 #[.slice bo M f] W fun e w'=>∃ vo vc,e=.returned (.slice vo nq vc)∧Row .u64 w' (.slice vo nq vc) (ai Q nq)∧Fresh W (.slice vo nq vc)∧Kept af W w'):=fun W k=>iK bo M f ys Q nq hQ G b W (hv.grew k) V
 have l:Hid (∀ W va ca vb cb,Row .u64 W (.slice va np ca) (ai P np)→Row .u64 W (.slice vb nq cb) (ai Q nq)→Calls Tryz.prog 50 #[.pointer none,.slice va np ca,.slice vb nq cb] W fun e w'=>∃ vo vc,e=.returned (.slice vo (np+nq) vc)∧Row .u64 w' (.slice vo (np+nq) vc) (ai (P*Q) (np+nq))∧Kept af W w'):=fun W va ca vb cb h1 h2=>by
  refine (tH va vb np nq ca cb _ _ W h1 h2 dP dQ).mono ?_;rintro e w' ⟨v',rfl,hr,k⟩;rw [vP,vQ] at hr;unfold fJ at hr;rw [if_pos (by omega)] at hr;obtain ⟨vo,vn,vc,rfl,hl,_,_,_,_⟩:=hr.open;obtain rfl:np+nq=vn:=by rw [← hl.out,ag]
  exact ⟨_,_,rfl,hr,k⟩
 have JN:Hid (∀ W v c,Row .u64 W (.slice v (np+nq) c) (ai (P*Q) (np+nq))→Calls Tryz.prog 49 #[.slice v (np+nq) c] W fun e w'=>∃ vo vc,e=.returned (.slice vo nw vc)∧Row .u64 w' (.slice vo nw vc) (ai (P*Q) nw)∧Fresh W (.slice vo nw vc)∧Kept af W w'):=fun W v c h=>lu v (np+nq) c _ (P*Q) nw (by rw [al,am H]) o (by omega) W h (aj (by omega) _ _) (by rw [ag];omega)
 have i:Hid (∀ W v c,Row .u64 W (.slice v nw c) (ai (P*Q) nw)→Calls Tryz.prog 52 #[.slice v nw c,.int .u64 (e:Nat)] W fun r w'=>r=.returned (.int .i64 ((fA (ai (P*Q) nw) e:Nat):Int))∧Kept af W w'):=fun W v c h=>yC v nw c _ e W h dN (by omega)
 have d:=g;rw [R] at d;have Y:=(jH dN (by rw [ag];omega) e).1 d;rw [vN] at Y;obtain ⟨-,-,aB,ar,ay⟩:=Y;rw [d] at i;have hR:=bi 190;have hN:¬ cl L M P Q e:=fun h=>A (by rw [Nat.gcd_comm];exact h.2.2.2.1)
 have JI:Hid (∀ W va ca vb cb,Row .u64 W (.slice va nq ca) (ai Q nq)→Row .u64 W (.slice vb np cb) (ai P np)→Calls Tryz.prog 53 #[.slice va nq ca,.slice vb np cb] W fun e w'=>e=.panicked [refusal 190]∧Kept af W w'):=fun W va ca vb cb h1 h2=>pZ va vb nq np ca cb _ _ Q P vQ.symm vP.symm (by omega) Z m (by omega) (by omega) A W h1 h2 dQ dP
 clear aB ar ay A hu hv O V hP hQ j b ae m G o ax aw Z N F D z H I aq vP vQ vN dP dQ dN R d g;go_enter Tryz.func47,Tryz.ntmps47;go_wp2_with fail;refine wp_region_held_drew (S:=fun w'=>w'.cell? ⟨bP,0,none⟩=some (.slice ao L cap)∧w'.cell? ⟨bQ,0,none⟩=some (.slice bo M f)) (by kernel_rfl) ⟨b0,b1⟩ (fun hS=>?_);refine aC 0 (some 10) (.slice ao L cap) (y:=.inl ⟨by rfl,fun w h=>by simp [execOp,go_sem,h.1]⟩) (s:=hS) (k:=?_);simp only [Act.put,lsA,lsS,lsZ];refine aC 2 (some 12) (.slice bo M f) (y:=.inl ⟨by rfl,fun w h=>by simp [execOp,go_sem,h.2]⟩) (s:=hS) (k:=?_);simp only [Act.put,lsA,lsS,lsZ]
 refine bJ 1 (some 11) (by kernel_rfl) rfl rfl (by rfl) 48 _ _ [.slice ao L cap] rfl rfl (fun _ _=>by simp [go_sem]) (J1) ?_;rintro e w4 ⟨vp,cp,rfl,T,_,k4⟩;have q:w4.cell? ⟨bP,0,none⟩=some (.slice ao L cap)∧w4.cell? ⟨bQ,0,none⟩=some (.slice bo M f):=⟨k4.cellN hS.1,k4.cellN hS.2⟩
 refine .inl ⟨_,rfl,q,?_⟩;simp only [Act.put,lsA,lsS,lsZ];refine bJ 3 (some 13) (by kernel_rfl) rfl rfl (by rfl) 48 _ _ [.slice bo M f] rfl rfl (fun _ _=>by simp [go_sem]) (J2.out w4 (KD.trans k4)) ?_;rintro e w5 ⟨vq,cq,rfl,U,_,k5⟩;have p:w5.cell? ⟨bP,0,none⟩=some (.slice ao L cap)∧w5.cell? ⟨bQ,0,none⟩=some (.slice bo M f):=⟨k5.cellN q.1,k5.cellN q.2⟩
 refine .inl ⟨_,rfl,p,?_⟩;simp only [Act.put,lsA,lsS,lsZ];refine aC 4 (some 4) (.slice vp np cp) (y:=.inl ⟨by rfl,fun w h=>by simp [execOp,go_sem]⟩) (s:=p) (k:=?_);simp only [Act.put,lsA,lsS,lsZ];refine aC 5 (some 5) (.slice vq nq cq) (y:=.inl ⟨by rfl,fun w h=>by simp [execOp,go_sem]⟩) (s:=p) (k:=?_);simp only [Act.put,lsA,lsS,lsZ];refine wpAnyH_done (by kernel_rfl) ?_ _;have J:=aa ((KD.trans k4).trans k5);have E:=aa (T.grew k5);have x:=aa U;have J5:=l.out w5 vp cp vq cq E.out x.out;clear J1 J2 KD k4 k5 T U hS q p l b0 b1;go_wp2_with fail;refine J5.mono ?_;rintro e6 w6 ⟨vm,cm,rfl,X,k6⟩;have J6:=JN.out w6 vm cm X;clear J5 X JN
 go_wp2_with fail;refine J6.mono ?_;rintro e6 w7 ⟨vn,cn,rfl,C,ac,k7⟩;have t:=aa (J.out.trans (k6.trans k7));have ad:=aa (E.out.grew (k6.trans k7));have an:=aa (x.out.grew (k6.trans k7));have ab:=aa C;have aE:=aa (ac.after (J.out.trans k6));have J7:=i.out w7 vn cn C;have c7:=t.out.cellN b2;clear J6 C ac k6 k7 J E x i;go_wp2_with fail;refine J7.mono ?_;rintro e6 w8 ⟨rfl,k8⟩;have aA:=aa (t.out.trans k8);have au:=aa (ad.out.grew k8);have av:=aa (an.out.grew k8);have aF:=aa (ab.out.grew k8);clear J7 k8 t ad an ab;go_wp2_with fail;refine (hR _).mono ?_;rintro e6 w9 ⟨rfl,rfl⟩
 have J9:=JI.out w9 vq cq vp cp av.out au.out;clear hR JI;go_wp2_with fail;refine J9.mono ?_;rintro e6 aD ⟨rfl,az⟩;exact ⟨rfl,.no hN (aA.out.trans az)⟩

theorem Ce (bP bQ bE bK:Nat) (ao bo:Option Addr) (L M cap f:Nat) (xs ys:List Nat) (P Q e B:Nat) (hP:P=val xs) (hQ:Q=val ys) (m:L≤300∧cH P) (b:M≤300∧cH Q) (i:fA (aT P Q) e=0) (hg:Nat.gcd Q P=1) (O:Nat.gcd (dh P Q) e≠1) (a w:World) (hu:Row .u64 w (.slice ao L cap) xs) (hv:Row .u64 w (.slice bo M f) ys) (aw:Digs xs) (aU:Digs ys) (b0:w.cell? ⟨bP,0,none⟩=some (.slice ao L cap)) (b1:w.cell? ⟨bQ,0,none⟩=some (.slice bo M f)) (b2:w.cell? ⟨bE,0,none⟩=some (.int .u64 (e:Int))) :
  Calls Tryz.prog 47 #[.pointer (some ⟨bP,0,none⟩),.pointer (some ⟨bQ,0,none⟩),.pointer (some ⟨bE,0,none⟩),.pointer (some ⟨bK,0,none⟩)] w fun r w'=>OfEnd L M P Q e B bK a w r w':=by
 have aS:0<P*Q:=Nat.mul_pos (by have:=m.2.1;omega) (by have:=b.2.1;omega);obtain ⟨np,D⟩:∃ np,np=ak P:=⟨_,rfl⟩
 obtain ⟨nq,Z⟩:∃ nq,nq=ak Q:=⟨_,rfl⟩
 obtain ⟨nw,E⟩:∃ nw,nw=ak (P*Q):=⟨_,rfl⟩
 have az:=m.2.1;have aL:=b.2.1;have aD:=m.2.2.1;have ad:np≤128:=by rw [D];exact aW (n:=128) (by have:=m.2.2.2;omega)
 have X:nq≤128:=by rw [Z];exact aW (n:=128) (by have:=b.2.2.2;omega)
 have z:P<18446744073709551616^np:=(ap P np).1 (by omega);have x:Q<18446744073709551616^nq:=(ap Q nq).1 (by omega);have au:P*Q<18446744073709551616^(np+nq):=by rw [Nat.pow_add];exact Nat.mul_lt_mul_of_lt_of_lt z x
 have ab:nw≤np+nq:=by rw [E];exact (ap _ _).2 au
 have aK:P*Q<18446744073709551616^nw:=(ap _ nw).1 (by omega);have vP:val (ai P np)=P:=by rw [al,am z]
 have vQ:val (ai Q nq)=Q:=by rw [al,am x]
 have vN:val (ai (P*Q) nw)=P*Q:=by rw [al,am aK]
 have dP:Digs (ai P np):=aj (by omega) _ _;have dQ:Digs (ai Q nq):=aj (by omega) _ _;have dN:Digs (ai (P*Q) nw):=aj (by omega) _ _;have ax:aT P Q=ai (P*Q) nw:=by rw [E];exact fB aS
 have KD:Kept af w w.drew:=(ah af w).drew;have J1:=iK ao L cap xs P np hP D m w.drew (hu.grew KD) aw;have J2:Hid (∀ W,Kept af w W→Calls Tryz.prog 48 #[.slice bo M f] W fun e w'=>∃ vo vc,e=.returned (.slice vo nq vc)∧Row .u64 w' (.slice vo nq vc) (ai Q nq)∧Fresh W (.slice vo nq vc)∧Kept af W w'):=fun W k=>iK bo M f ys Q nq hQ Z b W (hv.grew k) aU
 have o:Hid (∀ W va ca vb cb,Row .u64 W (.slice va np ca) (ai P np)→Row .u64 W (.slice vb nq cb) (ai Q nq)→Calls Tryz.prog 50 #[.pointer none,.slice va np ca,.slice vb nq cb] W fun e w'=>∃ vo vc,e=.returned (.slice vo (np+nq) vc)∧Row .u64 w' (.slice vo (np+nq) vc) (ai (P*Q) (np+nq))∧Kept af W w'):=fun W va ca vb cb h1 h2=>by
  refine (tH va vb np nq ca cb _ _ W h1 h2 dP dQ).mono ?_;rintro e w' ⟨v',rfl,hr,k⟩;rw [vP,vQ] at hr;unfold fJ at hr;rw [if_pos (by omega)] at hr;obtain ⟨vo,vn,vc,rfl,hl,_,_,_,_⟩:=hr.open;obtain rfl:np+nq=vn:=by rw [← hl.out,ag]
  exact ⟨_,_,rfl,hr,k⟩
 have JN:Hid (∀ W v c,Row .u64 W (.slice v (np+nq) c) (ai (P*Q) (np+nq))→Calls Tryz.prog 49 #[.slice v (np+nq) c] W fun e w'=>∃ vo vc,e=.returned (.slice vo nw vc)∧Row .u64 w' (.slice vo nw vc) (ai (P*Q) nw)∧Fresh W (.slice vo nw vc)∧Kept af W w'):=fun W v c h=>lu v (np+nq) c _ (P*Q) nw (by rw [al,am au]) E (by omega) W h (aj (by omega) _ _) (by rw [ag];omega)
 have l:Hid (∀ W v c,Row .u64 W (.slice v nw c) (ai (P*Q) nw)→Calls Tryz.prog 52 #[.slice v nw c,.int .u64 (e:Nat)] W fun r w'=>r=.returned (.int .i64 ((fA (ai (P*Q) nw) e:Nat):Int))∧Kept af W w'):=fun W v c h=>yC v nw c _ e W h dN (by omega)
 have g:=i;rw [ax] at g;have aQ:=(jH dN (by rw [ag];omega) e).1 g;rw [vN] at aQ;obtain ⟨-,-,aA,aY,aN⟩:=aQ;rw [g] at l;have hR:=bi 190;have hN:¬ cl L M P Q e:=fun h=>O (by rw [Nat.gcd_comm];exact h.2.2.2.2.2)
 have JI:Hid (∀ W va ca vb cb,Row .u64 W (.slice va nq ca) (ai Q nq)→Row .u64 W (.slice vb np cb) (ai P np)→Calls Tryz.prog 53 #[.slice va nq ca,.slice vb np cb] W fun e w'=>∃ vo vc T,e=.returned (.slice vo np vc)∧Hid (T<P∧Q*T%P=1)∧Row .u64 w' (.slice vo np vc) (ai T np)∧Kept af W w'):=fun W va ca vb cb h1 h2=>zN va vb nq np ca cb _ _ Q P vQ.symm vP.symm (by omega) aD D (by omega) (by omega) hg W h1 h2 dQ dP
 obtain ⟨C,hC⟩:∃ C,C=dh P Q:=⟨_,rfl⟩
 obtain ⟨nc,av⟩:∃ nc,nc=ak C:=⟨_,rfl⟩
 have aF:C<18446744073709551616^(np+nq):=by rw [hC];exact j6 z x (by omega) (by omega)
 have an:nc≤np+nq:=by rw [av];exact (ap _ _).2 aF
 have aJ:C<18446744073709551616^nc:=(ap C nc).1 (by omega);have vC:val (ai C nc)=C:=by rw [al,am aJ]
 have a1:2≤C:=by rw [hC];exact oX az aL
 have Y:Hid (∀ W va ca vb cb,Row .u64 W (.slice va np ca) (ai P np)→Row .u64 W (.slice vb nq cb) (ai Q nq)→Calls Tryz.prog 56 #[.slice va np ca,.slice vb nq cb] W fun e w'=>∃ vo vc,e=.returned (.tuple #[.slice vo nc vc,.int .i64 0])∧Row .u64 w' (.slice vo nc vc) (ai C nc)∧Kept af W w'):=fun W va ca vb cb h1 h2=>by
  refine (Co va vb np nq ca cb _ _ P Q 0 _ vP.symm vQ.symm (by omega) (by omega) (.inl ⟨rfl,by omega,by omega⟩) (by rw [if_pos rfl,← hC,← av]) W h1 h2 dP dQ).mono ?_;rintro e w' ⟨v',rfl,hr,_,k⟩;obtain ⟨vo,vn,vc,rfl,hl,_,_,_,_⟩:=hr.open;obtain rfl:nc=vn:=by rw [← hl.out,ag]
  exact ⟨_,_,rfl,hr,k⟩
 have a2:=fun v n c W=>iI v n c W
 have JX:Hid (∀ W v c,Row .u64 W (.slice v nc c) (ai C nc)→Calls Tryz.prog 54 #[.int .u64 (e:Nat),.slice v nc c] W fun r w'=>r=.panicked [refusal 190]∧Kept af W w'):=fun W v c h=>xx v nc c _ C e vC.symm aA aN (by omega) (by omega) (by rw [hC];exact O) W h (aj (by omega) _ _)
 clear aA aY aN O hg hC av aF an aJ vC a1 hu hv aw aU hP hQ m b aS D Z E az aL aD ad X z x au ab aK vP vQ vN dP dQ dN ax g i;go_enter Tryz.func47,Tryz.ntmps47;go_wp2_with fail;refine wp_region_held_drew (S:=fun w'=>w'.cell? ⟨bP,0,none⟩=some (.slice ao L cap)∧w'.cell? ⟨bQ,0,none⟩=some (.slice bo M f)) (by kernel_rfl) ⟨b0,b1⟩ (fun hS=>?_);refine aC 0 (some 10) (.slice ao L cap) (y:=.inl ⟨by rfl,fun w h=>by simp [execOp,go_sem,h.1]⟩) (s:=hS) (k:=?_);simp only [Act.put,lsA,lsS,lsZ];refine aC 2 (some 12) (.slice bo M f) (y:=.inl ⟨by rfl,fun w h=>by simp [execOp,go_sem,h.2]⟩) (s:=hS) (k:=?_);simp only [Act.put,lsA,lsS,lsZ]
 refine bJ 1 (some 11) (by kernel_rfl) rfl rfl (by rfl) 48 _ _ [.slice ao L cap] rfl rfl (fun _ _=>by simp [go_sem]) (J1) ?_;rintro e w4 ⟨vp,cp,rfl,ay,_,k4⟩;have A:w4.cell? ⟨bP,0,none⟩=some (.slice ao L cap)∧w4.cell? ⟨bQ,0,none⟩=some (.slice bo M f):=⟨k4.cellN hS.1,k4.cellN hS.2⟩
 refine .inl ⟨_,rfl,A,?_⟩;simp only [Act.put,lsA,lsS,lsZ];refine bJ 3 (some 13) (by kernel_rfl) rfl rfl (by rfl) 48 _ _ [.slice bo M f] rfl rfl (fun _ _=>by simp [go_sem]) (J2.out w4 (KD.trans k4)) ?_;rintro e w5 ⟨vq,cq,rfl,aM,_,k5⟩;have F:w5.cell? ⟨bP,0,none⟩=some (.slice ao L cap)∧w5.cell? ⟨bQ,0,none⟩=some (.slice bo M f):=⟨k5.cellN A.1,k5.cellN A.2⟩
 refine .inl ⟨_,rfl,F,?_⟩;simp only [Act.put,lsA,lsS,lsZ];refine aC 4 (some 4) (.slice vp np cp) (y:=.inl ⟨by rfl,fun w h=>by simp [execOp,go_sem]⟩) (s:=F) (k:=?_);simp only [Act.put,lsA,lsS,lsZ];refine aC 5 (some 5) (.slice vq nq cq) (y:=.inl ⟨by rfl,fun w h=>by simp [execOp,go_sem]⟩) (s:=F) (k:=?_);simp only [Act.put,lsA,lsS,lsZ];refine wpAnyH_done (by kernel_rfl) ?_ _;have ac:=aa ((KD.trans k4).trans k5);have U:=aa (ay.grew k5);have N:=aa aM;have J5:=o.out w5 vp cp vq cq U.out N.out;clear J1 J2 KD k4 k5 ay aM hS A F o b0 b1;go_wp2_with fail;refine J5.mono ?_;rintro e6 w6 ⟨vm,cm,rfl,aO,k6⟩;have J6:=JN.out w6 vm cm aO;clear J5 aO JN
 go_wp2_with fail;refine J6.mono ?_;rintro e6 w7 ⟨vn,cn,rfl,aq,aR,k7⟩;have ae:=aa (ac.out.trans (k6.trans k7));have aG:=aa (U.out.grew (k6.trans k7));have aH:=aa (N.out.grew (k6.trans k7));have aE:=aa aq;have a5:=aa (aR.after (ac.out.trans k6));have J7:=l.out w7 vn cn aq;have c7:=ae.out.cellN b2;clear J6 aq aR k6 k7 ac U N l;go_wp2_with fail;refine J7.mono ?_;rintro e6 w8 ⟨rfl,k8⟩;have aP:=aa (ae.out.trans k8);have H:=aa (aG.out.grew k8);have I:=aa (aH.out.grew k8);have aB:=aa (aE.out.grew k8);clear J7 k8 ae aG aH aE;go_wp2_with fail;refine (hR _).mono ?_;rintro e6 w9 ⟨rfl,rfl⟩
 have J9:=JI.out w9 vq cq vp cp I.out H.out;clear hR JI;go_wp2_with fail;refine J9.mono ?_;rintro e6 J ⟨vi,ci,T,rfl,HT,q,t⟩;have p:=aa (aP.out.trans t);have V:=aa (H.out.grew t);have R:=aa (I.out.grew t);have aX:=aa (aB.out.grew t);have aZ:=aa q;have j:Kept af J J.drew:=(ah af J).drew;have a0:=p.out.cellN b2;clear J9 q t aP H I aB c7;go_wp2_with fail;refine wp_region_held_drew (S:=fun w'=>w'.cell? ⟨bE,0,none⟩=some (.int .u64 (e:Int))) (by kernel_rfl) a0 (fun hS=>?_);refine aC 0 (some 26) (.int .u64 (e:Int)) (y:=.inl ⟨by rfl,fun w h=>by simp [execOp,go_sem,h]⟩) (s:=hS) (k:=?_)
 simp only [Act.put,lsA,lsS,lsZ];refine aC 1 (some 27) (.slice vp np cp) (y:=.inl ⟨by rfl,fun w h=>by simp [execOp,go_sem]⟩) (s:=hS) (k:=?_);simp only [Act.put,lsA,lsS,lsZ];refine aC 2 (some 28) (.slice vq nq cq) (y:=.inl ⟨by rfl,fun w h=>by simp [execOp,go_sem]⟩) (s:=hS) (k:=?_);simp only [Act.put,lsA,lsS,lsZ];refine bJ 3 (some 29) (by kernel_rfl) rfl rfl (by rfl) 56 _ _ [.slice vp np cp,.slice vq nq cq] rfl rfl (fun _ _=>by simp [go_sem]) (Y.out _ vp cp vq cq (V.out.grew j) (R.out.grew j)) ?_;rintro e6 aV ⟨vc,cc,rfl,ar,aI⟩;have d:=aI.cellN hS;refine .inl ⟨_,rfl,d,?_⟩;simp only [Act.put,lsA,lsS,lsZ]
 refine aC 4 (some 30) (.slice vc nc cc) (y:=.inl ⟨by rfl,fun w h=>by simp [execOp,go_sem]⟩) (s:=d) (k:=?_);simp only [Act.put,lsA,lsS,lsZ];refine aC 5 (some 31) (.int .i64 0) (y:=.inl ⟨by rfl,fun w h=>by simp [execOp,go_sem]⟩) (s:=d) (k:=?_);simp only [Act.put,lsA,lsS,lsZ];refine bJ 6 (some 32) (by kernel_rfl) rfl rfl (by rfl) 55 _ _ [.slice vc nc cc,.int .i64 0] rfl rfl (fun _ _=>by simp [go_sem]) (a2 vc nc cc aV) ?_;rintro e6 a4 ⟨rfl,G⟩;subst G;refine .inl ⟨_,rfl,d,?_⟩;simp only [Act.put,lsA,lsS,lsZ];refine bJ 7 (some 33) (by kernel_rfl) rfl rfl (by rfl) 54 _ _ [.int .u64 (e:Int),.slice vc nc cc] rfl rfl (fun _ _=>by simp [go_sem]) (JX.out _ vc cc ar) ?_
 rintro e6 a6 ⟨rfl,a3⟩;exact .inr ⟨_,rfl,rfl,.no hN ((p.out.trans (j.trans aI)).trans a3)⟩

theorem BV (bP bQ bE bK:Nat) (ao bo:Option Addr) (L M cap z:Nat) (xs ys:List Nat) (P Q e B:Nat) (hP:P=val xs) (hQ:Q=val ys) (E:L≤300∧cH P) (i:M≤300∧cH Q) (q:fA (aT P Q) e=0) (hg:Nat.gcd Q P=1) (bf:Nat.gcd (dh P Q) e=1) (a w:World) (hu:Row .u64 w (.slice ao L cap) xs) (hv:Row .u64 w (.slice bo M z) ys) (bn:Digs xs) (bT:Digs ys) (b0:w.cell? ⟨bP,0,none⟩=some (.slice ao L cap)) (b1:w.cell? ⟨bQ,0,none⟩=some (.slice bo M z)) (b2:w.cell? ⟨bE,0,none⟩=some (.int .u64 (e:Int))) (ha:Kept af a w) (bO:a.heap.size≤bK) (hB:w.heap.size=B+1) (bx:w.heap[bK]? = some (.cells zeroKey 42 (0,0))) :
  Calls Tryz.prog 47 #[.pointer (some ⟨bP,0,none⟩),.pointer (some ⟨bQ,0,none⟩),.pointer (some ⟨bE,0,none⟩),.pointer (some ⟨bK,0,none⟩)] w fun r w'=>OfEnd L M P Q e B bK a w r w':=by
 have b3:0<P*Q:=Nat.mul_pos (by have:=E.2.1;omega) (by have:=i.2.1;omega);obtain ⟨np,ay⟩:∃ np,np=ak P:=⟨_,rfl⟩
 obtain ⟨nq,aJ⟩:∃ nq,nq=ak Q:=⟨_,rfl⟩
 obtain ⟨nw,aP⟩:∃ nw,nw=ak (P*Q):=⟨_,rfl⟩
 have bq:=E.2.1;have bG:=i.2.1;have bW:=E.2.2.1;have aY:np≤128:=by rw [ay];exact aW (n:=128) (by have:=E.2.2.2;omega)
 have bb:nq≤128:=by rw [aJ];exact aW (n:=128) (by have:=i.2.2.2;omega)
 have aw:P<18446744073709551616^np:=(ap P np).1 (by omega);have U:Q<18446744073709551616^nq:=(ap Q nq).1 (by omega);have bl:P*Q<18446744073709551616^(np+nq):=by rw [Nat.pow_add];exact Nat.mul_lt_mul_of_lt_of_lt aw U
 have bc:nw≤np+nq:=by rw [aP];exact (ap _ _).2 bl
 have bX:P*Q<18446744073709551616^nw:=(ap _ nw).1 (by omega);have vP:val (ai P np)=P:=by rw [al,am aw]
 have vQ:val (ai Q nq)=Q:=by rw [al,am U]
 have vN:val (ai (P*Q) nw)=P*Q:=by rw [al,am bX]
 have dP:Digs (ai P np):=aj (by omega) _ _;have dQ:Digs (ai Q nq):=aj (by omega) _ _;have dN:Digs (ai (P*Q) nw):=aj (by omega) _ _;have a4:aT P Q=ai (P*Q) nw:=by rw [aP];exact fB b3
 have KD:Kept af w w.drew:=(ah af w).drew;have J1:=iK ao L cap xs P np hP ay E w.drew (hu.grew KD) bn;have J2:Hid (∀ W,Kept af w W→Calls Tryz.prog 48 #[.slice bo M z] W fun e w'=>∃ vo vc,e=.returned (.slice vo nq vc)∧Row .u64 w' (.slice vo nq vc) (ai Q nq)∧Fresh W (.slice vo nq vc)∧Kept af W w'):=fun W k=>iK bo M z ys Q nq hQ aJ i W (hv.grew k) bT
 have av:Hid (∀ W va ca vb cb,Row .u64 W (.slice va np ca) (ai P np)→Row .u64 W (.slice vb nq cb) (ai Q nq)→Calls Tryz.prog 50 #[.pointer none,.slice va np ca,.slice vb nq cb] W fun e w'=>∃ vo vc,e=.returned (.slice vo (np+nq) vc)∧Row .u64 w' (.slice vo (np+nq) vc) (ai (P*Q) (np+nq))∧Kept af W w'):=fun W va ca vb cb h1 h2=>by
  refine (tH va vb np nq ca cb _ _ W h1 h2 dP dQ).mono ?_;rintro e w' ⟨v',rfl,hr,k⟩;rw [vP,vQ] at hr;unfold fJ at hr;rw [if_pos (by omega)] at hr;obtain ⟨vo,vn,vc,rfl,hl,_,_,_,_⟩:=hr.open;obtain rfl:np+nq=vn:=by rw [← hl.out,ag]
  exact ⟨_,_,rfl,hr,k⟩
 have JN:Hid (∀ W v c,Row .u64 W (.slice v (np+nq) c) (ai (P*Q) (np+nq))→Calls Tryz.prog 49 #[.slice v (np+nq) c] W fun e w'=>∃ vo vc,e=.returned (.slice vo nw vc)∧Row .u64 w' (.slice vo nw vc) (ai (P*Q) nw)∧Fresh W (.slice vo nw vc)∧Kept af W w'):=fun W v c h=>lu v (np+nq) c _ (P*Q) nw (by rw [al,am bl]) aP (by omega) W h (aj (by omega) _ _) (by rw [ag];omega)
 have N:Hid (∀ W v c,Row .u64 W (.slice v nw c) (ai (P*Q) nw)→Calls Tryz.prog 52 #[.slice v nw c,.int .u64 (e:Nat)] W fun r w'=>r=.returned (.int .i64 ((fA (ai (P*Q) nw) e:Nat):Int))∧Kept af W w'):=fun W v c h=>yC v nw c _ e W h dN (by omega)
 have D:=q;rw [a4] at D;have bN:=(jH dN (by rw [ag];omega) e).1 D;rw [vN] at bN;obtain ⟨-,-,bw,co,bI⟩:=bN;rw [D] at N;have hR:=bi 190;have JI:Hid (∀ W va ca vb cb,Row .u64 W (.slice va nq ca) (ai Q nq)→Row .u64 W (.slice vb np cb) (ai P np)→Calls Tryz.prog 53 #[.slice va nq ca,.slice vb np cb] W fun e w'=>∃ vo vc T,e=.returned (.slice vo np vc)∧Hid (T<P∧Q*T%P=1)∧Row .u64 w' (.slice vo np vc) (ai T np)∧Kept af W w'):=fun W va ca vb cb h1 h2=>zN va vb nq np ca cb _ _ Q P vQ.symm vP.symm (by omega) bW ay (by omega) (by omega) hg W h1 h2 dQ dP
 obtain ⟨C,hC⟩:∃ C,C=dh P Q:=⟨_,rfl⟩
 obtain ⟨nc,bm⟩:∃ nc,nc=ak C:=⟨_,rfl⟩
 have bC:C<18446744073709551616^(np+nq):=by rw [hC];exact j6 aw U (by omega) (by omega)
 have bg:nc≤np+nq:=by rw [bm];exact (ap _ _).2 bC
 have ab:C<18446744073709551616^nc:=(ap C nc).1 (by omega);have vC:val (ai C nc)=C:=by rw [al,am ab]
 have bS:2≤C:=by rw [hC];exact oX bq bG
 have ax:Hid (∀ W va ca vb cb,Row .u64 W (.slice va np ca) (ai P np)→Row .u64 W (.slice vb nq cb) (ai Q nq)→Calls Tryz.prog 56 #[.slice va np ca,.slice vb nq cb] W fun e w'=>∃ vo vc,e=.returned (.tuple #[.slice vo nc vc,.int .i64 0])∧Row .u64 w' (.slice vo nc vc) (ai C nc)∧Kept af W w'):=fun W va ca vb cb h1 h2=>by
  refine (Co va vb np nq ca cb _ _ P Q 0 _ vP.symm vQ.symm (by omega) (by omega) (.inl ⟨rfl,by omega,by omega⟩) (by rw [if_pos rfl,← hC,← bm]) W h1 h2 dP dQ).mono ?_;rintro e w' ⟨v',rfl,hr,_,k⟩;obtain ⟨vo,vn,vc,rfl,hl,_,_,_,_⟩:=hr.open;obtain rfl:nc=vn:=by rw [← hl.out,ag]
  exact ⟨_,_,rfl,hr,k⟩
 have b4:=fun v n c W=>iI v n c W
 have JX:Hid (∀ W v c,Row .u64 W (.slice v nc c) (ai C nc)→Calls Tryz.prog 54 #[.int .u64 (e:Nat),.slice v nc c] W fun r w'=>∃ vo vc d,r=.returned (.slice vo (nc+1) vc)∧Hid (d<C∧e*d%C=1)∧Row .u64 w' (.slice vo (nc+1) vc) (ai d (nc+1))∧Kept af W w'):=fun W v c h=>CK v nc c _ C e vC.symm bS bw bI (by omega) (by omega) (by rw [hC];exact bf) W h (aj (by omega) _ _)
 obtain ⟨m,hm⟩:∃ m,m=max np nq:=⟨_,rfl⟩
 have cz:max (np:Int) (nq:Int)=(m:Int):=by omega
 have cf:C<P*Q:=by
  have h1:C≤(P-1)*(Q-1):=by
   rw [hC,dh];exact Nat.mul_le_mul_right _ (Nat.div_le_self _ _)
  have h2:(P-1)*(Q-1)≤(P-1)*Q:=Nat.mul_le_mul_left _ (by omega);have h3:(P-1)*Q<P*Q:=Nat.mul_lt_mul_of_pos_right (by omega) (by omega);omega
 have cw:P<18446744073709551616^m:=Nat.lt_of_lt_of_le aw (Nat.pow_le_pow_right (by omega) (by omega));have b5:Q<18446744073709551616^m:=Nat.lt_of_lt_of_le U (Nat.pow_le_pow_right (by omega) (by omega));have F1:Hid (∀ W v c d,d<C→Row .u64 W (.slice v (nc+1) c) (ai d (nc+1))→Calls Tryz.prog 57 #[.slice v (nc+1) c,.int .i64 (nw:Nat)] W fun e w'=>∃ vo vc,e=.returned (.slice vo nw vc)∧Row .u64 w' (.slice vo nw vc) (ai d nw)∧Fresh W (.slice vo nw vc)∧Kept af W w'):=fun W v c d V h=>yW v (nc+1) c _ d nw (by rw [al,am];exact Nat.lt_of_lt_of_le (Nat.lt_trans V ab) (Nat.pow_le_pow_right (by omega) (by omega))) (by omega) (by omega) W h (aj (by omega) _ _)
 have FP:Hid (∀ W v c X,X≤P→Row .u64 W (.slice v np c) (ai X np)→Calls Tryz.prog 57 #[.slice v np c,.int .i64 (m:Nat)] W fun e w'=>∃ vo vc,e=.returned (.slice vo m vc)∧Row .u64 w' (.slice vo m vc) (ai X m)∧Fresh W (.slice vo m vc)∧Kept af W w'):=fun W v c X hX h=>yW v np c _ X m (by rw [al,am (by omega)]) (by omega) (by omega) W h (aj (by omega) _ _)
 have FQ:Hid (∀ W v c X,X≤Q→Row .u64 W (.slice v nq c) (ai X nq)→Calls Tryz.prog 57 #[.slice v nq c,.int .i64 (m:Nat)] W fun e w'=>∃ vo vc,e=.returned (.slice vo m vc)∧Row .u64 w' (.slice vo m vc) (ai X m)∧Fresh W (.slice vo m vc)∧Kept af W w'):=fun W v c X hX h=>yW v nq c _ X m (by rw [al,am (by omega)]) (by omega) (by omega) W h (aj (by omega) _ _)
 have LP:Hid (∀ W v c,Row .u64 W (.slice v np c) (ai P np)→Calls Tryz.prog 59 #[.slice v np c] W fun e w'=>∃ vo vc,e=.returned (.slice vo np vc)∧Row .u64 w' (.slice vo np vc) (ai (P-1) np)∧Kept af W w'):=fun W v c h=>qh v np c _ P vP.symm (by omega) (ag _ _ _) (by omega) W h dP
 have LQ:Hid (∀ W v c,Row .u64 W (.slice v nq c) (ai Q nq)→Calls Tryz.prog 59 #[.slice v nq c] W fun e w'=>∃ vo vc,e=.returned (.slice vo nq vc)∧Row .u64 w' (.slice vo nq vc) (ai (Q-1) nq)∧Kept af W w'):=fun W v c h=>qh v nq c _ Q vQ.symm (by omega) (ag _ _ _) (by omega) W h dQ
 have RP:Hid (∀ W v c v2 c2 d,d<C→Row .u64 W (.slice v (nc+1) c) (ai d (nc+1))→Row .u64 W (.slice v2 np c2) (ai (P-1) np)→Calls Tryz.prog 58 #[.slice v (nc+1) c,.slice v2 np c2] W fun e w'=>∃ vo vc,e=.returned (.slice vo np vc)∧Row .u64 w' (.slice vo np vc) (ai (d%(P-1)) np)∧Kept af W w'):=fun W v c v2 c2 d V h1 h2=>p9 v v2 (nc+1) np c c2 _ _ d (P-1) (by rw [al,am];exact Nat.lt_of_lt_of_le (Nat.lt_trans V ab) (Nat.pow_le_pow_right (by omega) (by omega))) (by rw [al,am (by omega)]) (by omega) (by omega) (by omega) W h1 h2 (aj (by omega) _ _) (aj (by omega) _ _)
 have RQ:Hid (∀ W v c v2 c2 d,d<C→Row .u64 W (.slice v (nc+1) c) (ai d (nc+1))→Row .u64 W (.slice v2 nq c2) (ai (Q-1) nq)→Calls Tryz.prog 58 #[.slice v (nc+1) c,.slice v2 nq c2] W fun e w'=>∃ vo vc,e=.returned (.slice vo nq vc)∧Row .u64 w' (.slice vo nq vc) (ai (d%(Q-1)) nq)∧Kept af W w'):=fun W v c v2 c2 d V h1 h2=>p9 v v2 (nc+1) nq c c2 _ _ d (Q-1) (by rw [al,am];exact Nat.lt_of_lt_of_le (Nat.lt_trans V ab) (Nat.pow_le_pow_right (by omega) (by omega))) (by rw [al,am (by omega)]) (by omega) (by omega) (by omega) W h1 h2 (aj (by omega) _ _) (aj (by omega) _ _)
 have cu:Hid (∀ d,d%(P-1)≤P):=fun d=>by have:=Nat.mod_lt d (show 0<P-1 by omega);omega
 have ce:Hid (∀ d,d%(Q-1)≤Q):=fun d=>by have:=Nat.mod_lt d (show 0<Q-1 by omega);omega
 have bB:=aa a4;have Y:Hid (m=max (ak P) (ak Q)):=by rw [hm,ay,aJ];rfl
 have bU:=aa hC;have cr:Hid (cl L M P Q e):=⟨⟨E.1,i.1⟩,E.2,i.2,by rw [Nat.gcd_comm];exact hg,q,by rw [Nat.gcd_comm];exact bf⟩
 have ch:Hid (∀ W,Kept af w W→W.heap[bK]? = some (.cells zeroKey 42 (0,0))):=fun W k=>(k.block _ (lt_of_block bx) (fun f=>f)).trans bx
 have b9:Hid (bK<w.heap.size):=lt_of_block bx;have cx:=aa hB;have HA:=aa ha;have cg:=aa bO;have cy:bE≠bK:=fun h=>by
  subst h;rw [cell_of_row w _ 0 _ _ _ bx] at b2;cases b2
 clear bw co bI hg bf hC bm bC bg ab vC bS hm cf cw b5 ha bO hB bx hu hv bn bT hP hQ E i b3 ay aJ aP bq bG bW aY bb aw U bl bc bX vP vQ vN dP dQ dN a4 D q;go_enter Tryz.func47,Tryz.ntmps47;go_wp2_with fail;refine wp_region_held_drew (S:=fun w'=>w'.cell? ⟨bP,0,none⟩=some (.slice ao L cap)∧w'.cell? ⟨bQ,0,none⟩=some (.slice bo M z)) (by kernel_rfl) ⟨b0,b1⟩ (fun hS=>?_);refine aC 0 (some 10) (.slice ao L cap) (y:=.inl ⟨by rfl,fun w h=>by simp [execOp,go_sem,h.1]⟩) (s:=hS) (k:=?_);simp only [Act.put,lsA,lsS,lsZ];refine aC 2 (some 12) (.slice bo M z) (y:=.inl ⟨by rfl,fun w h=>by simp [execOp,go_sem,h.2]⟩) (s:=hS) (k:=?_)
 simp only [Act.put,lsA,lsS,lsZ];refine bJ 1 (some 11) (by kernel_rfl) rfl rfl (by rfl) 48 _ _ [.slice ao L cap] rfl rfl (fun _ _=>by simp [go_sem]) (J1) ?_;rintro e w4 ⟨vp,cp,rfl,bp,_,k4⟩;have aG:w4.cell? ⟨bP,0,none⟩=some (.slice ao L cap)∧w4.cell? ⟨bQ,0,none⟩=some (.slice bo M z):=⟨k4.cellN hS.1,k4.cellN hS.2⟩
 refine .inl ⟨_,rfl,aG,?_⟩;simp only [Act.put,lsA,lsS,lsZ];refine bJ 3 (some 13) (by kernel_rfl) rfl rfl (by rfl) 48 _ _ [.slice bo M z] rfl rfl (fun _ _=>by simp [go_sem]) (J2.out w4 (KD.trans k4)) ?_;rintro e w5 ⟨vq,cq,rfl,bH,_,k5⟩;have aR:w5.cell? ⟨bP,0,none⟩=some (.slice ao L cap)∧w5.cell? ⟨bQ,0,none⟩=some (.slice bo M z):=⟨k5.cellN aG.1,k5.cellN aG.2⟩
 refine .inl ⟨_,rfl,aR,?_⟩;simp only [Act.put,lsA,lsS,lsZ];refine aC 4 (some 4) (.slice vp np cp) (y:=.inl ⟨by rfl,fun w h=>by simp [execOp,go_sem]⟩) (s:=aR) (k:=?_);simp only [Act.put,lsA,lsS,lsZ];refine aC 5 (some 5) (.slice vq nq cq) (y:=.inl ⟨by rfl,fun w h=>by simp [execOp,go_sem]⟩) (s:=aR) (k:=?_);simp only [Act.put,lsA,lsS,lsZ];refine wpAnyH_done (by kernel_rfl) ?_ _;have bd:=aa ((KD.trans k4).trans k5);have aX:=aa (bp.grew k5);have aV:=aa bH;have J5:=av.out w5 vp cp vq cq aX.out aV.out;clear J1 J2 KD k4 k5 bp bH hS aG aR av b0 b1;go_wp2_with fail;refine J5.mono ?_;rintro e6 w6 ⟨vm,cm,rfl,bZ,k6⟩;have J6:=JN.out w6 vm cm bZ;clear J5 bZ JN
 go_wp2_with fail;refine J6.mono ?_;rintro e6 w7 ⟨vn,cn,rfl,a3,bR,k7⟩;have a0:=aa (bd.out.trans (k6.trans k7));have bD:=aa (aX.out.grew (k6.trans k7));have bF:=aa (aV.out.grew (k6.trans k7));have bz:=aa a3;have bv:=aa (bR.after (bd.out.trans k6));have J7:=N.out w7 vn cn a3;have c7:=a0.out.cellN b2;clear J6 a3 bR k6 k7 bd aX aV N;go_wp2_with fail;refine J7.mono ?_;rintro e6 w8 ⟨rfl,k8⟩;have bM:=aa (a0.out.trans k8);have aU:=aa (bD.out.grew k8);have a5:=aa (bF.out.grew k8);have bV:=aa (bz.out.grew k8);clear J7 k8 a0 bD bF bz;go_wp2_with fail;refine (hR _).mono ?_;rintro e6 w9 ⟨rfl,rfl⟩
 have J9:=JI.out w9 vq cq vp cp a5.out aU.out;clear hR JI;go_wp2_with fail;refine J9.mono ?_;rintro e6 a8 ⟨vi,ci,T,rfl,HT,aA,aB⟩;have J:=aa (bM.out.trans aB);have F:=aa (aU.out.grew aB);have I:=aa (a5.out.grew aB);have Z:=aa (bV.out.grew aB);have az:=aa aA;have o:Kept af a8 a8.drew:=(ah af a8).drew;have bL:=J.out.cellN b2;clear J9 aA aB bM aU a5 bV c7;go_wp2_with fail;refine wp_region_held_drew (S:=fun w'=>w'.cell? ⟨bE,0,none⟩=some (.int .u64 (e:Int))) (by kernel_rfl) bL (fun hS=>?_);refine aC 0 (some 26) (.int .u64 (e:Int)) (y:=.inl ⟨by rfl,fun w h=>by simp [execOp,go_sem,h]⟩) (s:=hS) (k:=?_)
 simp only [Act.put,lsA,lsS,lsZ];refine aC 1 (some 27) (.slice vp np cp) (y:=.inl ⟨by rfl,fun w h=>by simp [execOp,go_sem]⟩) (s:=hS) (k:=?_);simp only [Act.put,lsA,lsS,lsZ];refine aC 2 (some 28) (.slice vq nq cq) (y:=.inl ⟨by rfl,fun w h=>by simp [execOp,go_sem]⟩) (s:=hS) (k:=?_);simp only [Act.put,lsA,lsS,lsZ];refine bJ 3 (some 29) (by kernel_rfl) rfl rfl (by rfl) 56 _ _ [.slice vp np cp,.slice vq nq cq] rfl rfl (fun _ _=>by simp [go_sem]) (ax.out _ vp cp vq cq (F.out.grew o) (I.out.grew o)) ?_;rintro e6 b6 ⟨vc,cc,rfl,aD,aL⟩;have l:=aL.cellN hS;refine .inl ⟨_,rfl,l,?_⟩;simp only [Act.put,lsA,lsS,lsZ]
 refine aC 4 (some 30) (.slice vc nc cc) (y:=.inl ⟨by rfl,fun w h=>by simp [execOp,go_sem]⟩) (s:=l) (k:=?_);simp only [Act.put,lsA,lsS,lsZ];refine aC 5 (some 31) (.int .i64 0) (y:=.inl ⟨by rfl,fun w h=>by simp [execOp,go_sem]⟩) (s:=l) (k:=?_);simp only [Act.put,lsA,lsS,lsZ];refine bJ 6 (some 32) (by kernel_rfl) rfl rfl (by rfl) 55 _ _ [.slice vc nc cc,.int .i64 0] rfl rfl (fun _ _=>by simp [go_sem]) (b4 vc nc cc b6) ?_;rintro e6 cP ⟨rfl,aS⟩;subst aS;refine .inl ⟨_,rfl,l,?_⟩;simp only [Act.put,lsA,lsS,lsZ];refine bJ 7 (some 33) (by kernel_rfl) rfl rfl (by rfl) 54 _ _ [.int .u64 (e:Int),.slice vc nc cc] rfl rfl (fun _ _=>by simp [go_sem]) (JX.out _ vc cc aD) ?_
 rintro e6 a2 ⟨vd,cd,d,rfl,HD,ac,aI⟩;have H:=aI.cellN l;refine .inl ⟨_,rfl,H,?_⟩;simp only [Act.put,lsA,lsS,lsZ];refine aC 8 (some 8) (.slice vd (nc+1) cd) (y:=.inl ⟨by rfl,fun w h=>by simp [execOp,go_sem]⟩) (s:=H) (k:=?_);simp only [Act.put,lsA,lsS,lsZ];refine wpAnyH_done (by kernel_rfl) ?_ _;have g:=aa (J.out.trans ((o.trans aL).trans aI));have p:=(o.trans aL).trans aI;have an:=aa (F.out.grew p);have ae:=aa (I.out.grew p);have bk:=aa (Z.out.grew p);have bj:=aa (az.out.grew p);have O:=aa ac;have t:=g.out.cellN b2
 clear J F I Z az o aL aI p aD ac hS l H bL ax JX b4;have bh:Kept af a2 a2.drew:=(ah af a2).drew;go_wp2_with fail;go_region_held3 (fun w'=>w'.cell? ⟨bE,0,none⟩=some (.int .u64 (e:Int)))
  (((try dsimp only);first | (with_reducible assumption) | (with_reducible refine BC ?_ ?_;(with_reducible assumption);(dsimp only;exact cy)) | (go_keep;done)))
  (first
  | (go_at_call 57;refine (FP.out _ vi ci T (Nat.le_of_lt HT.out.1) (bj.out.grew aQ)).mono ?_;rintro e6 cj ⟨bA,bu,rfl,b7,ct,R⟩;have aq:=aQ.trans R;have cF:=aq.cellN t;have b:=ch.out cj (g.out.trans aq);obtain ⟨g0,g1,g2,g3,g4,g5,g6,g7⟩:=aK b;have q0:=aM b 0;have q1:=aM b 1;have q2:=aM b 2;have q3:=aM b 3;have q4:=aM b 4;have q5:=aM b 5;have q6:=aM b 6;have q7:=aM b 7)
  | (go_at_call 57;refine (FQ.out _ z8 y8 _ (ce.out d) s8).mono ?_;rintro e6 cI ⟨z9,y9,rfl,s9,f9,ar⟩;have aQ:=a1.trans ar;have cB:=aQ.cellN t)
  | (go_at_call 58;refine (RQ.out _ vd cd z7 y7 d HD.out.1 (O.out.grew a7) s7).mono ?_;rintro e6 cN ⟨z8,y8,rfl,s8,ad⟩;have a1:=a7.trans ad;have cC:=a1.cellN t)
  | (go_at_call 59;refine (LQ.out _ vq cq (ae.out.grew a9)).mono ?_;rintro e6 cU ⟨z7,y7,rfl,s7,au⟩;have a7:=a9.trans au;have cD:=a7.cellN t)
  | (go_at_call 57;refine (FP.out _ z5 y5 _ (cu.out d) s5).mono ?_;rintro e6 cQ ⟨z6,y6,rfl,s6,f6,aF⟩;have a9:=a6.trans aF;have cR:=a9.cellN t)
  | (go_at_call 58;refine (RP.out _ vd cd z4 y4 d HD.out.1 (O.out.grew aZ) s4).mono ?_;rintro e6 cK ⟨z5,y5,rfl,s5,aH⟩;have a6:=aZ.trans aH;have cT:=a6.cellN t)
  | (go_at_call 59;refine (LP.out _ vp cp (an.out.grew be)).mono ?_;rintro e6 cW ⟨z4,y4,rfl,s4,aE⟩;have aZ:=be.trans aE;have cS:=aZ.cellN t)
  | (go_at_call 57;refine (FQ.out _ vq cq Q (leR _) (ae.out.grew aN)).mono ?_;rintro e6 cG ⟨z3,y3,rfl,s3,f3,ba⟩;have be:=aN.trans ba;have cM:=be.cellN t)
  | (go_at_call 57;refine (FP.out _ vp cp P (leR _) (an.out.grew aO)).mono ?_;rintro e6 cX ⟨z2,y2,rfl,s2,f2,br⟩;have aN:=aO.trans br;have cJ:=aN.cellN t)
  | (go_at_call 57;refine (F1.out _ vd cd d HD.out.1 (O.out.grew bh)).mono ?_;rintro e6 cE ⟨z1,y1,rfl,s1,f1,cA⟩;have aO:=bh.trans cA;have cO:=aO.cellN t))
 go_end0
 have e1:Fresh w (.slice z1 nw y1):=fun x hx=>by have h1:=f1 x hx;have h2:=(g.out.trans bh).size;omega
 have e2:Fresh w (.slice z2 m y2):=f2.after (g.out.trans aO);have e3:Fresh w (.slice z3 m y3):=f3.after (g.out.trans aN);have e6:Fresh w (.slice z6 m y6):=f6.after (g.out.trans a6);have e9:Fresh w (.slice z9 m y9):=f9.after (g.out.trans a1);have bs:Fresh w (.slice bA m bu):=ct.after (g.out.trans aQ);obtain ⟨bt,bY,A⟩:=dI (HA.out.trans (g.out.trans aq)) cg.out b (.slice vn nw cn) (.int .u64 (e:Nat)) (.slice z1 nw y1) (.slice z2 m y2) (.slice z3 m y3) (.slice z6 m y6) (.slice z9 m y9) (.slice bA m bu);unfold cV at bt bY A;have j:∀ v,Fresh w v→∀ x,v.ownBlock=some x→B<x:=fun v h x hx=>by have h1:=h x hx;have h2:=cx.out;omega
 have G:∀ v,Fresh w v→∀ x,v.ownBlock=some x→¬ x=bK:=fun v h x hx cL=>by have h1:=h x hx;have h2:=b9.out;omega
 have cs:=br.trans (ba.trans (aE.trans (aH.trans (aF.trans (au.trans (ad.trans (ar.trans R)))))));have cv:=ba.trans (aE.trans (aH.trans (aF.trans (au.trans (ad.trans (ar.trans R))))));have ck:=aE.trans (aH.trans (aF.trans (au.trans (ad.trans (ar.trans R)))));have b8:=au.trans (ad.trans (ar.trans R));refine .inl ⟨cr.out,rfl,_,bt,⟨_,_,_,_,_,_,_,d,T,rfl,?_,?_,?_,?_,?_,?_,?_,?_,HT.out.1,HT.out.2,?_⟩,qE (j _ bv.out) (j _ e1) (j _ e2) (j _ e3) (j _ e6) (j _ e9) (j _ bs),(g.out.trans aq).any.trans A,bY⟩
 ·rw [bB.out];exact (bk.out.grew aq).kept A (G _ bv.out)
 ·rw [← bU.out];exact HD.out.1
 ·rw [← bU.out];exact HD.out.2
 ·rw [bB.out,ag];exact (s1.grew cs).kept A (G _ e1)
 ·rw [← Y.out];exact (s2.grew cv).kept A (G _ e2)
 ·rw [← Y.out];exact (s3.grew ck).kept A (G _ e3)
 ·rw [← Y.out];exact (s6.grew b8).kept A (G _ e6)
 ·rw [← Y.out];exact (s9.grew R).kept A (G _ e9)
 ·rw [← Y.out];exact b7.kept A (G _ bs)

end Go.Proofs.YtcemlfokmjjiaaaGreatDoor
