/- Put together of: Kex6 Kex7 LimQ. -/
import Derived.Test.YtkaojflnghfmcaaGreatDoorQB29

namespace Go.Proofs.YtkaojflnghfmcaaGreatDoor
set_option maxRecDepth 100000
set_option maxHeartbeats 4000000
open Go.RowKit

def OfEnd (L M P Q e B bK:Nat) (a w:World) (r:Ending) (w':World):Prop:=
 (ej L M P Q e∧r=.returned (.tuple #[])∧∃ kv,w'.heap[bK]? = some (.cells kv 26 (0,0))∧KeyAt w' P Q e kv∧gI B kv∧Kept (fun b=>b=bK) w w'∧Kept ae a w')∨(¬ ej L M P Q e∧r=.panicked [refusal 190]∧Kept ae w w')

theorem OfEnd.no {L M P Q e B bK:Nat} {a w w':World} (h:¬ ej L M P Q e) (k:Kept ae w w'):OfEnd L M P Q e B bK a w (.panicked [refusal 190]) w':=.inr ⟨h,rfl,k⟩

theorem fz {P Q:Nat} (h:0<P*Q):bd P Q=digs (P*Q) (ah (P*Q)):=by
 unfold bd;have:¬ ah (P*Q)≤0:=fun h1=>by
  have:=(aA _ _).1 h1;rw [Nat.pow_zero] at this;omega
 rw [Nat.max_eq_left (by omega)]

theorem KeyAt.kept {S:Nat→Prop} {w w':World} {P Q e:Nat} {kv:Array Value} (h:KeyAt w P Q e kv) (k:Kept S w w') (hs:∀ v ∈ kv.toList,∀ x,v.ownBlock=some x→¬ S x):KeyAt w' P Q e kv:=by
 obtain ⟨vn,vd,vp,vq,a,b,c,d,u,rfl,rn,f,g,rd,rp,rq,l,m,i,j,n⟩:=h;exact ⟨vn,vd,vp,vq,a,b,c,d,u,rfl,rn.kept k (hs vn (by simp)),f,g,rd.kept k (hs vd (by simp)),rp.kept k (hs vp (by simp)),rq.kept k (hs vq (by simp)),l.kept k (hs a (by simp)),m.kept k (hs b (by simp)),i,j,n.kept k (hs c (by simp))⟩

theorem BV {W:World} {a:Addr} {p:Nat} {x0 x1 x2 x3 x4 x5 x6 x7 q:Value} (h:W.cell? a=some q) (b:a.block≠p):((((((((W.setCell ⟨p,0,none⟩ x0).setCell ⟨p,1,none⟩ x1).setCell ⟨p,2,none⟩ x2).setCell ⟨p,3,none⟩ x3).setCell ⟨p,4,none⟩ x4).setCell ⟨p,5,none⟩ x5).setCell ⟨p,6,none⟩ x6).setCell ⟨p,7,none⟩ x7).cell? a=some q:=by
 have h1:∀ (V:World) (j:Nat) (x:Value),V.cell? a=some q→(V.setCell ⟨p,j,none⟩ x).cell? a=some q:=fun V j x hv=>by
  unfold World.cell? at hv ⊢;rw [Below.heap_setCell V ⟨p,j,none⟩ x a.block b];exact hv
 exact h1 _ _ _ (h1 _ _ _ (h1 _ _ _ (h1 _ _ _ (h1 _ _ _ (h1 _ _ _ (h1 _ _ _ (h1 _ _ _ h)))))))

theorem BO (bP bQ bE bK:Nat) (ao bo:Option Addr) (L M b c:Nat) (xs:List Nat) (P Q e B:Nat) (hP:P=val xs) (g:L≤1000) (d:¬ (L≤300∧cE P)) (a w:World) (hu:Row .u64 w (.slice ao L b) xs) (f:Digs xs) (b0:w.cell? ⟨bP,0,none⟩=some (.slice ao L b)) (b1:w.cell? ⟨bQ,0,none⟩=some (.slice bo M c)) :
  Calls Tryz.prog 154 #[.pointer (some ⟨bP,0,none⟩),.pointer (some ⟨bQ,0,none⟩),.pointer (some ⟨bE,0,none⟩),.pointer (some ⟨bK,0,none⟩)] w fun r w'=>OfEnd L M P Q e B bK a w r w':=by
 have hN:¬ ej L M P Q e:=fun h=>d ⟨h.1.1,h.2.1⟩
 have KD:Kept ae w w.drew:=(ag ae w).drew;have J1:=nV ao L b xs P hP (by omega) d w.drew (hu.grew KD) f;clear hu f hP d;go_enter Tryz.func154,Tryz.ntmps154;go_wp2_with fail;refine wp_region_held_drew (S:=fun w'=>w'.cell? ⟨bP,0,none⟩=some (.slice ao L b)∧w'.cell? ⟨bQ,0,none⟩=some (.slice bo M c)) (by kernel_rfl) ⟨b0,b1⟩ (fun hS=>?_);refine al 0 (some 10) (.slice ao L b) hS ?_ (y:=.inl ⟨by rfl,fun w h=>by simp [execOp,go_sem,h.1]⟩);simp only [Act.put,lsA,lsS,lsZ];refine al 2 (some 12) (.slice bo M c) hS ?_ (y:=.inl ⟨by rfl,fun w h=>by simp [execOp,go_sem,h.2]⟩);simp only [Act.put,lsA,lsS,lsZ];refine aH 1 (some 11) 155 [.slice ao L b] (J1) ?_
 rintro e w4 ⟨rfl,k4⟩;exact .inr ⟨_,rfl,rfl,.no hN (KD.trans k4)⟩

theorem BP (bP bQ bE bK:Nat) (ao bo:Option Addr) (L M c b:Nat) (xs ys:List Nat) (P Q e B:Nat) (hP:P=val xs) (hQ:Q=val ys) (l:M≤1000) (i:L≤300∧cE P) (d:¬ (M≤300∧cE Q)) (a w:World) (hu:Row .u64 w (.slice ao L c) xs) (hv:Row .u64 w (.slice bo M b) ys) (f:Digs xs) (g:Digs ys) (b0:w.cell? ⟨bP,0,none⟩=some (.slice ao L c)) (b1:w.cell? ⟨bQ,0,none⟩=some (.slice bo M b)) :
  Calls Tryz.prog 154 #[.pointer (some ⟨bP,0,none⟩),.pointer (some ⟨bQ,0,none⟩),.pointer (some ⟨bE,0,none⟩),.pointer (some ⟨bK,0,none⟩)] w fun r w'=>OfEnd L M P Q e B bK a w r w':=by
 have hN:¬ ej L M P Q e:=fun h=>d ⟨h.1.2,h.2.2.1⟩
 have KD:Kept ae w w.drew:=(ag ae w).drew;have J1:=iR ao L c xs P (ah P) hP rfl i w.drew (hu.grew KD) f;have J2:Hid (∀ W,Kept ae w W→Calls Tryz.prog 155 #[.slice bo M b] W fun e w'=>e=.panicked [refusal 190]∧Kept ae W w'):=fun W k=>nV bo M b ys Q hQ (by omega) d W (hv.grew k) g
 clear hu hv f g hP hQ d i;go_enter Tryz.func154,Tryz.ntmps154;go_wp2_with fail;refine wp_region_held_drew (S:=fun w'=>w'.cell? ⟨bP,0,none⟩=some (.slice ao L c)∧w'.cell? ⟨bQ,0,none⟩=some (.slice bo M b)) (by kernel_rfl) ⟨b0,b1⟩ (fun hS=>?_);refine al 0 (some 10) (.slice ao L c) hS ?_ (y:=.inl ⟨by rfl,fun w h=>by simp [execOp,go_sem,h.1]⟩);simp only [Act.put,lsA,lsS,lsZ];refine al 2 (some 12) (.slice bo M b) hS ?_ (y:=.inl ⟨by rfl,fun w h=>by simp [execOp,go_sem,h.2]⟩);simp only [Act.put,lsA,lsS,lsZ];refine aH 1 (some 11) 155 [.slice ao L c] (J1) ?_;rintro e w4 ⟨vo,vc,rfl,_,_,k4⟩
 have j:w4.cell? ⟨bP,0,none⟩=some (.slice ao L c)∧w4.cell? ⟨bQ,0,none⟩=some (.slice bo M b):=⟨k4.cellN hS.1,k4.cellN hS.2⟩
 refine .inl ⟨_,rfl,j,?_⟩;simp only [Act.put,lsA,lsS,lsZ];refine aH 3 (some 13) 155 [.slice bo M b] (J2.out w4 (KD.trans k4)) ?_;rintro e w5 ⟨rfl,k5⟩;exact .inr ⟨_,rfl,rfl,.no hN ((KD.trans k4).trans k5)⟩

theorem BQ (bP bQ bE bK:Nat) (ao bo:Option Addr) (L M f d:Nat) (xs ys:List Nat) (P Q e B:Nat) (hP:P=val xs) (hQ:Q=val ys) (i:L≤300∧cE P) (b:M≤300∧cE Q) (o:fu (bd P Q) e≠0) (a w:World) (hu:Row .u64 w (.slice ao L f) xs) (hv:Row .u64 w (.slice bo M d) ys) (O:Digs xs) (R:Digs ys) (b0:w.cell? ⟨bP,0,none⟩=some (.slice ao L f)) (b1:w.cell? ⟨bQ,0,none⟩=some (.slice bo M d)) (b2:w.cell? ⟨bE,0,none⟩=some (.int .u64 (e:Int))) :
  Calls Tryz.prog 154 #[.pointer (some ⟨bP,0,none⟩),.pointer (some ⟨bQ,0,none⟩),.pointer (some ⟨bE,0,none⟩),.pointer (some ⟨bK,0,none⟩)] w fun r w'=>OfEnd L M P Q e B bK a w r w':=by
 have J:0<P*Q:=Nat.mul_pos (by have:=i.2.1;omega) (by have:=b.2.1;omega);obtain ⟨np,D⟩:∃ np,np=ah P:=⟨_,rfl⟩
 obtain ⟨nq,F⟩:∃ nq,nq=ah Q:=⟨_,rfl⟩
 obtain ⟨nw,p⟩:∃ nw,nw=ah (P*Q):=⟨_,rfl⟩
 have ab:=i.2.1;have ad:=b.2.1;have ac:=i.2.2.1;have E:np≤128:=by rw [D];exact aV (n:=128) (by have:=i.2.2.2;omega)
 have G:nq≤128:=by rw [F];exact aV (n:=128) (by have:=b.2.2.2;omega)
 have A:P<18446744073709551616^np:=(aA P np).1 (by omega);have C:Q<18446744073709551616^nq:=(aA Q nq).1 (by omega);have z:P*Q<18446744073709551616^(np+nq):=by rw [Nat.pow_add];exact Nat.mul_lt_mul_of_lt_of_lt A C
 have H:nw≤np+nq:=by rw [p];exact (aA _ _).2 z
 have N:P*Q<18446744073709551616^nw:=(aA _ nw).1 (by omega);have vP:val (digs P np)=P:=by rw [au,ar A]
 have vQ:val (digs Q nq)=Q:=by rw [au,ar C]
 have vN:val (digs (P*Q) nw)=P*Q:=by rw [au,ar N]
 have dP:Digs (digs P np):=ai (by omega) _ _;have dQ:Digs (digs Q nq):=ai (by omega) _ _;have dN:Digs (digs (P*Q) nw):=ai (by omega) _ _;have U:bd P Q=digs (P*Q) nw:=by rw [p];exact fz J
 have KD:Kept ae w w.drew:=(ag ae w).drew;have J1:=iR ao L f xs P np hP D i w.drew (hu.grew KD) O;have J2:Hid (∀ W,Kept ae w W→Calls Tryz.prog 155 #[.slice bo M d] W fun e w'=>∃ vo vc,e=.returned (.slice vo nq vc)∧Row .u64 w' (.slice vo nq vc) (digs Q nq)∧Fresh W (.slice vo nq vc)∧Kept ae W w'):=fun W k=>iR bo M d ys Q nq hQ F b W (hv.grew k) R
 have j:Hid (∀ W va ca vb cb,Row .u64 W (.slice va np ca) (digs P np)→Row .u64 W (.slice vb nq cb) (digs Q nq)→Calls Tryz.prog 148 #[.pointer none,.slice va np ca,.slice vb nq cb] W fun e w'=>∃ vo vc,e=.returned (.slice vo (np+nq) vc)∧Row .u64 w' (.slice vo (np+nq) vc) (digs (P*Q) (np+nq))∧Kept ae W w'):=fun W va ca vb cb h1 h2=>by
  refine (tI va vb np nq ca cb _ _ W h1 h2 dP dQ).mono ?_;rintro e w' ⟨v',rfl,hr,k⟩;rw [vP,vQ] at hr;unfold fI at hr;rw [if_pos (by omega)] at hr;obtain ⟨vo,vn,vc,rfl,hl,_,_,_,_⟩:=hr.open;obtain rfl:np+nq=vn:=by rw [← hl.out,af]
  exact ⟨_,_,rfl,hr,k⟩
 have JN:Hid (∀ W v c,Row .u64 W (.slice v (np+nq) c) (digs (P*Q) (np+nq))→Calls Tryz.prog 156 #[.slice v (np+nq) c] W fun e w'=>∃ vo vc,e=.returned (.slice vo nw vc)∧Row .u64 w' (.slice vo nw vc) (digs (P*Q) nw)∧Fresh W (.slice vo nw vc)∧Kept ae W w'):=fun W v c h=>lR v (np+nq) c _ (P*Q) nw (by rw [au,ar z]) p (by omega) W h (ai (by omega) _ _) (by rw [af];omega)
 have g:Hid (∀ W v c,Row .u64 W (.slice v nw c) (digs (P*Q) nw)→Calls Tryz.prog 157 #[.slice v nw c,.int .u64 (e:Nat)] W fun r w'=>r=.returned (.int .i64 ((fu (digs (P*Q) nw) e:Nat):Int))∧Kept ae W w'):=fun W v c h=>xD v nw c _ e W h dN (by omega)
 have hN:¬ ej L M P Q e:=fun h=>o h.2.2.2.2.1
 rw [U] at o;rw [(gq _ _).resolve_left o] at g;have hY:=bu 190;clear hu hv O R hP hQ i b J D F p ab ad ac E G A C z H N vP vQ vN dP dQ dN U o;go_enter Tryz.func154,Tryz.ntmps154;go_wp2_with fail;refine wp_region_held_drew (S:=fun w'=>w'.cell? ⟨bP,0,none⟩=some (.slice ao L f)∧w'.cell? ⟨bQ,0,none⟩=some (.slice bo M d)) (by kernel_rfl) ⟨b0,b1⟩ (fun hS=>?_);refine al 0 (some 10) (.slice ao L f) hS ?_ (y:=.inl ⟨by rfl,fun w h=>by simp [execOp,go_sem,h.1]⟩);simp only [Act.put,lsA,lsS,lsZ];refine al 2 (some 12) (.slice bo M d) hS ?_ (y:=.inl ⟨by rfl,fun w h=>by simp [execOp,go_sem,h.2]⟩);simp only [Act.put,lsA,lsS,lsZ]
 refine aH 1 (some 11) 155 [.slice ao L f] (J1) ?_;rintro e w4 ⟨vp,cp,rfl,X,_,k4⟩;have l:w4.cell? ⟨bP,0,none⟩=some (.slice ao L f)∧w4.cell? ⟨bQ,0,none⟩=some (.slice bo M d):=⟨k4.cellN hS.1,k4.cellN hS.2⟩
 refine .inl ⟨_,rfl,l,?_⟩;simp only [Act.put,lsA,lsS,lsZ];refine aH 3 (some 13) 155 [.slice bo M d] (J2.out w4 (KD.trans k4)) ?_;rintro e w5 ⟨vq,cq,rfl,Y,_,k5⟩;have m:w5.cell? ⟨bP,0,none⟩=some (.slice ao L f)∧w5.cell? ⟨bQ,0,none⟩=some (.slice bo M d):=⟨k5.cellN l.1,k5.cellN l.2⟩
 refine .inl ⟨_,rfl,m,?_⟩;simp only [Act.put,lsA,lsS,lsZ];refine al 4 (some 4) (.slice vp np cp) m ?_;simp only [Act.put,lsA,lsS,lsZ];refine al 5 (some 5) (.slice vq nq cq) m ?_;simp only [Act.put,lsA,lsS,lsZ];refine wpAnyH_done (by kernel_rfl) ?_ _;have q:=aa ((KD.trans k4).trans k5);have t:=aa (X.grew k5);have x:=aa Y;have J5:=j.out w5 vp cp vq cq t.out x.out;clear J1 J2 KD k4 k5 X Y hS l m j b0 b1;go_wp2_with fail;refine J5.mono ?_;rintro e6 w6 ⟨vm,cm,rfl,V,k6⟩;have J6:=JN.out w6 vm cm V;clear J5 V JN;go_wp2_with fail;refine J6.mono ?_;rintro e6 w7 ⟨vn,cn,rfl,I,T,k7⟩;have s:=aa (q.out.trans (k6.trans k7))
 have am:=aa (t.out.grew (k6.trans k7));have an:=aa (x.out.grew (k6.trans k7));have ak:=aa I;have aj:=aa (T.after (q.out.trans k6));have J7:=g.out w7 vn cn I;have c7:=s.out.cellN b2;clear J6 I T k6 k7 q t x g;go_wp2_with fail;refine J7.mono ?_;rintro e6 w8 ⟨rfl,k8⟩;have Z:=aa (s.out.trans k8);clear J7 k8 s;go_wp2_with fail;refine (hY _).mono ?_;rintro e6 w9 ⟨rfl,rfl⟩;exact ⟨rfl,.no hN Z.out⟩

theorem BR (bP bQ bE bK:Nat) (ao bo:Option Addr) (L M g d:Nat) (xs ys:List Nat) (P Q e B:Nat) (hP:P=val xs) (hQ:Q=val ys) (l:L≤300∧cE P) (b:M≤300∧cE Q) (i:fu (bd P Q) e=0) (F:Nat.gcd Q P≠1) (a w:World) (hu:Row .u64 w (.slice ao L g) xs) (hv:Row .u64 w (.slice bo M d) ys) (X:Digs xs) (Y:Digs ys) (b0:w.cell? ⟨bP,0,none⟩=some (.slice ao L g)) (b1:w.cell? ⟨bQ,0,none⟩=some (.slice bo M d)) (b2:w.cell? ⟨bE,0,none⟩=some (.int .u64 (e:Int))) :
  Calls Tryz.prog 154 #[.pointer (some ⟨bP,0,none⟩),.pointer (some ⟨bQ,0,none⟩),.pointer (some ⟨bE,0,none⟩),.pointer (some ⟨bK,0,none⟩)] w fun r w'=>OfEnd L M P Q e B bK a w r w':=by
 have U:0<P*Q:=Nat.mul_pos (by have:=l.2.1;omega) (by have:=b.2.1;omega);obtain ⟨np,q⟩:∃ np,np=ah P:=⟨_,rfl⟩
 obtain ⟨nq,H⟩:∃ nq,nq=ah Q:=⟨_,rfl⟩
 obtain ⟨nw,s⟩:∃ nw,nw=ah (P*Q):=⟨_,rfl⟩
 have ay:=l.2.1;have az:=b.2.1;have ad:=l.2.2.1;have G:np≤128:=by rw [q];exact aV (n:=128) (by have:=l.2.2.2;omega)
 have I:nq≤128:=by rw [H];exact aV (n:=128) (by have:=b.2.2.2;omega)
 have D:P<18446744073709551616^np:=(aA P np).1 (by omega);have E:Q<18446744073709551616^nq:=(aA Q nq).1 (by omega);have C:P*Q<18446744073709551616^(np+nq):=by rw [Nat.pow_add];exact Nat.mul_lt_mul_of_lt_of_lt D E
 have J:nw≤np+nq:=by rw [s];exact (aA _ _).2 C
 have V:P*Q<18446744073709551616^nw:=(aA _ nw).1 (by omega);have vP:val (digs P np)=P:=by rw [au,ar D]
 have vQ:val (digs Q nq)=Q:=by rw [au,ar E]
 have vN:val (digs (P*Q) nw)=P*Q:=by rw [au,ar V]
 have dP:Digs (digs P np):=ai (by omega) _ _;have dQ:Digs (digs Q nq):=ai (by omega) _ _;have dN:Digs (digs (P*Q) nw):=ai (by omega) _ _;have ab:bd P Q=digs (P*Q) nw:=by rw [s];exact fz U
 have KD:Kept ae w w.drew:=(ag ae w).drew;have J1:=iR ao L g xs P np hP q l w.drew (hu.grew KD) X;have J2:Hid (∀ W,Kept ae w W→Calls Tryz.prog 155 #[.slice bo M d] W fun e w'=>∃ vo vc,e=.returned (.slice vo nq vc)∧Row .u64 w' (.slice vo nq vc) (digs Q nq)∧Fresh W (.slice vo nq vc)∧Kept ae W w'):=fun W k=>iR bo M d ys Q nq hQ H b W (hv.grew k) Y
 have m:Hid (∀ W va ca vb cb,Row .u64 W (.slice va np ca) (digs P np)→Row .u64 W (.slice vb nq cb) (digs Q nq)→Calls Tryz.prog 148 #[.pointer none,.slice va np ca,.slice vb nq cb] W fun e w'=>∃ vo vc,e=.returned (.slice vo (np+nq) vc)∧Row .u64 w' (.slice vo (np+nq) vc) (digs (P*Q) (np+nq))∧Kept ae W w'):=fun W va ca vb cb h1 h2=>by
  refine (tI va vb np nq ca cb _ _ W h1 h2 dP dQ).mono ?_;rintro e w' ⟨v',rfl,hr,k⟩;rw [vP,vQ] at hr;unfold fI at hr;rw [if_pos (by omega)] at hr;obtain ⟨vo,vn,vc,rfl,hl,_,_,_,_⟩:=hr.open;obtain rfl:np+nq=vn:=by rw [← hl.out,af]
  exact ⟨_,_,rfl,hr,k⟩
 have JN:Hid (∀ W v c,Row .u64 W (.slice v (np+nq) c) (digs (P*Q) (np+nq))→Calls Tryz.prog 156 #[.slice v (np+nq) c] W fun e w'=>∃ vo vc,e=.returned (.slice vo nw vc)∧Row .u64 w' (.slice vo nw vc) (digs (P*Q) nw)∧Fresh W (.slice vo nw vc)∧Kept ae W w'):=fun W v c h=>lR v (np+nq) c _ (P*Q) nw (by rw [au,ar C]) s (by omega) W h (ai (by omega) _ _) (by rw [af];omega)
 have j:Hid (∀ W v c,Row .u64 W (.slice v nw c) (digs (P*Q) nw)→Calls Tryz.prog 157 #[.slice v nw c,.int .u64 (e:Nat)] W fun r w'=>r=.returned (.int .i64 ((fu (digs (P*Q) nw) e:Nat):Int))∧Kept ae W w'):=fun W v c h=>xD v nw c _ e W h dN (by omega)
 have f:=i;rw [ab] at f;have ac:=(iY dN (by rw [af];omega) e).1 f;rw [vN] at ac;obtain ⟨-,-,av,aw,ax⟩:=ac;rw [f] at j;have hR:=aY 190;have hN:¬ ej L M P Q e:=fun h=>F (by rw [Nat.gcd_comm];exact h.2.2.2.1)
 have JI:Hid (∀ W va ca vb cb,Row .u64 W (.slice va nq ca) (digs Q nq)→Row .u64 W (.slice vb np cb) (digs P np)→Calls Tryz.prog 158 #[.slice va nq ca,.slice vb np cb] W fun e w'=>e=.panicked [refusal 190]∧Kept ae W w'):=fun W va ca vb cb h1 h2=>qu va vb nq np ca cb _ _ Q P vQ.symm vP.symm (by omega) ad q (by omega) (by omega) F W h1 h2 dQ dP
 clear av aw ax F hu hv X Y hP hQ l b U q H s ay az ad G I D E C J V vP vQ vN dP dQ dN ab f i;go_enter Tryz.func154,Tryz.ntmps154;go_wp2_with fail;refine wp_region_held_drew (S:=fun w'=>w'.cell? ⟨bP,0,none⟩=some (.slice ao L g)∧w'.cell? ⟨bQ,0,none⟩=some (.slice bo M d)) (by kernel_rfl) ⟨b0,b1⟩ (fun hS=>?_);refine al 0 (some 10) (.slice ao L g) hS ?_ (y:=.inl ⟨by rfl,fun w h=>by simp [execOp,go_sem,h.1]⟩);simp only [Act.put,lsA,lsS,lsZ];refine al 2 (some 12) (.slice bo M d) hS ?_ (y:=.inl ⟨by rfl,fun w h=>by simp [execOp,go_sem,h.2]⟩);simp only [Act.put,lsA,lsS,lsZ];refine aH 1 (some 11) 155 [.slice ao L g] (J1) ?_
 rintro e w4 ⟨vp,cp,rfl,ak,_,k4⟩;have o:w4.cell? ⟨bP,0,none⟩=some (.slice ao L g)∧w4.cell? ⟨bQ,0,none⟩=some (.slice bo M d):=⟨k4.cellN hS.1,k4.cellN hS.2⟩
 refine .inl ⟨_,rfl,o,?_⟩;simp only [Act.put,lsA,lsS,lsZ];refine aH 3 (some 13) 155 [.slice bo M d] (J2.out w4 (KD.trans k4)) ?_;rintro e w5 ⟨vq,cq,rfl,am,_,k5⟩;have p:w5.cell? ⟨bP,0,none⟩=some (.slice ao L g)∧w5.cell? ⟨bQ,0,none⟩=some (.slice bo M d):=⟨k5.cellN o.1,k5.cellN o.2⟩
 refine .inl ⟨_,rfl,p,?_⟩;simp only [Act.put,lsA,lsS,lsZ];refine al 4 (some 4) (.slice vp np cp) p ?_;simp only [Act.put,lsA,lsS,lsZ];refine al 5 (some 5) (.slice vq nq cq) p ?_;simp only [Act.put,lsA,lsS,lsZ];refine wpAnyH_done (by kernel_rfl) ?_ _;have t:=aa ((KD.trans k4).trans k5);have z:=aa (ak.grew k5);have A:=aa am;have J5:=m.out w5 vp cp vq cq z.out A.out;clear J1 J2 KD k4 k5 ak am hS o p m b0 b1;go_wp2_with fail;refine J5.mono ?_;rintro e6 w6 ⟨vm,cm,rfl,aj,k6⟩;have J6:=JN.out w6 vm cm aj;clear J5 aj JN;go_wp2_with fail;refine J6.mono ?_;rintro e6 w7 ⟨vn,cn,rfl,N,Z,k7⟩;have x:=aa (t.out.trans (k6.trans k7))
 have R:=aa (z.out.grew (k6.trans k7));have T:=aa (A.out.grew (k6.trans k7));have O:=aa N;have aC:=aa (Z.after (t.out.trans k6));have J7:=j.out w7 vn cn N;have c7:=x.out.cellN b2;clear J6 N Z k6 k7 t z A j;go_wp2_with fail;refine J7.mono ?_;rintro e6 w8 ⟨rfl,k8⟩;have an:=aa (x.out.trans k8);have ap:=aa (R.out.grew k8);have aq:=aa (T.out.grew k8);have aD:=aa (O.out.grew k8);clear J7 k8 x R T O;go_wp2_with fail;refine (hR _).mono ?_;rintro e6 w9 ⟨rfl,rfl⟩;have J9:=JI.out w9 vq cq vp cp aq.out ap.out;clear hR JI;go_wp2_with fail;refine J9.mono ?_;rintro e6 aE ⟨rfl,aB⟩;exact ⟨rfl,.no hN (an.out.trans aB)⟩

theorem BS (bP bQ bE bK:Nat) (ao bo:Option Addr) (L M i d:Nat) (xs ys:List Nat) (P Q e B:Nat) (hP:P=val xs) (hQ:Q=val ys) (o:L≤300∧cE P) (b:M≤300∧cE Q) (j:fu (bd P Q) e=0) (hg:Nat.gcd Q P=1) (ab:Nat.gcd (fE P Q) e≠1) (a w:World) (hu:Row .u64 w (.slice ao L i) xs) (hv:Row .u64 w (.slice bo M d) ys) (aF:Digs xs) (aG:Digs ys) (b0:w.cell? ⟨bP,0,none⟩=some (.slice ao L i)) (b1:w.cell? ⟨bQ,0,none⟩=some (.slice bo M d)) (b2:w.cell? ⟨bE,0,none⟩=some (.int .u64 (e:Int))) :
  Calls Tryz.prog 154 #[.pointer (some ⟨bP,0,none⟩),.pointer (some ⟨bQ,0,none⟩),.pointer (some ⟨bE,0,none⟩),.pointer (some ⟨bK,0,none⟩)] w fun r w'=>OfEnd L M P Q e B bK a w r w':=by
 have aD:0<P*Q:=Nat.mul_pos (by have:=o.2.1;omega) (by have:=b.2.1;omega);obtain ⟨np,E⟩:∃ np,np=ah P:=⟨_,rfl⟩
 obtain ⟨nq,ad⟩:∃ nq,nq=ah Q:=⟨_,rfl⟩
 obtain ⟨nw,F⟩:∃ nw,nw=ah (P*Q):=⟨_,rfl⟩
 have aM:=o.2.1;have aP:=b.2.1;have aO:=o.2.2.1;have ac:np≤128:=by rw [E];exact aV (n:=128) (by have:=o.2.2.2;omega)
 have aj:nq≤128:=by rw [ad];exact aV (n:=128) (by have:=b.2.2.2;omega)
 have x:P<18446744073709551616^np:=(aA P np).1 (by omega);have z:Q<18446744073709551616^nq:=(aA Q nq).1 (by omega);have X:P*Q<18446744073709551616^(np+nq):=by rw [Nat.pow_add];exact Nat.mul_lt_mul_of_lt_of_lt x z
 have ak:nw≤np+nq:=by rw [F];exact (aA _ _).2 X
 have aE:P*Q<18446744073709551616^nw:=(aA _ nw).1 (by omega);have vP:val (digs P np)=P:=by rw [au,ar x]
 have vQ:val (digs Q nq)=Q:=by rw [au,ar z]
 have vN:val (digs (P*Q) nw)=P*Q:=by rw [au,ar aE]
 have dP:Digs (digs P np):=ai (by omega) _ _;have dQ:Digs (digs Q nq):=ai (by omega) _ _;have dN:Digs (digs (P*Q) nw):=ai (by omega) _ _;have aL:bd P Q=digs (P*Q) nw:=by rw [F];exact fz aD
 have KD:Kept ae w w.drew:=(ag ae w).drew;have J1:=iR ao L i xs P np hP E o w.drew (hu.grew KD) aF;have J2:Hid (∀ W,Kept ae w W→Calls Tryz.prog 155 #[.slice bo M d] W fun e w'=>∃ vo vc,e=.returned (.slice vo nq vc)∧Row .u64 w' (.slice vo nq vc) (digs Q nq)∧Fresh W (.slice vo nq vc)∧Kept ae W w'):=fun W k=>iR bo M d ys Q nq hQ ad b W (hv.grew k) aG
 have q:Hid (∀ W va ca vb cb,Row .u64 W (.slice va np ca) (digs P np)→Row .u64 W (.slice vb nq cb) (digs Q nq)→Calls Tryz.prog 148 #[.pointer none,.slice va np ca,.slice vb nq cb] W fun e w'=>∃ vo vc,e=.returned (.slice vo (np+nq) vc)∧Row .u64 w' (.slice vo (np+nq) vc) (digs (P*Q) (np+nq))∧Kept ae W w'):=fun W va ca vb cb h1 h2=>by
  refine (tI va vb np nq ca cb _ _ W h1 h2 dP dQ).mono ?_;rintro e w' ⟨v',rfl,hr,k⟩;rw [vP,vQ] at hr;unfold fI at hr;rw [if_pos (by omega)] at hr;obtain ⟨vo,vn,vc,rfl,hl,_,_,_,_⟩:=hr.open;obtain rfl:np+nq=vn:=by rw [← hl.out,af]
  exact ⟨_,_,rfl,hr,k⟩
 have JN:Hid (∀ W v c,Row .u64 W (.slice v (np+nq) c) (digs (P*Q) (np+nq))→Calls Tryz.prog 156 #[.slice v (np+nq) c] W fun e w'=>∃ vo vc,e=.returned (.slice vo nw vc)∧Row .u64 w' (.slice vo nw vc) (digs (P*Q) nw)∧Fresh W (.slice vo nw vc)∧Kept ae W w'):=fun W v c h=>lR v (np+nq) c _ (P*Q) nw (by rw [au,ar X]) F (by omega) W h (ai (by omega) _ _) (by rw [af];omega)
 have l:Hid (∀ W v c,Row .u64 W (.slice v nw c) (digs (P*Q) nw)→Calls Tryz.prog 157 #[.slice v nw c,.int .u64 (e:Nat)] W fun r w'=>r=.returned (.int .i64 ((fu (digs (P*Q) nw) e:Nat):Int))∧Kept ae W w'):=fun W v c h=>xD v nw c _ e W h dN (by omega)
 have g:=j;rw [aL] at g;have aN:=(iY dN (by rw [af];omega) e).1 g;rw [vN] at aN;obtain ⟨-,-,aI,a1,aJ⟩:=aN;rw [g] at l;have hR:=aY 190;have hN:¬ ej L M P Q e:=fun h=>ab (by rw [Nat.gcd_comm];exact h.2.2.2.2.2)
 have JI:Hid (∀ W va ca vb cb,Row .u64 W (.slice va nq ca) (digs Q nq)→Row .u64 W (.slice vb np cb) (digs P np)→Calls Tryz.prog 158 #[.slice va nq ca,.slice vb np cb] W fun e w'=>∃ vo vc T,e=.returned (.slice vo np vc)∧Hid (T<P∧Q*T%P=1)∧Row .u64 w' (.slice vo np vc) (digs T np)∧Kept ae W w'):=fun W va ca vb cb h1 h2=>Ai va vb nq np ca cb _ _ Q P vQ.symm vP.symm (by omega) aO E (by omega) (by omega) hg W h1 h2 dQ dP
 obtain ⟨C,hC⟩:∃ C,C=fE P Q:=⟨_,rfl⟩
 obtain ⟨nc,Y⟩:∃ nc,nc=ah C:=⟨_,rfl⟩
 have aB:C<18446744073709551616^(np+nq):=by rw [hC];exact j1 x z (by omega) (by omega)
 have Z:nc≤np+nq:=by rw [Y];exact (aA _ _).2 aB
 have aC:C<18446744073709551616^nc:=(aA C nc).1 (by omega);have vC:val (digs C nc)=C:=by rw [au,ar aC]
 have aZ:2≤C:=by rw [hC];exact sQ aM aP
 have V:Hid (∀ W va ca vb cb,Row .u64 W (.slice va np ca) (digs P np)→Row .u64 W (.slice vb nq cb) (digs Q nq)→Calls Tryz.prog 161 #[.slice va np ca,.slice vb nq cb] W fun e w'=>∃ vo vc,e=.returned (.tuple #[.slice vo nc vc,.int .i64 0])∧Row .u64 w' (.slice vo nc vc) (digs C nc)∧Kept ae W w'):=fun W va ca vb cb h1 h2=>by
  refine (BM va vb np nq ca cb _ _ P Q 0 _ vP.symm vQ.symm (by omega) (by omega) (.inl ⟨rfl,by omega,by omega⟩) (by rw [if_pos rfl,← hC,← Y]) W h1 h2 dP dQ).mono ?_;rintro e w' ⟨v',rfl,hr,_,k⟩;obtain ⟨vo,vn,vc,rfl,hl,_,_,_,_⟩:=hr.open;obtain rfl:nc=vn:=by rw [← hl.out,af]
  exact ⟨_,_,rfl,hr,k⟩
 have a0:=fun v n c W=>ix v n c W
 have JX:Hid (∀ W v c,Row .u64 W (.slice v nc c) (digs C nc)→Calls Tryz.prog 159 #[.int .u64 (e:Nat),.slice v nc c] W fun r w'=>r=.panicked [refusal 190]∧Kept ae W w'):=fun W v c h=>xA v nc c _ C e vC.symm aI aJ (by omega) (by omega) (by rw [hC];exact ab) W h (ai (by omega) _ _)
 clear aI a1 aJ ab hg hC Y aB Z aC vC aZ hu hv aF aG hP hQ o b aD E ad F aM aP aO ac aj x z X ak aE vP vQ vN dP dQ dN aL g j;go_enter Tryz.func154,Tryz.ntmps154;go_wp2_with fail;refine wp_region_held_drew (S:=fun w'=>w'.cell? ⟨bP,0,none⟩=some (.slice ao L i)∧w'.cell? ⟨bQ,0,none⟩=some (.slice bo M d)) (by kernel_rfl) ⟨b0,b1⟩ (fun hS=>?_);refine al 0 (some 10) (.slice ao L i) hS ?_ (y:=.inl ⟨by rfl,fun w h=>by simp [execOp,go_sem,h.1]⟩);simp only [Act.put,lsA,lsS,lsZ];refine al 2 (some 12) (.slice bo M d) hS ?_ (y:=.inl ⟨by rfl,fun w h=>by simp [execOp,go_sem,h.2]⟩);simp only [Act.put,lsA,lsS,lsZ]
 refine aH 1 (some 11) 155 [.slice ao L i] (J1) ?_;rintro e w4 ⟨vp,cp,rfl,aS,_,k4⟩;have A:w4.cell? ⟨bP,0,none⟩=some (.slice ao L i)∧w4.cell? ⟨bQ,0,none⟩=some (.slice bo M d):=⟨k4.cellN hS.1,k4.cellN hS.2⟩
 refine .inl ⟨_,rfl,A,?_⟩;simp only [Act.put,lsA,lsS,lsZ];refine aH 3 (some 13) 155 [.slice bo M d] (J2.out w4 (KD.trans k4)) ?_;rintro e w5 ⟨vq,cq,rfl,aT,_,k5⟩;have D:w5.cell? ⟨bP,0,none⟩=some (.slice ao L i)∧w5.cell? ⟨bQ,0,none⟩=some (.slice bo M d):=⟨k5.cellN A.1,k5.cellN A.2⟩
 refine .inl ⟨_,rfl,D,?_⟩;simp only [Act.put,lsA,lsS,lsZ];refine al 4 (some 4) (.slice vp np cp) D ?_;simp only [Act.put,lsA,lsS,lsZ];refine al 5 (some 5) (.slice vq nq cq) D ?_;simp only [Act.put,lsA,lsS,lsZ];refine wpAnyH_done (by kernel_rfl) ?_ _;have G:=aa ((KD.trans k4).trans k5);have J:=aa (aS.grew k5);have R:=aa aT;have J5:=q.out w5 vp cp vq cq J.out R.out;clear J1 J2 KD k4 k5 aS aT hS A D q b0 b1;go_wp2_with fail;refine J5.mono ?_;rintro e6 w6 ⟨vm,cm,rfl,aQ,k6⟩;have J6:=JN.out w6 vm cm aQ;clear J5 aQ JN;go_wp2_with fail;refine J6.mono ?_;rintro e6 w7 ⟨vn,cn,rfl,an,aK,k7⟩;have H:=aa (G.out.trans (k6.trans k7))
 have ay:=aa (J.out.grew (k6.trans k7));have az:=aa (R.out.grew (k6.trans k7));have aw:=aa an;have a4:=aa (aK.after (G.out.trans k6));have J7:=l.out w7 vn cn an;have c7:=H.out.cellN b2;clear J6 an aK k6 k7 G J R l;go_wp2_with fail;refine J7.mono ?_;rintro e6 w8 ⟨rfl,k8⟩;have av:=aa (H.out.trans k8);have N:=aa (ay.out.grew k8);have U:=aa (az.out.grew k8);have ax:=aa (aw.out.grew k8);clear J7 k8 H ay az aw;go_wp2_with fail;refine (hR _).mono ?_;rintro e6 w9 ⟨rfl,rfl⟩;have J9:=JI.out w9 vq cq vp cp U.out N.out;clear hR JI;go_wp2_with fail;refine J9.mono ?_;rintro e6 aq ⟨vi,ci,T,rfl,HT,s,t⟩
 have p:=aa (av.out.trans t);have I:=aa (N.out.grew t);have O:=aa (U.out.grew t);have aW:=aa (ax.out.grew t);have aU:=aa s;have m:Kept ae aq aq.drew:=(ag ae aq).drew;have aX:=p.out.cellN b2;clear J9 s t av N U ax c7;go_wp2_with fail;refine wp_region_held_drew (S:=fun w'=>w'.cell? ⟨bE,0,none⟩=some (.int .u64 (e:Int))) (by kernel_rfl) aX (fun hS=>?_);refine al 0 (some 26) (.int .u64 (e:Int)) hS ?_ (y:=.inl ⟨by rfl,fun w h=>by simp [execOp,go_sem,h]⟩);simp only [Act.put,lsA,lsS,lsZ];refine al 1 (some 27) (.slice vp np cp) hS ?_;simp only [Act.put,lsA,lsS,lsZ];refine al 2 (some 28) (.slice vq nq cq) hS ?_
 simp only [Act.put,lsA,lsS,lsZ];refine aH 3 (some 29) 161 [.slice vp np cp,.slice vq nq cq] (V.out _ vp cp vq cq (I.out.grew m) (O.out.grew m)) ?_;rintro e6 a3 ⟨vc,cc,rfl,am,aR⟩;have f:=aR.cellN hS;refine .inl ⟨_,rfl,f,?_⟩;simp only [Act.put,lsA,lsS,lsZ];refine al 4 (some 30) (.slice vc nc cc) f ?_;simp only [Act.put,lsA,lsS,lsZ];refine al 5 (some 31) (.int .i64 0) f ?_;simp only [Act.put,lsA,lsS,lsZ];refine aH 6 (some 32) 160 [.slice vc nc cc,.int .i64 0] (a0 vc nc cc a3) ?_;rintro e6 a5 ⟨rfl,ap⟩;subst ap;refine .inl ⟨_,rfl,f,?_⟩;simp only [Act.put,lsA,lsS,lsZ]
 refine aH 7 (some 33) 159 [.int .u64 (e:Int),.slice vc nc cc] (JX.out _ vc cc am) ?_;rintro e6 a6 ⟨rfl,a2⟩;exact .inr ⟨_,rfl,rfl,.no hN ((p.out.trans (m.trans aR)).trans a2)⟩

theorem BT (bP bQ bE bK:Nat) (ao bo:Option Addr) (L M D t:Nat) (xs ys:List Nat) (P Q e B:Nat) (hP:P=val xs) (hQ:Q=val ys) (E:L≤300∧cE P) (j:M≤300∧cE Q) (p:fu (bd P Q) e=0) (hg:Nat.gcd Q P=1) (ba:Nat.gcd (fE P Q) e=1) (a w:World) (hu:Row .u64 w (.slice ao L D) xs) (hv:Row .u64 w (.slice bo M t) ys) (bH:Digs xs) (bI:Digs ys) (b0:w.cell? ⟨bP,0,none⟩=some (.slice ao L D)) (b1:w.cell? ⟨bQ,0,none⟩=some (.slice bo M t)) (b2:w.cell? ⟨bE,0,none⟩=some (.int .u64 (e:Int))) (ha:Kept ae a w) (bG:a.heap.size≤bK) (hB:w.heap.size=B+1) (bx:w.heap[bK]? = some (.cells zeroKey 26 (0,0))) :
  Calls Tryz.prog 154 #[.pointer (some ⟨bP,0,none⟩),.pointer (some ⟨bQ,0,none⟩),.pointer (some ⟨bE,0,none⟩),.pointer (some ⟨bK,0,none⟩)] w fun r w'=>OfEnd L M P Q e B bK a w r w':=by
 have bC:0<P*Q:=Nat.mul_pos (by have:=E.2.1;omega) (by have:=j.2.1;omega);obtain ⟨np,aq⟩:∃ np,np=ah P:=⟨_,rfl⟩
 obtain ⟨nq,aK⟩:∃ nq,nq=ah Q:=⟨_,rfl⟩
 obtain ⟨nw,aL⟩:∃ nw,nw=ah (P*Q):=⟨_,rfl⟩
 have bN:=E.2.1;have bS:=j.2.1;have bR:=E.2.2.1;have bf:np≤128:=by rw [aq];exact aV (n:=128) (by have:=E.2.2.2;omega)
 have bg:nq≤128:=by rw [aK];exact aV (n:=128) (by have:=j.2.2.2;omega)
 have am:P<18446744073709551616^np:=(aA P np).1 (by omega);have an:Q<18446744073709551616^nq:=(aA Q nq).1 (by omega);have a9:P*Q<18446744073709551616^(np+nq):=by rw [Nat.pow_add];exact Nat.mul_lt_mul_of_lt_of_lt am an
 have bh:nw≤np+nq:=by rw [aL];exact (aA _ _).2 a9
 have bD:P*Q<18446744073709551616^nw:=(aA _ nw).1 (by omega);have vP:val (digs P np)=P:=by rw [au,ar am]
 have vQ:val (digs Q nq)=Q:=by rw [au,ar an]
 have vN:val (digs (P*Q) nw)=P*Q:=by rw [au,ar bD]
 have dP:Digs (digs P np):=ai (by omega) _ _;have dQ:Digs (digs Q nq):=ai (by omega) _ _;have dN:Digs (digs (P*Q) nw):=ai (by omega) _ _;have bb:bd P Q=digs (P*Q) nw:=by rw [aL];exact fz bC
 have KD:Kept ae w w.drew:=(ag ae w).drew;have J1:=iR ao L D xs P np hP aq E w.drew (hu.grew KD) bH;have J2:Hid (∀ W,Kept ae w W→Calls Tryz.prog 155 #[.slice bo M t] W fun e w'=>∃ vo vc,e=.returned (.slice vo nq vc)∧Row .u64 w' (.slice vo nq vc) (digs Q nq)∧Fresh W (.slice vo nq vc)∧Kept ae W w'):=fun W k=>iR bo M t ys Q nq hQ aK j W (hv.grew k) bI
 have ad:Hid (∀ W va ca vb cb,Row .u64 W (.slice va np ca) (digs P np)→Row .u64 W (.slice vb nq cb) (digs Q nq)→Calls Tryz.prog 148 #[.pointer none,.slice va np ca,.slice vb nq cb] W fun e w'=>∃ vo vc,e=.returned (.slice vo (np+nq) vc)∧Row .u64 w' (.slice vo (np+nq) vc) (digs (P*Q) (np+nq))∧Kept ae W w'):=fun W va ca vb cb h1 h2=>by
  refine (tI va vb np nq ca cb _ _ W h1 h2 dP dQ).mono ?_;rintro e w' ⟨v',rfl,hr,k⟩;rw [vP,vQ] at hr;unfold fI at hr;rw [if_pos (by omega)] at hr;obtain ⟨vo,vn,vc,rfl,hl,_,_,_,_⟩:=hr.open;obtain rfl:np+nq=vn:=by rw [← hl.out,af]
  exact ⟨_,_,rfl,hr,k⟩
 have JN:Hid (∀ W v c,Row .u64 W (.slice v (np+nq) c) (digs (P*Q) (np+nq))→Calls Tryz.prog 156 #[.slice v (np+nq) c] W fun e w'=>∃ vo vc,e=.returned (.slice vo nw vc)∧Row .u64 w' (.slice vo nw vc) (digs (P*Q) nw)∧Fresh W (.slice vo nw vc)∧Kept ae W w'):=fun W v c h=>lR v (np+nq) c _ (P*Q) nw (by rw [au,ar a9]) aL (by omega) W h (ai (by omega) _ _) (by rw [af];omega)
 have J:Hid (∀ W v c,Row .u64 W (.slice v nw c) (digs (P*Q) nw)→Calls Tryz.prog 157 #[.slice v nw c,.int .u64 (e:Nat)] W fun r w'=>r=.returned (.int .i64 ((fu (digs (P*Q) nw) e:Nat):Int))∧Kept ae W w'):=fun W v c h=>xD v nw c _ e W h dN (by omega)
 have z:=p;rw [bb] at z;have bO:=(iY dN (by rw [af];omega) e).1 z;rw [vN] at bO;obtain ⟨-,-,bJ,cs,bL⟩:=bO;rw [z] at J;have hR:=aY 190;have JI:Hid (∀ W va ca vb cb,Row .u64 W (.slice va nq ca) (digs Q nq)→Row .u64 W (.slice vb np cb) (digs P np)→Calls Tryz.prog 158 #[.slice va nq ca,.slice vb np cb] W fun e w'=>∃ vo vc T,e=.returned (.slice vo np vc)∧Hid (T<P∧Q*T%P=1)∧Row .u64 w' (.slice vo np vc) (digs T np)∧Kept ae W w'):=fun W va ca vb cb h1 h2=>Ai va vb nq np ca cb _ _ Q P vQ.symm vP.symm (by omega) bR aq (by omega) (by omega) hg W h1 h2 dQ dP
 obtain ⟨C,hC⟩:∃ C,C=fE P Q:=⟨_,rfl⟩
 obtain ⟨nc,bc⟩:∃ nc,nc=ah C:=⟨_,rfl⟩
 have bB:C<18446744073709551616^(np+nq):=by rw [hC];exact j1 am an (by omega) (by omega)
 have be:nc≤np+nq:=by rw [bc];exact (aA _ _).2 bB
 have ak:C<18446744073709551616^nc:=(aA C nc).1 (by omega);have vC:val (digs C nc)=C:=by rw [au,ar ak]
 have bA:2≤C:=by rw [hC];exact sQ bN bS
 have ac:Hid (∀ W va ca vb cb,Row .u64 W (.slice va np ca) (digs P np)→Row .u64 W (.slice vb nq cb) (digs Q nq)→Calls Tryz.prog 161 #[.slice va np ca,.slice vb nq cb] W fun e w'=>∃ vo vc,e=.returned (.tuple #[.slice vo nc vc,.int .i64 0])∧Row .u64 w' (.slice vo nc vc) (digs C nc)∧Kept ae W w'):=fun W va ca vb cb h1 h2=>by
  refine (BM va vb np nq ca cb _ _ P Q 0 _ vP.symm vQ.symm (by omega) (by omega) (.inl ⟨rfl,by omega,by omega⟩) (by rw [if_pos rfl,← hC,← bc]) W h1 h2 dP dQ).mono ?_;rintro e w' ⟨v',rfl,hr,_,k⟩;obtain ⟨vo,vn,vc,rfl,hl,_,_,_,_⟩:=hr.open;obtain rfl:nc=vn:=by rw [← hl.out,af]
  exact ⟨_,_,rfl,hr,k⟩
 have bF:=fun v n c W=>ix v n c W
 have JX:Hid (∀ W v c,Row .u64 W (.slice v nc c) (digs C nc)→Calls Tryz.prog 159 #[.int .u64 (e:Nat),.slice v nc c] W fun r w'=>∃ vo vc d,r=.returned (.slice vo (nc+1) vc)∧Hid (d<C∧e*d%C=1)∧Row .u64 w' (.slice vo (nc+1) vc) (digs d (nc+1))∧Kept ae W w'):=fun W v c h=>Dl v nc c _ C e vC.symm bA bJ bL (by omega) (by omega) (by rw [hC];exact ba) W h (ai (by omega) _ _)
 obtain ⟨m,hm⟩:∃ m,m=max np nq:=⟨_,rfl⟩
 have ct:max (np:Int) (nq:Int)=(m:Int):=by omega
 have cl:C<P*Q:=by
  have h1:C≤(P-1)*(Q-1):=by
   rw [hC,fE];exact Nat.mul_le_mul_right _ (Nat.div_le_self _ _)
  have h2:(P-1)*(Q-1)≤(P-1)*Q:=Nat.mul_le_mul_left _ (by omega);have h3:(P-1)*Q<P*Q:=Nat.mul_lt_mul_of_pos_right (by omega) (by omega);omega
 have co:P<18446744073709551616^m:=Nat.lt_of_lt_of_le am (Nat.pow_le_pow_right (by omega) (by omega));have cr:Q<18446744073709551616^m:=Nat.lt_of_lt_of_le an (Nat.pow_le_pow_right (by omega) (by omega));have F1:Hid (∀ W v c d,d<C→Row .u64 W (.slice v (nc+1) c) (digs d (nc+1))→Calls Tryz.prog 162 #[.slice v (nc+1) c,.int .i64 (nw:Nat)] W fun e w'=>∃ vo vc,e=.returned (.slice vo nw vc)∧Row .u64 w' (.slice vo nw vc) (digs d nw)∧Fresh W (.slice vo nw vc)∧Kept ae W w'):=fun W v c d ap h=>xB v (nc+1) c _ d nw (by rw [au,ar];exact Nat.lt_of_lt_of_le (Nat.lt_trans ap ak) (Nat.pow_le_pow_right (by omega) (by omega))) (by omega) (by omega) W h (ai (by omega) _ _)
 have FP:Hid (∀ W v c X,X≤P→Row .u64 W (.slice v np c) (digs X np)→Calls Tryz.prog 162 #[.slice v np c,.int .i64 (m:Nat)] W fun e w'=>∃ vo vc,e=.returned (.slice vo m vc)∧Row .u64 w' (.slice vo m vc) (digs X m)∧Fresh W (.slice vo m vc)∧Kept ae W w'):=fun W v c X hX h=>xB v np c _ X m (by rw [au,ar (by omega)]) (by omega) (by omega) W h (ai (by omega) _ _)
 have FQ:Hid (∀ W v c X,X≤Q→Row .u64 W (.slice v nq c) (digs X nq)→Calls Tryz.prog 162 #[.slice v nq c,.int .i64 (m:Nat)] W fun e w'=>∃ vo vc,e=.returned (.slice vo m vc)∧Row .u64 w' (.slice vo m vc) (digs X m)∧Fresh W (.slice vo m vc)∧Kept ae W w'):=fun W v c X hX h=>xB v nq c _ X m (by rw [au,ar (by omega)]) (by omega) (by omega) W h (ai (by omega) _ _)
 have LP:Hid (∀ W v c,Row .u64 W (.slice v np c) (digs P np)→Calls Tryz.prog 164 #[.slice v np c] W fun e w'=>∃ vo vc,e=.returned (.slice vo np vc)∧Row .u64 w' (.slice vo np vc) (digs (P-1) np)∧Kept ae W w'):=fun W v c h=>qw v np c _ P vP.symm (by omega) (af _ _ _) (by omega) W h dP
 have LQ:Hid (∀ W v c,Row .u64 W (.slice v nq c) (digs Q nq)→Calls Tryz.prog 164 #[.slice v nq c] W fun e w'=>∃ vo vc,e=.returned (.slice vo nq vc)∧Row .u64 w' (.slice vo nq vc) (digs (Q-1) nq)∧Kept ae W w'):=fun W v c h=>qw v nq c _ Q vQ.symm (by omega) (af _ _ _) (by omega) W h dQ
 have RP:Hid (∀ W v c v2 c2 d,d<C→Row .u64 W (.slice v (nc+1) c) (digs d (nc+1))→Row .u64 W (.slice v2 np c2) (digs (P-1) np)→Calls Tryz.prog 163 #[.slice v (nc+1) c,.slice v2 np c2] W fun e w'=>∃ vo vc,e=.returned (.slice vo np vc)∧Row .u64 w' (.slice vo np vc) (digs (d%(P-1)) np)∧Kept ae W w'):=fun W v c v2 c2 d ap h1 h2=>qx v v2 (nc+1) np c c2 _ _ d (P-1) (by rw [au,ar];exact Nat.lt_of_lt_of_le (Nat.lt_trans ap ak) (Nat.pow_le_pow_right (by omega) (by omega))) (by rw [au,ar (by omega)]) (by omega) (by omega) (by omega) W h1 h2 (ai (by omega) _ _) (ai (by omega) _ _)
 have RQ:Hid (∀ W v c v2 c2 d,d<C→Row .u64 W (.slice v (nc+1) c) (digs d (nc+1))→Row .u64 W (.slice v2 nq c2) (digs (Q-1) nq)→Calls Tryz.prog 163 #[.slice v (nc+1) c,.slice v2 nq c2] W fun e w'=>∃ vo vc,e=.returned (.slice vo nq vc)∧Row .u64 w' (.slice vo nq vc) (digs (d%(Q-1)) nq)∧Kept ae W w'):=fun W v c v2 c2 d ap h1 h2=>qx v v2 (nc+1) nq c c2 _ _ d (Q-1) (by rw [au,ar];exact Nat.lt_of_lt_of_le (Nat.lt_trans ap ak) (Nat.pow_le_pow_right (by omega) (by omega))) (by rw [au,ar (by omega)]) (by omega) (by omega) (by omega) W h1 h2 (ai (by omega) _ _) (ai (by omega) _ _)
 have b8:Hid (∀ d,d%(P-1)≤P):=fun d=>by have:=Nat.mod_lt d (show 0<P-1 by omega);omega
 have b9:Hid (∀ d,d%(Q-1)≤Q):=fun d=>by have:=Nat.mod_lt d (show 0<Q-1 by omega);omega
 have br:=aa bb;have V:Hid (m=max (ah P) (ah Q)):=by rw [hm,aq,aK];rfl
 have bn:=aa hC;have ce:Hid (ej L M P Q e):=⟨⟨E.1,j.1⟩,E.2,j.2,by rw [Nat.gcd_comm];exact hg,p,by rw [Nat.gcd_comm];exact ba⟩
 have b5:Hid (∀ W,Kept ae w W→W.heap[bK]? = some (.cells zeroKey 26 (0,0))):=fun W k=>(k.block _ (lt_of_block bx) (fun f=>f)).trans bx
 have b6:Hid (bK<w.heap.size):=lt_of_block bx;have b7:=aa hB;have HA:=aa ha;have b4:=aa bG;have cu:bE≠bK:=fun h=>by
  subst h;rw [cell_of_row w _ 0 _ _ _ bx] at b2;cases b2
 clear bJ cs bL hg ba hC bc bB be ak vC bA hm cl co cr ha bG hB bx hu hv bH bI hP hQ E j bC aq aK aL bN bS bR bf bg am an a9 bh bD vP vQ vN dP dQ dN bb z p;go_enter Tryz.func154,Tryz.ntmps154;go_wp2_with fail;refine wp_region_held_drew (S:=fun w'=>w'.cell? ⟨bP,0,none⟩=some (.slice ao L D)∧w'.cell? ⟨bQ,0,none⟩=some (.slice bo M t)) (by kernel_rfl) ⟨b0,b1⟩ (fun hS=>?_);refine al 0 (some 10) (.slice ao L D) hS ?_ (y:=.inl ⟨by rfl,fun w h=>by simp [execOp,go_sem,h.1]⟩);simp only [Act.put,lsA,lsS,lsZ];refine al 2 (some 12) (.slice bo M t) hS ?_ (y:=.inl ⟨by rfl,fun w h=>by simp [execOp,go_sem,h.2]⟩);simp only [Act.put,lsA,lsS,lsZ]
 refine aH 1 (some 11) 155 [.slice ao L D] (J1) ?_;rintro e w4 ⟨vp,cp,rfl,bV,_,k4⟩;have aG:w4.cell? ⟨bP,0,none⟩=some (.slice ao L D)∧w4.cell? ⟨bQ,0,none⟩=some (.slice bo M t):=⟨k4.cellN hS.1,k4.cellN hS.2⟩
 refine .inl ⟨_,rfl,aG,?_⟩;simp only [Act.put,lsA,lsS,lsZ];refine aH 3 (some 13) 155 [.slice bo M t] (J2.out w4 (KD.trans k4)) ?_;rintro e w5 ⟨vq,cq,rfl,bW,_,k5⟩;have aI:w5.cell? ⟨bP,0,none⟩=some (.slice ao L D)∧w5.cell? ⟨bQ,0,none⟩=some (.slice bo M t):=⟨k5.cellN aG.1,k5.cellN aG.2⟩
 refine .inl ⟨_,rfl,aI,?_⟩;simp only [Act.put,lsA,lsS,lsZ];refine al 4 (some 4) (.slice vp np cp) aI ?_;simp only [Act.put,lsA,lsS,lsZ];refine al 5 (some 5) (.slice vq nq cq) aI ?_;simp only [Act.put,lsA,lsS,lsZ];refine wpAnyH_done (by kernel_rfl) ?_ _;have aS:=aa ((KD.trans k4).trans k5);have aW:=aa (bV.grew k5);have aZ:=aa bW;have J5:=ad.out w5 vp cp vq cq aW.out aZ.out;clear J1 J2 KD k4 k5 bV bW hS aG aI ad b0 b1;go_wp2_with fail;refine J5.mono ?_;rintro e6 w6 ⟨vm,cm,rfl,bT,k6⟩;have J6:=JN.out w6 vm cm bT;clear J5 bT JN;go_wp2_with fail;refine J6.mono ?_;rintro e6 w7 ⟨vn,cn,rfl,bi,bM,k7⟩;have aT:=aa (aS.out.trans (k6.trans k7))
 have bu:=aa (aW.out.grew (k6.trans k7));have bv:=aa (aZ.out.grew (k6.trans k7));have bs:=aa bi;have bp:=aa (bM.after (aS.out.trans k6));have J7:=J.out w7 vn cn bi;have c7:=aT.out.cellN b2;clear J6 bi bM k6 k7 aS aW aZ J;go_wp2_with fail;refine J7.mono ?_;rintro e6 w8 ⟨rfl,k8⟩;have bq:=aa (aT.out.trans k8);have aX:=aa (bu.out.grew k8);have a0:=aa (bv.out.grew k8);have bt:=aa (bs.out.grew k8);clear J7 k8 aT bu bv bs;go_wp2_with fail;refine (hR _).mono ?_;rintro e6 w9 ⟨rfl,rfl⟩;have J9:=JI.out w9 vq cq vp cp a0.out aX.out;clear hR JI;go_wp2_with fail;refine J9.mono ?_;rintro e6 bl ⟨vi,ci,T,rfl,HT,av,ay⟩
 have G:=aa (bq.out.trans ay);have H:=aa (aX.out.grew ay);have I:=aa (a0.out.grew ay);have Y:=aa (bt.out.grew ay);have U:=aa av;have o:Kept ae bl bl.drew:=(ag ae bl).drew;have bw:=G.out.cellN b2;clear J9 av ay bq aX a0 bt c7;go_wp2_with fail;refine wp_region_held_drew (S:=fun w'=>w'.cell? ⟨bE,0,none⟩=some (.int .u64 (e:Int))) (by kernel_rfl) bw (fun hS=>?_);refine al 0 (some 26) (.int .u64 (e:Int)) hS ?_ (y:=.inl ⟨by rfl,fun w h=>by simp [execOp,go_sem,h]⟩);simp only [Act.put,lsA,lsS,lsZ];refine al 1 (some 27) (.slice vp np cp) hS ?_;simp only [Act.put,lsA,lsS,lsZ];refine al 2 (some 28) (.slice vq nq cq) hS ?_
 simp only [Act.put,lsA,lsS,lsZ];refine aH 3 (some 29) 161 [.slice vp np cp,.slice vq nq cq] (ac.out _ vp cp vq cq (H.out.grew o) (I.out.grew o)) ?_;rintro e6 cx ⟨vc,cc,rfl,aw,aM⟩;have l:=aM.cellN hS;refine .inl ⟨_,rfl,l,?_⟩;simp only [Act.put,lsA,lsS,lsZ];refine al 4 (some 30) (.slice vc nc cc) l ?_;simp only [Act.put,lsA,lsS,lsZ];refine al 5 (some 31) (.int .i64 0) l ?_;simp only [Act.put,lsA,lsS,lsZ];refine aH 6 (some 32) 160 [.slice vc nc cc,.int .i64 0] (bF vc nc cc cx) ?_;rintro e6 cL ⟨rfl,bj⟩;subst bj;refine .inl ⟨_,rfl,l,?_⟩;simp only [Act.put,lsA,lsS,lsZ]
 refine aH 7 (some 33) 159 [.int .u64 (e:Int),.slice vc nc cc] (JX.out _ vc cc aw) ?_;rintro e6 bm ⟨vd,cd,d,rfl,HD,ax,aN⟩;have N:=aN.cellN l;refine .inl ⟨_,rfl,N,?_⟩;simp only [Act.put,lsA,lsS,lsZ];refine al 8 (some 8) (.slice vd (nc+1) cd) N ?_;simp only [Act.put,lsA,lsS,lsZ];refine wpAnyH_done (by kernel_rfl) ?_ _;have b:=aa (G.out.trans ((o.trans aM).trans aN));have q:=(o.trans aM).trans aN;have Z:=aa (H.out.grew q);have ab:=aa (I.out.grew q);have aU:=aa (Y.out.grew q);have aR:=aa (U.out.grew q);have F:=aa ax;have s:=b.out.cellN b2
 clear G H I Y U o aM aN q aw ax hS l N bw ac JX bF;have a1:Kept ae bm bm.drew:=(ag ae bm).drew;go_wp2_with fail;go_region_held3 (fun w'=>w'.cell? ⟨bE,0,none⟩=some (.int .u64 (e:Int)))
  (((try dsimp only);first | (with_reducible assumption) | (with_reducible refine BV ?_ ?_;(with_reducible assumption);(dsimp only;exact cu)) | (go_keep;done)))
  (first
  | (go_at_call 162;refine (FP.out _ vi ci T (Nat.le_of_lt HT.out.1) (aR.out.grew aF)).mono ?_;rintro e6 cy ⟨bZ,bX,rfl,cw,ck,R⟩;have aj:=aF.trans R;have cJ:=aj.cellN s;have g:=b5.out cy (b.out.trans aj);obtain ⟨g0,g1,g2,g3,g4,g5,g6,g7⟩:=aJ g;have q0:=a8 g 0;have q1:=a8 g 1;have q2:=a8 g 2;have q3:=a8 g 3;have q4:=a8 g 4;have q5:=a8 g 5;have q6:=a8 g 6;have q7:=a8 g 7)
  | (go_at_call 162;refine (FQ.out _ z8 y8 _ (b9.out d) s8).mono ?_;rintro e6 cU ⟨z9,y9,rfl,s9,f9,aC⟩;have aF:=a7.trans aC;have cI:=aF.cellN s)
  | (go_at_call 163;refine (RQ.out _ vd cd z7 y7 d HD.out.1 (F.out.grew a6) s7).mono ?_;rintro e6 cT ⟨z8,y8,rfl,s8,aB⟩;have a7:=a6.trans aB;have cH:=a7.cellN s)
  | (go_at_call 164;refine (LQ.out _ vq cq (ab.out.grew a5)).mono ?_;rintro e6 cS ⟨z7,y7,rfl,s7,az⟩;have a6:=a5.trans az;have cG:=a6.cellN s)
  | (go_at_call 162;refine (FP.out _ z5 y5 _ (b8.out d) s5).mono ?_;rintro e6 cR ⟨z6,y6,rfl,s6,f6,aQ⟩;have a5:=a4.trans aQ;have cF:=a5.cellN s)
  | (go_at_call 163;refine (RP.out _ vd cd z4 y4 d HD.out.1 (F.out.grew a3) s4).mono ?_;rintro e6 cQ ⟨z5,y5,rfl,s5,aP⟩;have a4:=a3.trans aP;have cD:=a4.cellN s)
  | (go_at_call 164;refine (LP.out _ vp cp (Z.out.grew a2)).mono ?_;rintro e6 cP ⟨z4,y4,rfl,s4,aO⟩;have a3:=a2.trans aO;have cC:=a3.cellN s)
  | (go_at_call 162;refine (FQ.out _ vq cq Q (leR _) (ab.out.grew aE)).mono ?_;rintro e6 cO ⟨z3,y3,rfl,s3,f3,bk⟩;have a2:=aE.trans bk;have cB:=a2.cellN s)
  | (go_at_call 162;refine (FP.out _ vp cp P (leR _) (Z.out.grew aD)).mono ?_;rintro e6 cN ⟨z2,y2,rfl,s2,f2,bU⟩;have aE:=aD.trans bU;have cA:=aE.cellN s)
  | (go_at_call 162;refine (F1.out _ vd cd d HD.out.1 (F.out.grew a1)).mono ?_;rintro e6 cM ⟨z1,y1,rfl,s1,f1,cv⟩;have aD:=a1.trans cv;have cz:=aD.cellN s))
 go_end0
 have e1:Fresh w (.slice z1 nw y1):=fun x hx=>by have h1:=f1 x hx;have h2:=(b.out.trans a1).size;omega
 have e2:Fresh w (.slice z2 m y2):=f2.after (b.out.trans aD);have e3:Fresh w (.slice z3 m y3):=f3.after (b.out.trans aE);have e6:Fresh w (.slice z6 m y6):=f6.after (b.out.trans a4);have e9:Fresh w (.slice z9 m y9):=f9.after (b.out.trans a7);have bz:Fresh w (.slice bZ m bX):=ck.after (b.out.trans aF);obtain ⟨bY,b3,A⟩:=jT (HA.out.trans (b.out.trans aj)) b4.out g (.slice vn nw cn) (.int .u64 (e:Nat)) (.slice z1 nw y1) (.slice z2 m y2) (.slice z3 m y3) (.slice z6 m y6) (.slice z9 m y9) (.slice bZ m bX);unfold jF at bY b3 A;have i:∀ v,Fresh w v→∀ x,v.ownBlock=some x→B<x:=fun v h x hx=>by have h1:=h x hx;have h2:=b7.out;omega
 have O:∀ v,Fresh w v→∀ x,v.ownBlock=some x→¬ x=bK:=fun v h x hx cK=>by have h1:=h x hx;have h2:=b6.out;omega
 have cf:=bU.trans (bk.trans (aO.trans (aP.trans (aQ.trans (az.trans (aB.trans (aC.trans R)))))));have cg:=bk.trans (aO.trans (aP.trans (aQ.trans (az.trans (aB.trans (aC.trans R))))));have ch:=aO.trans (aP.trans (aQ.trans (az.trans (aB.trans (aC.trans R)))));have cj:=az.trans (aB.trans (aC.trans R));refine .inl ⟨ce.out,rfl,_,bY,⟨_,_,_,_,_,_,_,d,T,rfl,?_,?_,?_,?_,?_,?_,?_,?_,HT.out.1,HT.out.2,?_⟩,xG (i _ bp.out) (i _ e1) (i _ e2) (i _ e3) (i _ e6) (i _ e9) (i _ bz),(b.out.trans aj).any.trans A,b3⟩
 ·rw [br.out];exact (aU.out.grew aj).kept A (O _ bp.out)
 ·rw [← bn.out];exact HD.out.1
 ·rw [← bn.out];exact HD.out.2
 ·rw [br.out,af];exact (s1.grew cf).kept A (O _ e1)
 ·rw [← V.out];exact (s2.grew cg).kept A (O _ e2)
 ·rw [← V.out];exact (s3.grew ch).kept A (O _ e3)
 ·rw [← V.out];exact (s6.grew cj).kept A (O _ e6)
 ·rw [← V.out];exact (s9.grew R).kept A (O _ e9)
 ·rw [← V.out];exact cw.kept A (O _ bz)

theorem Dn (u v:Value) (xs ys:List Nat) (w:World) (hu:Row .u64 w u xs) (hv:Row .u64 w v ys) (a:Digs xs) (b:Digs ys) (hL:xs.length≤100000000) (hM:ys.length≤100000000) :
  Calls Tryz.prog 133 #[.pointer none,u,v] w fun e w'=>e=.returned (.int .u64 (aX (decide (val xs<val ys)):Nat))∧Kept ae w w':=by
 refine (lT none u v xs ys w (TrRoom.none w 1 (by omega)) (RowT.none hu) (RowT.none hv) a b hL hM).mono ?_;rintro e w' ⟨rfl,o',hd⟩;exact ⟨rfl,hd.none.2⟩

theorem xH (u v:Value) (xs ys:List Nat) (w:World) (hu:Row .u64 w u xs) (hv:Row .u64 w v ys) (a:Digs xs) (b:Digs ys) (hL:xs.length≤100000000) (hM:ys.length≤100000000) :
  Calls Tryz.prog 93 #[.pointer none,u,v] w fun e w'=>e=.returned (.int .u64 (aX (decide (val xs=val ys)):Nat))∧Kept ae w w':=by
 refine (ko none u v xs ys w (TrRoom.none w 1 (by omega)) (RowT.none hu) (RowT.none hv) a b hL hM).mono ?_;rintro e w' ⟨rfl,o',hd⟩;exact ⟨rfl,hd.none.2⟩

end Go.Proofs.YtkaojflnghfmcaaGreatDoor
