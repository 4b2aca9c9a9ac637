/- Put together of: Kex5 Kex6. -/
import Derived.Test.YtkaojflnghfmcaaGreatDoorQC32

namespace Go.Proofs.YtkaojflnghfmcaaGreatDoor
open _root_.Go.Proofs.Tryz
set_option maxRecDepth 100000
set_option maxHeartbeats 4000000
open Go.RowKit

theorem It (co:Option Addr) (L g:Nat) (cs:List Nat) (C e:Nat) (hC:C=val cs) (h2:2<=C) (h3:3<=e) (z:e%2=1) (i:e<18446744073709551616) (hL:L<=299) (hg:Nat.gcd C e=1) (w:World) (hu:Row .u64 w (.slice co L g) cs) (hd:Digs cs) :
  Calls prog 159 #[.int .u64 (e:Nat),.slice co L g] w fun r w'=>∃ vo vc d,r=.returned (.slice vo (L+1) vc)/\Hid (d<C/\e*d%C=1)/\Row .u64 w' (.slice vo (L+1) vc) (digs d (L+1))/\Kept af w w':=by
 obtain ⟨_,_,_,e1,hl,-,-,-,-⟩:=hu.open;cases e1
 have F:ar e=1:=m9 (by omega) i;have JW:=qB e i w;obtain ⟨i0,U,V,X,Y⟩:=info_parts Tryz.info24;have ai:1<=L:=by
  rcases cF L with h | h
  ·have h5:=hl.out;rw [h] at h5;rw [mn.1 h5] at hC;have:val []=0:=rfl;omega
  ·exact h
 have x:C<18446744073709551616^L:=by rw [hC,<- hl.out];exact aE (by omega) hd
 have J1:Hid (∀ W zo zc,Kept af w W->Row .u64 W (.slice zo 1 zc) [e]->Calls prog 158 #[.slice co L g,.slice zo 1 zc] W fun r w'=>∃ vo vc T,r=.returned (.slice vo 1 vc)/\Hid (T<e/\C*T%e=1)/\Row .u64 w' (.slice vo 1 vc) (digs T 1)/\Kept af W w'):=fun W zo zc k hr=>E0 co zo L 1 g zc cs [e] C e hC (ip e).symm (by omega) z F.symm (by omega) (by omega) hg W (hu.grew k) hr hd (Digs.one i)
 have JM:Hid (∀ W zo zc S,S<18446744073709551616->Kept af w W->Row .u64 W (.slice zo 1 zc) [1]->Calls prog 215 #[.pointer none,.slice co L g,.int .u64 (S:Nat),.slice zo 1 zc] W fun r w'=>∃ vo vc,r=.returned (.tuple #[.slice vo L vc,.int .u64 (((1+C*S)/18446744073709551616^L:Nat):Int)])/\OwnN .u64 24 w' W.heap.size (.slice vo L vc) L (digs (1+C*S) L)/\Kept af W w'):=fun W zo zc S hS k hr=>by
  have hm:max L 1=L:=by omega
  have h:=yQ none co zo L 1 g zc cs [1] S hS ((1+C*S)/18446744073709551616^L) (by rw [ip,<- hC];unfold vZ;rw [ah (by omega),hm]) W (TrRoom.none W 300 (by omega)) (RowT.none (hu.grew k)) (RowT.none hr) hd (Digs.one (by omega));rw [ip,<- hC,hm] at h;refine h.mono ?_;rintro r w' ⟨v',rfl,_,ho,o',o⟩;have ho:=ho (by omega);obtain ⟨vo,vc,rfl⟩:=dg ho;exact ⟨vo,vc,rfl,ho,o.none.2⟩
 have JQ:Hid (∀ W S vo vc zo zc,S<e->Row .u64 W (.slice vo (L+1) vc) (digs (1+C*S) L ++ [(1+C*S)/18446744073709551616^L])->Row .u64 W (.slice zo 1 zc) [e]->Calls prog 216 #[.slice vo (L+1) vc,.slice zo 1 zc] W fun r w'=>∃ qo qc,r=.returned (.slice qo (L+1) qc)/\Row .u64 w' (.slice qo (L+1) qc) (digs ((1+C*S)/e) (L+1))/\Kept af W w'):=fun W S vo vc zo zc hS h1 h4=>by
  have hlt:1+C*S<18446744073709551616^L*18446744073709551616:=by
   have a1:C*S+1<=C*e:=by
    have:=bi C (show S+1<=e by omega);rw [aJ,bD] at this;omega
   have a2:C*e<18446744073709551616^L*18446744073709551616:=lw x i;omega
  have hc:(1+C*S)/18446744073709551616^L<18446744073709551616:=oA hlt;refine GS vo zo (L+1) 1 vc zc (digs (1+C*S) L ++ [(1+C*S)/18446744073709551616^L]) [e] (1+C*S) e ?_ (ip e).symm (by omega) (by omega) (by omega) W h1 h4 ((ak (by omega) _ _).append (Digs.one hc)) (Digs.one i);rw [cZ,aB,ag,iH]
 have JE:=fun W=>qB e i W
 have J0:=fun W=>qB 1 (by omega) W
 have HN:Hid (∀ T,T<e->C*T%e=1->(1+C*(e-T))/e<C/\e*((1+C*(e-T))/e)%C=1):=fun T h h'=>Cu h2 h3 h h'
 clear hu hd hl hC h2 z hg F x;go_enter func159,ntmps159;go_wp2_with fail;refine JW.mono ?_;rintro r w1 ⟨zo,zc,rfl,hr,k1⟩;have J2:=J1.out w1 zo zc k1 hr;clear JW hr J1;go_wp2_with fail;refine J2.mono ?_;rintro r w2 ⟨ae,tc,T,rfl,HT,p,k2⟩;have Q:=HT.out.1;rw [nT (by omega)] at p;obtain ⟨_,_,_,e1,_,_,_,_,j⟩:=p.open;cases e1
 obtain ⟨b,off,rfl,c0⟩:=j 0 (by omega);have P:w2.cell? ⟨b,off,none⟩=some (.int .u64 (T:Nat)):=c0;obtain ⟨S,hS⟩:∃ S,S=e-T:=⟨_,rfl⟩
 have v:Hid (S<e):=by
  unfold Hid;rcases cF T with h | h
  ·have h9:=HT.out.2;subst h;rw [cG,iI] at h9;exact absurd h9 (by decide)
  ·omega
 have HF:Hid ((1+C*S)/e<C/\e*((1+C*S)/e)%C=1):=by rw [hS];exact HN.out T Q HT.out.2
 have H:=aa (k1.trans k2);have gs:IntKind.u64.wrap ((e:Int)-(T:Int))=(S:Int):=by rw [IntKind.wrap_u64];omega
 have hW:=J0 w2;have R:(T:Int)<=(e:Int):=by omega
 clear J2 p k1 k2 c0 j hS HN HT J0;go_wp2_with fail;refine hW.mono ?_;rintro r w3 ⟨yo,yc,rfl,B,k3⟩;have m:=aa (H.out.trans k3);have J3:=JM.out w3 yo yc S (by have:=v.out;omega) m.out B;clear hW k3 B P;go_wp2_with fail;refine J3.mono ?_;rintro r w4 ⟨vo,vc,rfl,A,k4⟩;have t:=aa (m.out.trans k4);have n:=aa A;have q:Hid (w.heap.size<=w3.heap.size):=m.out.size;have s:Hid (w3.heap.size<=w4.heap.size):=k4.size;obtain ⟨c,hc⟩:∃ c,c=(1+C*S)/18446744073709551616^L:=⟨_,rfl⟩
 rw [<- hc];have G:=aa hc;have y:=fun W=>JE W
 clear J3 A k4 hc JM;go_wp2_with (at_builtin;refine wpList_append_own _ rfl _ _ 23 rfl w3.heap.size 24 i0 (.int .u64 0) 1 8 underlying23 U V X Y rfl (by decide) _ _ _ rfl (World.ownsRow.alloc n.out _) ⟨w4.heap.size,0,none⟩ 1 1 [.int .u64 (c:Nat)] rfl rfl (cell_one_new _ _ _) (by intro u hu;simp at hu;subst hu;rfl) (by unfold maxLen;omega) (by omega) (by have:=s.out;simp;omega) ?_);intro v5 w5 l f _;have a:OwnN .u64 24 w5 w3.heap.size v5 (L+1) (digs (1+C*S) L ++ [c]):=by
  unfold OwnN;rw [dt];exact l
 have I:Hid (Kept af w w5):=(t.out.alloc _).grown f (fun k hk hlt=>by have h1:=(n.out.lt k hk).1;have h2:=q.out;omega);obtain ⟨ab,Z,rfl⟩:=dg a;have N:=aa (cW a (by rw [aZ,ag];rfl));have J5:=y w5;clear l a f n t q s y;go_wp2_with fail;refine J5.mono ?_;rintro r w6 ⟨ad,ac,rfl,D,k6⟩;have J6:=JQ.out w6 S ab Z ad ac v.out (by rw [<- G.out];exact N.out.grew k6) D;have J:=aa (I.out.trans k6);clear J5 D k6;go_wp2_with fail;refine J6.mono ?_;rintro r w7 ⟨qo,qc,rfl,E,k7⟩;have O:=aa E;have M:=aa (J.out.trans k7);clear J6 E k7;go_wp2;go_ret
 exact ⟨_,_,_,rfl,HF.out,O.out,M.out⟩

def OfEnd (L M P Q e B bK:Nat) (a w:World) (r:Ending) (w':World):Prop:=
 (iL L M P Q e/\r=.returned (.tuple #[])/\∃ kv,w'.heap[bK]? = some (.cells kv 26 (0,0))/\KeyAt w' P Q e kv/\kJ B kv/\Kept (fun b=>b=bK) w w'/\Kept af a w')\/(¬ iL L M P Q e/\r=.panicked [refusal 190]/\Kept af w w')

theorem OfEnd.no {L M P Q e B bK:Nat} {a w w':World} (h:¬ iL L M P Q e) (k:Kept af w w'):OfEnd L M P Q e B bK a w (.panicked [refusal 190]) w':=.inr ⟨h,rfl,k⟩

theorem jI {P Q:Nat} (h:0<P*Q):di P Q=digs (P*Q) (ar (P*Q)):=by
 unfold di;have:¬ ar (P*Q)<=0:=fun h1=>by
  have:=(aG _ _).1 h1;rw [cw] at this;omega
 rw [Nat.max_eq_left (by omega)]

theorem KeyAt.kept {S:Nat->Prop} {w w':World} {P Q e:Nat} {kv:Array Value} (h:KeyAt w P Q e kv) (k:Kept S w w') (hs:∀ v ∈ kv.toList,∀ x,v.ownBlock=some x->¬ S x):KeyAt w' P Q e kv:=by
 obtain ⟨vn,vd,vp,vq,a,b,c,d,u,rfl,rn,f,g,rd,rp,rq,l,m,i,j,n⟩:=h;exact ⟨vn,vd,vp,vq,a,b,c,d,u,rfl,rn.kept k (hs vn (by simp)),f,g,rd.kept k (hs vd (by simp)),rp.kept k (hs vp (by simp)),rq.kept k (hs vq (by simp)),l.kept k (hs a (by simp)),m.kept k (hs b (by simp)),i,j,n.kept k (hs c (by simp))⟩

theorem GT {W:World} {a:Addr} {p:Nat} {x0 x1 x2 x3 x4 x5 x6 x7 q:Value} (h:W.cell? a=some q) (b:a.block≠p):((((((((W.setCell ⟨p,0,none⟩ x0).setCell ⟨p,1,none⟩ x1).setCell ⟨p,2,none⟩ x2).setCell ⟨p,3,none⟩ x3).setCell ⟨p,4,none⟩ x4).setCell ⟨p,5,none⟩ x5).setCell ⟨p,6,none⟩ x6).setCell ⟨p,7,none⟩ x7).cell? a=some q:=by
 have h1:∀ (V:World) (j:Nat) (x:Value),V.cell? a=some q->(V.setCell ⟨p,j,none⟩ x).cell? a=some q:=fun V j x hv=>by
  unfold World.cell? at hv ⊢;rw [Below.heap_setCell V ⟨p,j,none⟩ x a.block b];exact hv
 exact h1 _ _ _ (h1 _ _ _ (h1 _ _ _ (h1 _ _ _ (h1 _ _ _ (h1 _ _ _ (h1 _ _ _ (h1 _ _ _ h)))))))

theorem GM (bP bQ bE bK:Nat) (ao bo:Option Addr) (L M b c:Nat) (xs:List Nat) (P Q e B:Nat) (hP:P=val xs) (g:L<=1000) (d:¬ (L<=300/\eO P)) (a w:World) (hu:Row .u64 w (.slice ao L b) xs) (f:Digs xs) (b0:w.cell? ⟨bP,0,none⟩=some (.slice ao L b)) (b1:w.cell? ⟨bQ,0,none⟩=some (.slice bo M c)) :
  Calls prog 154 #[.pointer (some ⟨bP,0,none⟩),.pointer (some ⟨bQ,0,none⟩),.pointer (some ⟨bE,0,none⟩),.pointer (some ⟨bK,0,none⟩)] w fun r w'=>OfEnd L M P Q e B bK a w r w':=by
 have hN:¬ iL L M P Q e:=fun h=>d ⟨h.1.1,h.2.1⟩
 have KD:Kept af w w.drew:=(aj af w).drew;have J1:=sK ao L b xs P hP (by omega) d w.drew (hu.grew KD) f;clear hu f hP d;go_enter func154,ntmps154;go_wp2_with fail;refine wp_region_held_drew (S:=fun w'=>w'.cell? ⟨bP,0,none⟩=some (.slice ao L b)/\w'.cell? ⟨bQ,0,none⟩=some (.slice bo M c)) (by kernel_rfl) ⟨b0,b1⟩ (fun hS=>?_);refine aT 0 (some 10) (.slice ao L b) hS ?_ (y:=.inl ⟨by rfl,fun w h=>by simp [execOp,go_sem,h.1]⟩);simp only [Act.put,lsA,lsS,lsZ];refine aT 2 (some 12) (.slice bo M c) hS ?_ (y:=.inl ⟨by rfl,fun w h=>by simp [execOp,go_sem,h.2]⟩);simp only [Act.put,lsA,lsS,lsZ];refine bV 1 (some 11) 155 [.slice ao L b] (J1) ?_
 rintro e w4 ⟨rfl,k4⟩;exact .inr ⟨_,rfl,rfl,.no hN (KD.trans k4)⟩

theorem GN (bP bQ bE bK:Nat) (ao bo:Option Addr) (L M c b:Nat) (xs ys:List Nat) (P Q e B:Nat) (hP:P=val xs) (hQ:Q=val ys) (l:M<=1000) (i:L<=300/\eO P) (d:¬ (M<=300/\eO Q)) (a w:World) (hu:Row .u64 w (.slice ao L c) xs) (hv:Row .u64 w (.slice bo M b) ys) (f:Digs xs) (g:Digs ys) (b0:w.cell? ⟨bP,0,none⟩=some (.slice ao L c)) (b1:w.cell? ⟨bQ,0,none⟩=some (.slice bo M b)) :
  Calls prog 154 #[.pointer (some ⟨bP,0,none⟩),.pointer (some ⟨bQ,0,none⟩),.pointer (some ⟨bE,0,none⟩),.pointer (some ⟨bK,0,none⟩)] w fun r w'=>OfEnd L M P Q e B bK a w r w':=by
 have hN:¬ iL L M P Q e:=fun h=>d ⟨h.1.2,h.2.2.1⟩
 have KD:Kept af w w.drew:=(aj af w).drew;have J1:=mR ao L c xs P (ar P) hP rfl i w.drew (hu.grew KD) f;have J2:Hid (∀ W,Kept af w W->Calls prog 155 #[.slice bo M b] W fun e w'=>e=.panicked [refusal 190]/\Kept af W w'):=fun W k=>sK bo M b ys Q hQ (by omega) d W (hv.grew k) g
 clear hu hv f g hP hQ d i;go_enter func154,ntmps154;go_wp2_with fail;refine wp_region_held_drew (S:=fun w'=>w'.cell? ⟨bP,0,none⟩=some (.slice ao L c)/\w'.cell? ⟨bQ,0,none⟩=some (.slice bo M b)) (by kernel_rfl) ⟨b0,b1⟩ (fun hS=>?_);refine aT 0 (some 10) (.slice ao L c) hS ?_ (y:=.inl ⟨by rfl,fun w h=>by simp [execOp,go_sem,h.1]⟩);simp only [Act.put,lsA,lsS,lsZ];refine aT 2 (some 12) (.slice bo M b) hS ?_ (y:=.inl ⟨by rfl,fun w h=>by simp [execOp,go_sem,h.2]⟩);simp only [Act.put,lsA,lsS,lsZ];refine bV 1 (some 11) 155 [.slice ao L c] (J1) ?_;rintro e w4 ⟨vo,vc,rfl,_,_,k4⟩
 have j:w4.cell? ⟨bP,0,none⟩=some (.slice ao L c)/\w4.cell? ⟨bQ,0,none⟩=some (.slice bo M b):=⟨k4.cellN hS.1,k4.cellN hS.2⟩
 refine .inl ⟨_,rfl,j,?_⟩;simp only [Act.put,lsA,lsS,lsZ];refine bV 3 (some 13) 155 [.slice bo M b] (J2.out w4 (KD.trans k4)) ?_;rintro e w5 ⟨rfl,k5⟩;exact .inr ⟨_,rfl,rfl,.no hN ((KD.trans k4).trans k5)⟩

theorem GO (bP bQ bE bK:Nat) (ao bo:Option Addr) (L M f d:Nat) (xs ys:List Nat) (P Q e B:Nat) (hP:P=val xs) (hQ:Q=val ys) (i:L<=300/\eO P) (b:M<=300/\eO Q) (o:fW (di P Q) e≠0) (a w:World) (hu:Row .u64 w (.slice ao L f) xs) (hv:Row .u64 w (.slice bo M d) ys) (O:Digs xs) (R:Digs ys) (b0:w.cell? ⟨bP,0,none⟩=some (.slice ao L f)) (b1:w.cell? ⟨bQ,0,none⟩=some (.slice bo M d)) (b2:w.cell? ⟨bE,0,none⟩=some (.int .u64 (e:Int))) :
  Calls prog 154 #[.pointer (some ⟨bP,0,none⟩),.pointer (some ⟨bQ,0,none⟩),.pointer (some ⟨bE,0,none⟩),.pointer (some ⟨bK,0,none⟩)] w fun r w'=>OfEnd L M P Q e B bK a w r w':=by
 have J:0<P*Q:=fI (by have:=i.2.1;omega) (by have:=b.2.1;omega);obtain ⟨np,D⟩:∃ np,np=ar P:=⟨_,rfl⟩
 obtain ⟨nq,F⟩:∃ nq,nq=ar Q:=⟨_,rfl⟩
 obtain ⟨nw,p⟩:∃ nw,nw=ar (P*Q):=⟨_,rfl⟩
 have ab:=i.2.1;have ad:=b.2.1;have ac:=i.2.2.1;have E:np<=128:=by rw [D];exact cX (n:=128) (by have:=i.2.2.2;omega)
 have G:nq<=128:=by rw [F];exact cX (n:=128) (by have:=b.2.2.2;omega)
 have A:P<18446744073709551616^np:=(aG P np).1 (by omega);have C:Q<18446744073709551616^nq:=(aG Q nq).1 (by omega);have z:P*Q<18446744073709551616^(np+nq):=by rw [aN];exact lw A C
 have H:nw<=np+nq:=by rw [p];exact (aG _ _).2 z
 have N:P*Q<18446744073709551616^nw:=(aG _ nw).1 (by omega);have vP:val (digs P np)=P:=by rw [aB,ax A]
 have vQ:val (digs Q nq)=Q:=by rw [aB,ax C]
 have vN:val (digs (P*Q) nw)=P*Q:=by rw [aB,ax N]
 have dP:Digs (digs P np):=ak (by omega) _ _;have dQ:Digs (digs Q nq):=ak (by omega) _ _;have dN:Digs (digs (P*Q) nw):=ak (by omega) _ _;have U:di P Q=digs (P*Q) nw:=by rw [p];exact jI J
 have KD:Kept af w w.drew:=(aj af w).drew;have J1:=mR ao L f xs P np hP D i w.drew (hu.grew KD) O;have J2:Hid (∀ W,Kept af w W->Calls prog 155 #[.slice bo M d] W fun e w'=>∃ vo vc,e=.returned (.slice vo nq vc)/\Row .u64 w' (.slice vo nq vc) (digs Q nq)/\Fresh W (.slice vo nq vc)/\Kept af W w'):=fun W k=>mR bo M d ys Q nq hQ F b W (hv.grew k) R
 have j:Hid (∀ W va ca vb cb,Row .u64 W (.slice va np ca) (digs P np)->Row .u64 W (.slice vb nq cb) (digs Q nq)->Calls prog 148 #[.pointer none,.slice va np ca,.slice vb nq cb] W fun e w'=>∃ vo vc,e=.returned (.slice vo (np+nq) vc)/\Row .u64 w' (.slice vo (np+nq) vc) (digs (P*Q) (np+nq))/\Kept af W w'):=fun W va ca vb cb h1 h2=>by
  refine (AJ va vb np nq ca cb _ _ W h1 h2 dP dQ).mono ?_;rintro e w' ⟨v',rfl,hr,k⟩;rw [vP,vQ] at hr;unfold jP at hr;rw [ah (by omega)] at hr;obtain ⟨vo,vn,vc,rfl,hl,_,_,_,_⟩:=hr.open;obtain rfl:np+nq=vn:=by rw [<- hl.out,ag]
  exact ⟨_,_,rfl,hr,k⟩
 have JN:Hid (∀ W v c,Row .u64 W (.slice v (np+nq) c) (digs (P*Q) (np+nq))->Calls prog 156 #[.slice v (np+nq) c] W fun e w'=>∃ vo vc,e=.returned (.slice vo nw vc)/\Row .u64 w' (.slice vo nw vc) (digs (P*Q) nw)/\Fresh W (.slice vo nw vc)/\Kept af W w'):=fun W v c h=>qA v (np+nq) c _ (P*Q) nw (by rw [aB,ax z]) p (by omega) W h (ak (by omega) _ _) (by rw [ag];omega)
 have g:Hid (∀ W v c,Row .u64 W (.slice v nw c) (digs (P*Q) nw)->Calls prog 157 #[.slice v nw c,.int .u64 (e:Nat)] W fun r w'=>r=.returned (.int .i64 ((fW (digs (P*Q) nw) e:Nat):Int))/\Kept af W w'):=fun W v c h=>CK v nw c _ e W h dN (by omega)
 have hN:¬ iL L M P Q e:=fun h=>o h.2.2.2.2.1
 rw [U] at o;rw [(kC _ _).resolve_left o] at g;have hY:=dM 190;clear hu hv O R hP hQ i b J D F p ab ad ac E G A C z H N vP vQ vN dP dQ dN U o;go_enter func154,ntmps154;go_wp2_with fail;refine wp_region_held_drew (S:=fun w'=>w'.cell? ⟨bP,0,none⟩=some (.slice ao L f)/\w'.cell? ⟨bQ,0,none⟩=some (.slice bo M d)) (by kernel_rfl) ⟨b0,b1⟩ (fun hS=>?_);refine aT 0 (some 10) (.slice ao L f) hS ?_ (y:=.inl ⟨by rfl,fun w h=>by simp [execOp,go_sem,h.1]⟩);simp only [Act.put,lsA,lsS,lsZ];refine aT 2 (some 12) (.slice bo M d) hS ?_ (y:=.inl ⟨by rfl,fun w h=>by simp [execOp,go_sem,h.2]⟩);simp only [Act.put,lsA,lsS,lsZ]
 refine bV 1 (some 11) 155 [.slice ao L f] (J1) ?_;rintro e w4 ⟨vp,cp,rfl,X,_,k4⟩;have l:w4.cell? ⟨bP,0,none⟩=some (.slice ao L f)/\w4.cell? ⟨bQ,0,none⟩=some (.slice bo M d):=⟨k4.cellN hS.1,k4.cellN hS.2⟩
 refine .inl ⟨_,rfl,l,?_⟩;simp only [Act.put,lsA,lsS,lsZ];refine bV 3 (some 13) 155 [.slice bo M d] (J2.out w4 (KD.trans k4)) ?_;rintro e w5 ⟨vq,cq,rfl,Y,_,k5⟩;have m:w5.cell? ⟨bP,0,none⟩=some (.slice ao L f)/\w5.cell? ⟨bQ,0,none⟩=some (.slice bo M d):=⟨k5.cellN l.1,k5.cellN l.2⟩
 refine .inl ⟨_,rfl,m,?_⟩;simp only [Act.put,lsA,lsS,lsZ];refine aT 4 (some 4) (.slice vp np cp) m ?_;simp only [Act.put,lsA,lsS,lsZ];refine aT 5 (some 5) (.slice vq nq cq) m ?_;simp only [Act.put,lsA,lsS,lsZ];refine wpAnyH_done (by kernel_rfl) ?_ _;have q:=aa ((KD.trans k4).trans k5);have t:=aa (X.grew k5);have x:=aa Y;have J5:=j.out w5 vp cp vq cq t.out x.out;clear J1 J2 KD k4 k5 X Y hS l m j b0 b1;go_wp2_with fail;refine J5.mono ?_;rintro e6 w6 ⟨vm,cm,rfl,V,k6⟩;have J6:=JN.out w6 vm cm V;clear J5 V JN;go_wp2_with fail;refine J6.mono ?_;rintro e6 w7 ⟨vn,cn,rfl,I,T,k7⟩;have s:=aa (q.out.trans (k6.trans k7))
 have al:=aa (t.out.grew (k6.trans k7));have am:=aa (x.out.grew (k6.trans k7));have ai:=aa I;have ae:=aa (T.after (q.out.trans k6));have J7:=g.out w7 vn cn I;have c7:=s.out.cellN b2;clear J6 I T k6 k7 q t x g;go_wp2_with fail;refine J7.mono ?_;rintro e6 w8 ⟨rfl,k8⟩;have Z:=aa (s.out.trans k8);clear J7 k8 s;go_wp2_with fail;refine (hY _).mono ?_;rintro e6 w9 ⟨rfl,rfl⟩;exact ⟨rfl,.no hN Z.out⟩

theorem GP (bP bQ bE bK:Nat) (ao bo:Option Addr) (L M g d:Nat) (xs ys:List Nat) (P Q e B:Nat) (hP:P=val xs) (hQ:Q=val ys) (l:L<=300/\eO P) (b:M<=300/\eO Q) (i:fW (di P Q) e=0) (F:Nat.gcd Q P≠1) (a w:World) (hu:Row .u64 w (.slice ao L g) xs) (hv:Row .u64 w (.slice bo M d) ys) (X:Digs xs) (Y:Digs ys) (b0:w.cell? ⟨bP,0,none⟩=some (.slice ao L g)) (b1:w.cell? ⟨bQ,0,none⟩=some (.slice bo M d)) (b2:w.cell? ⟨bE,0,none⟩=some (.int .u64 (e:Int))) :
  Calls prog 154 #[.pointer (some ⟨bP,0,none⟩),.pointer (some ⟨bQ,0,none⟩),.pointer (some ⟨bE,0,none⟩),.pointer (some ⟨bK,0,none⟩)] w fun r w'=>OfEnd L M P Q e B bK a w r w':=by
 have U:0<P*Q:=fI (by have:=l.2.1;omega) (by have:=b.2.1;omega);obtain ⟨np,q⟩:∃ np,np=ar P:=⟨_,rfl⟩
 obtain ⟨nq,H⟩:∃ nq,nq=ar Q:=⟨_,rfl⟩
 obtain ⟨nw,s⟩:∃ nw,nw=ar (P*Q):=⟨_,rfl⟩
 have aw:=l.2.1;have ay:=b.2.1;have ad:=l.2.2.1;have G:np<=128:=by rw [q];exact cX (n:=128) (by have:=l.2.2.2;omega)
 have I:nq<=128:=by rw [H];exact cX (n:=128) (by have:=b.2.2.2;omega)
 have D:P<18446744073709551616^np:=(aG P np).1 (by omega);have E:Q<18446744073709551616^nq:=(aG Q nq).1 (by omega);have C:P*Q<18446744073709551616^(np+nq):=by rw [aN];exact lw D E
 have J:nw<=np+nq:=by rw [s];exact (aG _ _).2 C
 have V:P*Q<18446744073709551616^nw:=(aG _ nw).1 (by omega);have vP:val (digs P np)=P:=by rw [aB,ax D]
 have vQ:val (digs Q nq)=Q:=by rw [aB,ax E]
 have vN:val (digs (P*Q) nw)=P*Q:=by rw [aB,ax V]
 have dP:Digs (digs P np):=ak (by omega) _ _;have dQ:Digs (digs Q nq):=ak (by omega) _ _;have dN:Digs (digs (P*Q) nw):=ak (by omega) _ _;have ab:di P Q=digs (P*Q) nw:=by rw [s];exact jI U
 have KD:Kept af w w.drew:=(aj af w).drew;have J1:=mR ao L g xs P np hP q l w.drew (hu.grew KD) X;have J2:Hid (∀ W,Kept af w W->Calls prog 155 #[.slice bo M d] W fun e w'=>∃ vo vc,e=.returned (.slice vo nq vc)/\Row .u64 w' (.slice vo nq vc) (digs Q nq)/\Fresh W (.slice vo nq vc)/\Kept af W w'):=fun W k=>mR bo M d ys Q nq hQ H b W (hv.grew k) Y
 have m:Hid (∀ W va ca vb cb,Row .u64 W (.slice va np ca) (digs P np)->Row .u64 W (.slice vb nq cb) (digs Q nq)->Calls prog 148 #[.pointer none,.slice va np ca,.slice vb nq cb] W fun e w'=>∃ vo vc,e=.returned (.slice vo (np+nq) vc)/\Row .u64 w' (.slice vo (np+nq) vc) (digs (P*Q) (np+nq))/\Kept af W w'):=fun W va ca vb cb h1 h2=>by
  refine (AJ va vb np nq ca cb _ _ W h1 h2 dP dQ).mono ?_;rintro e w' ⟨v',rfl,hr,k⟩;rw [vP,vQ] at hr;unfold jP at hr;rw [ah (by omega)] at hr;obtain ⟨vo,vn,vc,rfl,hl,_,_,_,_⟩:=hr.open;obtain rfl:np+nq=vn:=by rw [<- hl.out,ag]
  exact ⟨_,_,rfl,hr,k⟩
 have JN:Hid (∀ W v c,Row .u64 W (.slice v (np+nq) c) (digs (P*Q) (np+nq))->Calls prog 156 #[.slice v (np+nq) c] W fun e w'=>∃ vo vc,e=.returned (.slice vo nw vc)/\Row .u64 w' (.slice vo nw vc) (digs (P*Q) nw)/\Fresh W (.slice vo nw vc)/\Kept af W w'):=fun W v c h=>qA v (np+nq) c _ (P*Q) nw (by rw [aB,ax C]) s (by omega) W h (ak (by omega) _ _) (by rw [ag];omega)
 have j:Hid (∀ W v c,Row .u64 W (.slice v nw c) (digs (P*Q) nw)->Calls prog 157 #[.slice v nw c,.int .u64 (e:Nat)] W fun r w'=>r=.returned (.int .i64 ((fW (digs (P*Q) nw) e:Nat):Int))/\Kept af W w'):=fun W v c h=>CK v nw c _ e W h dN (by omega)
 have f:=i;rw [ab] at f;have ac:=(mX dN (by rw [ag];omega) e).1 f;rw [vN] at ac;obtain ⟨-,-,aq,au,av⟩:=ac;rw [f] at j;have hR:=de 190;have hN:¬ iL L M P Q e:=fun h=>F (by rw [i8];exact h.2.2.2.1)
 have JI:Hid (∀ W va ca vb cb,Row .u64 W (.slice va nq ca) (digs Q nq)->Row .u64 W (.slice vb np cb) (digs P np)->Calls prog 158 #[.slice va nq ca,.slice vb np cb] W fun e w'=>e=.panicked [refusal 190]/\Kept af W w'):=fun W va ca vb cb h1 h2=>vS va vb nq np ca cb _ _ Q P vQ.symm vP.symm (by omega) ad q (by omega) (by omega) F W h1 h2 dQ dP
 clear aq au av F hu hv X Y hP hQ l b U q H s aw ay ad G I D E C J V vP vQ vN dP dQ dN ab f i;go_enter func154,ntmps154;go_wp2_with fail;refine wp_region_held_drew (S:=fun w'=>w'.cell? ⟨bP,0,none⟩=some (.slice ao L g)/\w'.cell? ⟨bQ,0,none⟩=some (.slice bo M d)) (by kernel_rfl) ⟨b0,b1⟩ (fun hS=>?_);refine aT 0 (some 10) (.slice ao L g) hS ?_ (y:=.inl ⟨by rfl,fun w h=>by simp [execOp,go_sem,h.1]⟩);simp only [Act.put,lsA,lsS,lsZ];refine aT 2 (some 12) (.slice bo M d) hS ?_ (y:=.inl ⟨by rfl,fun w h=>by simp [execOp,go_sem,h.2]⟩);simp only [Act.put,lsA,lsS,lsZ];refine bV 1 (some 11) 155 [.slice ao L g] (J1) ?_
 rintro e w4 ⟨vp,cp,rfl,ai,_,k4⟩;have o:w4.cell? ⟨bP,0,none⟩=some (.slice ao L g)/\w4.cell? ⟨bQ,0,none⟩=some (.slice bo M d):=⟨k4.cellN hS.1,k4.cellN hS.2⟩
 refine .inl ⟨_,rfl,o,?_⟩;simp only [Act.put,lsA,lsS,lsZ];refine bV 3 (some 13) 155 [.slice bo M d] (J2.out w4 (KD.trans k4)) ?_;rintro e w5 ⟨vq,cq,rfl,al,_,k5⟩;have p:w5.cell? ⟨bP,0,none⟩=some (.slice ao L g)/\w5.cell? ⟨bQ,0,none⟩=some (.slice bo M d):=⟨k5.cellN o.1,k5.cellN o.2⟩
 refine .inl ⟨_,rfl,p,?_⟩;simp only [Act.put,lsA,lsS,lsZ];refine aT 4 (some 4) (.slice vp np cp) p ?_;simp only [Act.put,lsA,lsS,lsZ];refine aT 5 (some 5) (.slice vq nq cq) p ?_;simp only [Act.put,lsA,lsS,lsZ];refine wpAnyH_done (by kernel_rfl) ?_ _;have t:=aa ((KD.trans k4).trans k5);have z:=aa (ai.grew k5);have A:=aa al;have J5:=m.out w5 vp cp vq cq z.out A.out;clear J1 J2 KD k4 k5 ai al hS o p m b0 b1;go_wp2_with fail;refine J5.mono ?_;rintro e6 w6 ⟨vm,cm,rfl,ae,k6⟩;have J6:=JN.out w6 vm cm ae;clear J5 ae JN;go_wp2_with fail;refine J6.mono ?_;rintro e6 w7 ⟨vn,cn,rfl,N,Z,k7⟩;have x:=aa (t.out.trans (k6.trans k7))
 have R:=aa (z.out.grew (k6.trans k7));have T:=aa (A.out.grew (k6.trans k7));have O:=aa N;have aA:=aa (Z.after (t.out.trans k6));have J7:=j.out w7 vn cn N;have c7:=x.out.cellN b2;clear J6 N Z k6 k7 t z A j;go_wp2_with fail;refine J7.mono ?_;rintro e6 w8 ⟨rfl,k8⟩;have am:=aa (x.out.trans k8);have an:=aa (R.out.grew k8);have ap:=aa (T.out.grew k8);have aC:=aa (O.out.grew k8);clear J7 k8 x R T O;go_wp2_with fail;refine (hR _).mono ?_;rintro e6 w9 ⟨rfl,rfl⟩;have J9:=JI.out w9 vq cq vp cp ap.out an.out;clear hR JI;go_wp2_with fail;refine J9.mono ?_;rintro e6 aD ⟨rfl,az⟩;exact ⟨rfl,.no hN (am.out.trans az)⟩

theorem GQ (bP bQ bE bK:Nat) (ao bo:Option Addr) (L M i d:Nat) (xs ys:List Nat) (P Q e B:Nat) (hP:P=val xs) (hQ:Q=val ys) (o:L<=300/\eO P) (b:M<=300/\eO Q) (j:fW (di P Q) e=0) (hg:Nat.gcd Q P=1) (ab:Nat.gcd (jL P Q) e≠1) (a w:World) (hu:Row .u64 w (.slice ao L i) xs) (hv:Row .u64 w (.slice bo M d) ys) (aE:Digs xs) (aF:Digs ys) (b0:w.cell? ⟨bP,0,none⟩=some (.slice ao L i)) (b1:w.cell? ⟨bQ,0,none⟩=some (.slice bo M d)) (b2:w.cell? ⟨bE,0,none⟩=some (.int .u64 (e:Int))) :
  Calls prog 154 #[.pointer (some ⟨bP,0,none⟩),.pointer (some ⟨bQ,0,none⟩),.pointer (some ⟨bE,0,none⟩),.pointer (some ⟨bK,0,none⟩)] w fun r w'=>OfEnd L M P Q e B bK a w r w':=by
 have aC:0<P*Q:=fI (by have:=o.2.1;omega) (by have:=b.2.1;omega);obtain ⟨np,E⟩:∃ np,np=ar P:=⟨_,rfl⟩
 obtain ⟨nq,ad⟩:∃ nq,nq=ar Q:=⟨_,rfl⟩
 obtain ⟨nw,F⟩:∃ nw,nw=ar (P*Q):=⟨_,rfl⟩
 have aL:=o.2.1;have aP:=b.2.1;have aO:=o.2.2.1;have ac:np<=128:=by rw [E];exact cX (n:=128) (by have:=o.2.2.2;omega)
 have ae:nq<=128:=by rw [ad];exact cX (n:=128) (by have:=b.2.2.2;omega)
 have x:P<18446744073709551616^np:=(aG P np).1 (by omega);have z:Q<18446744073709551616^nq:=(aG Q nq).1 (by omega);have X:P*Q<18446744073709551616^(np+nq):=by rw [aN];exact lw x z
 have ai:nw<=np+nq:=by rw [F];exact (aG _ _).2 X
 have aD:P*Q<18446744073709551616^nw:=(aG _ nw).1 (by omega);have vP:val (digs P np)=P:=by rw [aB,ax x]
 have vQ:val (digs Q nq)=Q:=by rw [aB,ax z]
 have vN:val (digs (P*Q) nw)=P*Q:=by rw [aB,ax aD]
 have dP:Digs (digs P np):=ak (by omega) _ _;have dQ:Digs (digs Q nq):=ak (by omega) _ _;have dN:Digs (digs (P*Q) nw):=ak (by omega) _ _;have aK:di P Q=digs (P*Q) nw:=by rw [F];exact jI aC
 have KD:Kept af w w.drew:=(aj af w).drew;have J1:=mR ao L i xs P np hP E o w.drew (hu.grew KD) aE;have J2:Hid (∀ W,Kept af w W->Calls prog 155 #[.slice bo M d] W fun e w'=>∃ vo vc,e=.returned (.slice vo nq vc)/\Row .u64 w' (.slice vo nq vc) (digs Q nq)/\Fresh W (.slice vo nq vc)/\Kept af W w'):=fun W k=>mR bo M d ys Q nq hQ ad b W (hv.grew k) aF
 have q:Hid (∀ W va ca vb cb,Row .u64 W (.slice va np ca) (digs P np)->Row .u64 W (.slice vb nq cb) (digs Q nq)->Calls prog 148 #[.pointer none,.slice va np ca,.slice vb nq cb] W fun e w'=>∃ vo vc,e=.returned (.slice vo (np+nq) vc)/\Row .u64 w' (.slice vo (np+nq) vc) (digs (P*Q) (np+nq))/\Kept af W w'):=fun W va ca vb cb h1 h2=>by
  refine (AJ va vb np nq ca cb _ _ W h1 h2 dP dQ).mono ?_;rintro e w' ⟨v',rfl,hr,k⟩;rw [vP,vQ] at hr;unfold jP at hr;rw [ah (by omega)] at hr;obtain ⟨vo,vn,vc,rfl,hl,_,_,_,_⟩:=hr.open;obtain rfl:np+nq=vn:=by rw [<- hl.out,ag]
  exact ⟨_,_,rfl,hr,k⟩
 have JN:Hid (∀ W v c,Row .u64 W (.slice v (np+nq) c) (digs (P*Q) (np+nq))->Calls prog 156 #[.slice v (np+nq) c] W fun e w'=>∃ vo vc,e=.returned (.slice vo nw vc)/\Row .u64 w' (.slice vo nw vc) (digs (P*Q) nw)/\Fresh W (.slice vo nw vc)/\Kept af W w'):=fun W v c h=>qA v (np+nq) c _ (P*Q) nw (by rw [aB,ax X]) F (by omega) W h (ak (by omega) _ _) (by rw [ag];omega)
 have l:Hid (∀ W v c,Row .u64 W (.slice v nw c) (digs (P*Q) nw)->Calls prog 157 #[.slice v nw c,.int .u64 (e:Nat)] W fun r w'=>r=.returned (.int .i64 ((fW (digs (P*Q) nw) e:Nat):Int))/\Kept af W w'):=fun W v c h=>CK v nw c _ e W h dN (by omega)
 have g:=j;rw [aK] at g;have aM:=(mX dN (by rw [ag];omega) e).1 g;rw [vN] at aM;obtain ⟨-,-,aH,a0,aI⟩:=aM;rw [g] at l;have hR:=de 190;have hN:¬ iL L M P Q e:=fun h=>ab (by rw [i8];exact h.2.2.2.2.2)
 have JI:Hid (∀ W va ca vb cb,Row .u64 W (.slice va nq ca) (digs Q nq)->Row .u64 W (.slice vb np cb) (digs P np)->Calls prog 158 #[.slice va nq ca,.slice vb np cb] W fun e w'=>∃ vo vc T,e=.returned (.slice vo np vc)/\Hid (T<P/\Q*T%P=1)/\Row .u64 w' (.slice vo np vc) (digs T np)/\Kept af W w'):=fun W va ca vb cb h1 h2=>E0 va vb nq np ca cb _ _ Q P vQ.symm vP.symm (by omega) aO E (by omega) (by omega) hg W h1 h2 dQ dP
 obtain ⟨C,hC⟩:∃ C,C=jL P Q:=⟨_,rfl⟩
 obtain ⟨nc,Y⟩:∃ nc,nc=ar C:=⟨_,rfl⟩
 have az:C<18446744073709551616^(np+nq):=by rw [hC];exact oT x z (by omega) (by omega)
 have Z:nc<=np+nq:=by rw [Y];exact (aG _ _).2 az
 have aA:C<18446744073709551616^nc:=(aG C nc).1 (by omega);have vC:val (digs C nc)=C:=by rw [aB,ax aA]
 have aY:2<=C:=by rw [hC];exact Ac aL aP
 have V:Hid (∀ W va ca vb cb,Row .u64 W (.slice va np ca) (digs P np)->Row .u64 W (.slice vb nq cb) (digs Q nq)->Calls prog 161 #[.slice va np ca,.slice vb nq cb] W fun e w'=>∃ vo vc,e=.returned (.tuple #[.slice vo nc vc,.int .i64 0])/\Row .u64 w' (.slice vo nc vc) (digs C nc)/\Kept af W w'):=fun W va ca vb cb h1 h2=>by
  refine (GK va vb np nq ca cb _ _ P Q 0 _ vP.symm vQ.symm (by omega) (by omega) (.inl ⟨rfl,by omega,by omega⟩) (by rw [ah rfl,<- hC,<- Y]) W h1 h2 dP dQ).mono ?_;rintro e w' ⟨v',rfl,hr,_,k⟩;obtain ⟨vo,vn,vc,rfl,hl,_,_,_,_⟩:=hr.open;obtain rfl:nc=vn:=by rw [<- hl.out,ag]
  exact ⟨_,_,rfl,hr,k⟩
 have aZ:=fun v n c W=>lZ v n c W
 have JX:Hid (∀ W v c,Row .u64 W (.slice v nc c) (digs C nc)->Calls prog 159 #[.int .u64 (e:Nat),.slice v nc c] W fun r w'=>r=.panicked [refusal 190]/\Kept af W w'):=fun W v c h=>CI v nc c _ C e vC.symm aH aI (by omega) (by omega) (by rw [hC];exact ab) W h (ak (by omega) _ _)
 clear aH a0 aI ab hg hC Y az Z aA vC aY hu hv aE aF hP hQ o b aC E ad F aL aP aO ac ae x z X ai aD vP vQ vN dP dQ dN aK g j;go_enter func154,ntmps154;go_wp2_with fail;refine wp_region_held_drew (S:=fun w'=>w'.cell? ⟨bP,0,none⟩=some (.slice ao L i)/\w'.cell? ⟨bQ,0,none⟩=some (.slice bo M d)) (by kernel_rfl) ⟨b0,b1⟩ (fun hS=>?_);refine aT 0 (some 10) (.slice ao L i) hS ?_ (y:=.inl ⟨by rfl,fun w h=>by simp [execOp,go_sem,h.1]⟩);simp only [Act.put,lsA,lsS,lsZ];refine aT 2 (some 12) (.slice bo M d) hS ?_ (y:=.inl ⟨by rfl,fun w h=>by simp [execOp,go_sem,h.2]⟩);simp only [Act.put,lsA,lsS,lsZ]
 refine bV 1 (some 11) 155 [.slice ao L i] (J1) ?_;rintro e w4 ⟨vp,cp,rfl,aS,_,k4⟩;have A:w4.cell? ⟨bP,0,none⟩=some (.slice ao L i)/\w4.cell? ⟨bQ,0,none⟩=some (.slice bo M d):=⟨k4.cellN hS.1,k4.cellN hS.2⟩
 refine .inl ⟨_,rfl,A,?_⟩;simp only [Act.put,lsA,lsS,lsZ];refine bV 3 (some 13) 155 [.slice bo M d] (J2.out w4 (KD.trans k4)) ?_;rintro e w5 ⟨vq,cq,rfl,aU,_,k5⟩;have D:w5.cell? ⟨bP,0,none⟩=some (.slice ao L i)/\w5.cell? ⟨bQ,0,none⟩=some (.slice bo M d):=⟨k5.cellN A.1,k5.cellN A.2⟩
 refine .inl ⟨_,rfl,D,?_⟩;simp only [Act.put,lsA,lsS,lsZ];refine aT 4 (some 4) (.slice vp np cp) D ?_;simp only [Act.put,lsA,lsS,lsZ];refine aT 5 (some 5) (.slice vq nq cq) D ?_;simp only [Act.put,lsA,lsS,lsZ];refine wpAnyH_done (by kernel_rfl) ?_ _;have G:=aa ((KD.trans k4).trans k5);have J:=aa (aS.grew k5);have R:=aa aU;have J5:=q.out w5 vp cp vq cq J.out R.out;clear J1 J2 KD k4 k5 aS aU hS A D q b0 b1;go_wp2_with fail;refine J5.mono ?_;rintro e6 w6 ⟨vm,cm,rfl,aQ,k6⟩;have J6:=JN.out w6 vm cm aQ;clear J5 aQ JN;go_wp2_with fail;refine J6.mono ?_;rintro e6 w7 ⟨vn,cn,rfl,am,aJ,k7⟩;have H:=aa (G.out.trans (k6.trans k7))
 have aw:=aa (J.out.grew (k6.trans k7));have ay:=aa (R.out.grew (k6.trans k7));have au:=aa am;have a3:=aa (aJ.after (G.out.trans k6));have J7:=l.out w7 vn cn am;have c7:=H.out.cellN b2;clear J6 am aJ k6 k7 G J R l;go_wp2_with fail;refine J7.mono ?_;rintro e6 w8 ⟨rfl,k8⟩;have aq:=aa (H.out.trans k8);have N:=aa (aw.out.grew k8);have U:=aa (ay.out.grew k8);have av:=aa (au.out.grew k8);clear J7 k8 H aw ay au;go_wp2_with fail;refine (hR _).mono ?_;rintro e6 w9 ⟨rfl,rfl⟩;have J9:=JI.out w9 vq cq vp cp U.out N.out;clear hR JI;go_wp2_with fail;refine J9.mono ?_;rintro e6 ap ⟨vi,ci,T,rfl,HT,s,t⟩
 have p:=aa (aq.out.trans t);have I:=aa (N.out.grew t);have O:=aa (U.out.grew t);have aW:=aa (av.out.grew t);have aV:=aa s;have m:Kept af ap ap.drew:=(aj af ap).drew;have aX:=p.out.cellN b2;clear J9 s t aq N U av c7;go_wp2_with fail;refine wp_region_held_drew (S:=fun w'=>w'.cell? ⟨bE,0,none⟩=some (.int .u64 (e:Int))) (by kernel_rfl) aX (fun hS=>?_);refine aT 0 (some 26) (.int .u64 (e:Int)) hS ?_ (y:=.inl ⟨by rfl,fun w h=>by simp [execOp,go_sem,h]⟩);simp only [Act.put,lsA,lsS,lsZ];refine aT 1 (some 27) (.slice vp np cp) hS ?_;simp only [Act.put,lsA,lsS,lsZ];refine aT 2 (some 28) (.slice vq nq cq) hS ?_
 simp only [Act.put,lsA,lsS,lsZ];refine bV 3 (some 29) 161 [.slice vp np cp,.slice vq nq cq] (V.out _ vp cp vq cq (I.out.grew m) (O.out.grew m)) ?_;rintro e6 a2 ⟨vc,cc,rfl,al,aR⟩;have f:=aR.cellN hS;refine .inl ⟨_,rfl,f,?_⟩;simp only [Act.put,lsA,lsS,lsZ];refine aT 4 (some 30) (.slice vc nc cc) f ?_;simp only [Act.put,lsA,lsS,lsZ];refine aT 5 (some 31) (.int .i64 0) f ?_;simp only [Act.put,lsA,lsS,lsZ];refine bV 6 (some 32) 160 [.slice vc nc cc,.int .i64 0] (aZ vc nc cc a2) ?_;rintro e6 a4 ⟨rfl,an⟩;subst an;refine .inl ⟨_,rfl,f,?_⟩;simp only [Act.put,lsA,lsS,lsZ]
 refine bV 7 (some 33) 159 [.int .u64 (e:Int),.slice vc nc cc] (JX.out _ vc cc al) ?_;rintro e6 a5 ⟨rfl,a1⟩;exact .inr ⟨_,rfl,rfl,.no hN ((p.out.trans (m.trans aR)).trans a1)⟩

end Go.Proofs.YtkaojflnghfmcaaGreatDoor
