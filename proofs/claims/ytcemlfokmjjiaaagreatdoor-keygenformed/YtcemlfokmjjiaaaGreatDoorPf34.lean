/- Put together of: Kex4 Kex5. -/
import Derived.Test.YtcemlfokmjjiaaaGreatDoorPf33

namespace Go.Proofs.YtcemlfokmjjiaaaGreatDoor
set_option maxRecDepth 100000
set_option maxHeartbeats 4000000
open Go.RowKit

theorem xu {C e T:Nat} (h2:2≤C) (h3:3≤e) (hT:T<e) (hi:C*T%e=1):(1+C*(e-T))/e<C∧e*((1+C*(e-T))/e)%C=1:=by
 have h0:1≤T:=by
  rcases Nat.eq_zero_or_pos T with h | h
  ·subst h;rw [Nat.mul_zero,Nat.zero_mod] at hi;exact absurd hi (by decide)
  ·exact h
 have hs:C*(e-T)=C*e-C*T:=Nat.mul_sub ..;have c:C*T≤C*e:=Nat.mul_le_mul_left _ (by omega);have b:=Nat.div_add_mod (C*T) e;rw [hi] at b;have hq:C*T/e<C:=by
  rw [Nat.div_lt_iff_lt_mul (by omega)];exact Nat.mul_lt_mul_of_pos_left hT (by omega)
 have a:1+C*(e-T)=e*(C-C*T/e):=by
  rw [hs,Nat.mul_sub,Nat.mul_comm e C];omega
 have hd:(1+C*(e-T))/e=C-C*T/e:=by rw [a,Nat.mul_div_cancel_left _ (by omega)]
 have hC:C*1≤C*T:=Nat.mul_le_mul_left _ h0;rw [hd];refine ⟨?_,?_⟩
 ·have hp:0<C*T/e:=by
   rcases Nat.eq_zero_or_pos (C*T/e) with h | h
   ·rw [h] at b;omega
   ·exact h
  omega
 ·rw [← a,Nat.add_mul_mod_self_left,al (by omega)]

theorem iO {e:Nat} (h0:e≠0) (he:e<18446744073709551616):aj e=1:=by
 have h1:=(am e 1).2 (by rw [Nat.pow_one];exact he);have h2:¬ aj e≤0:=fun h=>by
  have:=(am e 0).1 h;rw [Nat.pow_zero] at this;omega
 omega

theorem yy (co:Option Addr) (L cap:Nat) (cs:List Nat) (C e:Nat) (hC:C=val cs) (h3:3≤e) (c:e%2=1) (a:e<18446744073709551616) (hL:L≤299) (hg:Nat.gcd C e≠1) (w:World) (hu:Row .u64 w (.slice co L cap) cs) (hd:Digs cs) :
  Calls Tryz.prog 54 #[.int .u64 (e:Nat),.slice co L cap] w fun r w'=>r=.panicked [refusal 190]∧Kept af w w':=by
 obtain ⟨_,_,_,e1,hl,-,-,-,-⟩:=hu.open;cases e1
 have b:aj e=1:=iO (by omega) a;have JW:=kQ e a w;have J1:Hid (∀ W zo zc,Kept af w W→Row .u64 W (.slice zo 1 zc) [e]→Calls Tryz.prog 53 #[.slice co L cap,.slice zo 1 zc] W fun r w'=>r=.panicked [refusal 190]∧Kept af W w'):=fun W zo zc k hr=>pF co zo L 1 cap zc cs [e] C e hC (dL e).symm (by omega) c b.symm (by omega) (by omega) hg W (hu.grew k) hr hd (Digs.one a)
 clear hu hd hl hC h3 c a hL hg b;go_enter Tryz.func54,Tryz.ntmps54;go_wp2_with fail;refine JW.mono ?_;rintro r w1 ⟨zo,zc,rfl,hr,k1⟩;have J2:=J1.out w1 zo zc k1 hr;clear JW hr;go_wp2_with fail;refine J2.mono ?_;rintro r w2 ⟨rfl,k2⟩;exact ⟨rfl,rfl,k1.trans k2⟩

theorem uh (bP bQ bO:Nat) (ao bo:Option Addr) (L M cap a:Nat) (xs ys:List Nat) (P Q:Nat) (hP:P=val xs) (hQ:Q=val ys) (c:P<2∨Q<2) (w:World) (hu:Row .u64 w (.slice ao L cap) xs) (hv:Row .u64 w (.slice bo M a) ys) (f:Digs xs) (d:Digs ys) (b0:w.cell? ⟨bP,0,none⟩=some (.slice ao L cap)) (b1:w.cell? ⟨bQ,0,none⟩=some (.slice bo M a)) :
  Calls Tryz.prog 105 #[.pointer (some ⟨bP,0,none⟩),.pointer (some ⟨bQ,0,none⟩),.pointer (some ⟨bO,0,none⟩)] w fun e w'=>e=.panicked [refusal 1]∧Kept af w w':=by
 have hY:=cf 1;have JP:=jg ao L cap xs 2 (by omega) (decide (P<2)) (by rw [hP]) w hu f;have JQ:Hid (∀ W,Kept af w W→Calls Tryz.prog 92 #[.slice bo M a,.int .u64 2] W fun e w'=>e=.returned (.bool (decide (Q<2)))∧Kept af W w'):=fun W k=>jg bo M a ys 2 (by omega) (decide (Q<2)) (by rw [hQ]) W (hv.grew k) d
 clear hu hv f d hP hQ;by_cases h1:P<2
 ·rw [aT h1] at JP;clear c h1 JQ;go_enter Tryz.func105,Tryz.ntmps105;go_wp2_with fail;refine JP.mono ?_;rintro e w1 ⟨rfl,k1⟩;have b:=aa k1;clear JP k1;go_wp2_with fail;refine (hY _).mono ?_;rintro e w2 ⟨rfl,rfl⟩;exact ⟨rfl,rfl,b.out⟩
 ·rw [aC h1] at JP;rw [aT (c.resolve_left h1)] at JQ;clear c h1;go_enter Tryz.func105,Tryz.ntmps105;go_wp2_with fail;refine JP.mono ?_;rintro e w1 ⟨rfl,k1⟩;have b:=aa k1;have b2:=k1.cellN b1;have J2:=JQ.out _ k1;clear JP k1 b1 b0;go_wp2_with fail;refine J2.mono ?_;rintro e w2 ⟨rfl,k2⟩;have g:=aa (b.out.trans k2);clear J2 k2 b2;go_wp2_with fail;refine (hY _).mono ?_;rintro e w3 ⟨rfl,rfl⟩;exact ⟨rfl,rfl,g.out⟩

theorem jK {P Q L M:Nat} (hP:P<18446744073709551616^L) (hQ:Q<18446744073709551616^M) (b:2≤P) (a:2≤Q):bZ P Q<18446744073709551616^(L+M):=by
 unfold bZ;rw [Nat.pow_add];have h1:(P-1)/Nat.gcd (P-1) (Q-1)≤P-1:=Nat.div_le_self _ _;exact Nat.mul_lt_mul_of_lt_of_lt (by omega) (by omega)

theorem BG (bP bQ bO:Nat) (ao bo:Option Addr) (L M cap a:Nat) (xs ys:List Nat) (P Q C n:Nat) (hP:P=val xs) (hQ:Q=val ys) (O:2≤P) (I:2≤Q) (hC:C=bZ P Q) (hn:n=aj C) (hL:L≤130) (hM:M≤130) (w:World) (hu:Row .u64 w (.slice ao L cap) xs) (hv:Row .u64 w (.slice bo M a) ys) (p:Digs xs) (q:Digs ys) (b0:w.cell? ⟨bP,0,none⟩=some (.slice ao L cap)) (b1:w.cell? ⟨bQ,0,none⟩=some (.slice bo M a)) (b2:Box w bO (.slice none 0 0) 32) :
  Calls Tryz.prog 105 #[.pointer (some ⟨bP,0,none⟩),.pointer (some ⟨bQ,0,none⟩),.pointer (some ⟨bO,0,none⟩)] w fun e w'=>e=.returned (.tuple #[])∧∃ vo vc,Row .u64 w' (.slice vo n vc) (digs C n)∧Fresh w (.slice vo n vc)∧Box w' bO (.slice vo n vc) 32∧Kept (fun b=>b=bO) w w':=by
 obtain ⟨_,_,_,e1,r,-,-,-,-⟩:=hu.open;cases e1
 obtain ⟨_,_,_,e1,E,-,-,-,-⟩:=hv.open;cases e1
 have hR:=fun z=>bd z
 have J:P<18446744073709551616^L:=by rw [hP,← r.out];exact aq (by omega) p
 have U:Q<18446744073709551616^M:=by rw [hQ,← E.out];exact aq (by omega) q
 have t:C<18446744073709551616^(L+M):=by rw [hC];exact jK J U O I
 have az:n≤L+M:=by rw [hn];exact (am _ _).2 t
 have JP:=jg ao L cap xs 2 (by omega) false (by symm;exact aC (by omega)) w hu p;have JQ:Hid (∀ W,Kept af w W→Calls Tryz.prog 92 #[.slice bo M a,.int .u64 2] W fun e w'=>e=.returned (.bool false)∧Kept af W w'):=fun W k=>jg bo M a ys 2 (by omega) false (by symm;exact aC (by omega)) W (hv.grew k) q
 have JA:Hid (∀ W,Kept af w W→Calls Tryz.prog 59 #[.slice ao L cap] W fun e w'=>∃ vo vc,e=.returned (.slice vo L vc)∧Row .u64 w' (.slice vo L vc) (digs (P-1) L)∧Kept af W w'):=fun W k=>qj ao L cap xs P hP (by omega) r.out (by omega) W (hu.grew k) p
 have JB:Hid (∀ W,Kept af w W→Calls Tryz.prog 59 #[.slice bo M a] W fun e w'=>∃ vo vc,e=.returned (.slice vo M vc)∧Row .u64 w' (.slice vo M vc) (digs (Q-1) M)∧Kept af W w'):=fun W k=>qj bo M a ys Q hQ (by omega) E.out (by omega) W (hv.grew k) q
 have vA:val (digs (P-1) L)=P-1:=by rw [ak,al (by omega)]
 have vB:val (digs (Q-1) M)=Q-1:=by rw [ak,al (by omega)]
 obtain ⟨G,hG⟩:∃ G,G=Nat.gcd (P-1) (Q-1):=⟨_,rfl⟩
 have N:0<G:=by rw [hG];exact Nat.gcd_pos_of_pos_left _ (by omega)
 have X:G<18446744073709551616^max L M:=by
  have h1:G≤P-1:=by rw [hG];exact Nat.gcd_le_left _ (by omega)
  have h2:18446744073709551616^L≤18446744073709551616^max L M:=Nat.pow_le_pow_right (by omega) (by omega);omega
 have vG:val (digs G (max L M))=G:=by rw [ak,al X]
 have JD:Hid (∀ W va vb ca cb,Row .u64 W (.slice va L ca) (digs (P-1) L)→Row .u64 W (.slice vb M cb) (digs (Q-1) M)→Calls Tryz.prog 106 #[.slice va L ca,.slice vb M cb] W fun e w'=>∃ vo vc,e=.returned (.tuple #[.slice vo (max L M) vc,.int .i64 0])∧Row .u64 w' (.slice vo (max L M) vc) (digs G (max L M))∧Kept af W w'):=fun W va vb ca cb h1 h2=>by
  refine (kf va vb L M ca cb _ _ 0 (by rw [if_pos];unfold gC;simp;omega) _ (by rw [if_pos rfl]) W h1 h2 (ah (by omega) _ _) (ah (by omega) _ _)).mono ?_;rintro e w' ⟨v',rfl,hr,k⟩;rw [vA,vB,← hG] at hr;obtain ⟨vo,vn,vc,rfl,hl,_,_,_,_⟩:=hr.open;obtain rfl:max L M=vn:=by rw [← hl.out,ag]
  exact ⟨_,_,rfl,hr,k⟩
 have S:Hid (∀ W va ca vg cg,Row .u64 W (.slice va L ca) (digs (P-1) L)→Row .u64 W (.slice vg (max L M) cg) (digs G (max L M))→Calls Tryz.prog 104 #[.slice va L ca,.slice vg (max L M) cg] W fun e w'=>∃ vo vc,e=.returned (.slice vo L vc)∧Row .u64 w' (.slice vo L vc) (digs ((P-1)/G) L)∧Kept af W w'):=fun W va ca vg cg h1 h2=>BT va vg L (max L M) ca cg _ _ (P-1) G vA.symm vG.symm N (by omega) (by omega) W h1 h2 (ah (by omega) _ _) (ah (by omega) _ _)
 have hq:(P-1)/G<18446744073709551616^L:=Nat.lt_of_le_of_lt (Nat.div_le_self _ _) (by omega);have vQ:val (digs ((P-1)/G) L)=(P-1)/G:=by rw [ak,al hq]
 have ae:(P-1)/G*(Q-1)=C:=by rw [hC,bZ,hG]
 have j:Hid (∀ W va ca vb cb,Row .u64 W (.slice va L ca) (digs ((P-1)/G) L)→Row .u64 W (.slice vb M cb) (digs (Q-1) M)→Calls Tryz.prog 50 #[.pointer none,.slice va L ca,.slice vb M cb] W fun e w'=>∃ vo vc,e=.returned (.slice vo (L+M) vc)∧Row .u64 w' (.slice vo (L+M) vc) (digs C (L+M))∧Kept af W w'):=fun W va ca vb cb h1 h2=>by
  refine (uH va vb L M ca cb _ _ W h1 h2 (ah (by omega) _ _) (ah (by omega) _ _)).mono ?_;rintro e w' ⟨v',rfl,hr,k⟩;rw [vQ,vB] at hr;unfold fF at hr;rw [if_pos (by omega),ae] at hr;obtain ⟨vo,vn,vc,rfl,hl,_,_,_,_⟩:=hr.open;obtain rfl:L+M=vn:=by rw [← hl.out,ag]
  exact ⟨_,_,rfl,hr,k⟩
 have JN:Hid (∀ W v c,Row .u64 W (.slice v (L+M) c) (digs C (L+M))→Calls Tryz.prog 49 #[.slice v (L+M) c] W fun e w'=>∃ vo vc,e=.returned (.slice vo n vc)∧Row .u64 w' (.slice vo n vc) (digs C n)∧Fresh W (.slice vo n vc)∧Kept af W w'):=fun W v c h=>li v (L+M) c _ C n (by rw [ak,al t]) hn (by omega) W h (ah (by omega) _ _) (by rw [ag];omega)
 have D:max (L:Int) (M:Int)=((max L M:Nat):Int):=by omega
 have g1:¬ ((max L M:Nat):Int) > 130:=by omega
 have Z:¬ (130:Int)<((max L M:Nat):Int):=by omega
 have d1:decide ((130:Int)<((max L M:Nat):Int))=false:=aC Z;have hS:=fun v n c W=>ix v n c W
 have an:=aa b2;have aB:max L M≤130:=by omega
 generalize max L M=m at *;clear hu hv p q hP hQ O I hC hn J U t az hG N X vA vB vG hq vQ ae r E b2;go_enter Tryz.func105,Tryz.ntmps105;go_wp2_with fail;refine JP.mono ?_;rintro e w1 ⟨rfl,k1⟩;have ab:=aa k1;have c0:=k1.cellN b0;have c1:=k1.cellN b1;have J2:=JQ.out _ k1;clear JP k1 b1 b0 JQ;go_wp2_with fail;refine J2.mono ?_;rintro e w2 ⟨rfl,k2⟩;have o:=aa (ab.out.trans k2);have e0:=k2.cellN c0;have e1:=k2.cellN c1;clear J2 k2 c0 c1 ab;go_wp2_with fail;refine (hR _ _).mono ?_;rintro e w3 ⟨rfl,rfl⟩;go_wp2_with fail;try rw [d1]
 refine (hR _ _).mono ?_;rintro e w3 ⟨rfl,rfl⟩;clear hR g1 Z d1 D;have HC:Hid (∀ W,Kept af w3 W→W.cell? ⟨bP,0,none⟩=some (.slice ao L cap)∧W.cell? ⟨bQ,0,none⟩=some (.slice bo M a)):=fun W k=>⟨k.cellN e0,k.cellN e1⟩
 go_wp2_with fail;have KD:Kept af w3 w3.drew:=(ai af w3).drew;have ap:=JA.out _ (o.out.trans KD);go_region_held3 (fun w'=>w'.cell? ⟨bP,0,none⟩=some (.slice ao L cap)∧w'.cell? ⟨bQ,0,none⟩=some (.slice bo M a))
  (((try dsimp only);(repeat' apply And.intro) <;> first | (go_keep;done) | assumption))
  (first
  | (go_at_call 59;refine (JB.out _ (o.out.trans g)).mono ?_;rintro e w5 ⟨vb,cb,rfl,au,k5⟩;obtain ⟨A,x⟩:=HC.out _ (g.trans k5))
  | (go_at_call 59;refine ap.mono ?_;rintro e w4 ⟨va,ca,rfl,Y,k4⟩;have g:=KD.trans k4;obtain ⟨aw,ax⟩:=HC.out _ g))
 have y:=aa (Y.grew k5);have F:=aa au;have ay:=aa (o.out.trans (g.trans k5));have J5:=JD.out w5 va vb ca cb y.out F.out;clear ap JA JB KD g k4 k5 Y au HC aw ax A x e0 e1 JD o;go_wp2_with fail;refine J5.mono ?_;rintro e w6 ⟨vg,cg,rfl,R,k6⟩;have J6:=hS vg m cg w6;have T:=aa R;have aA:=aa (ay.out.trans k6);have f:=aa (y.out.grew k6);have d:=aa (F.out.grew k6);clear J5 R k6 y F;go_wp2_with fail;refine J6.mono ?_;rintro e w7 ⟨rfl,rfl⟩;have J7:=S.out w7 va ca vg cg f.out T.out;clear J6 hS;go_wp2_with fail;refine J7.mono ?_;rintro e w8 ⟨vq,cq,rfl,ac,k8⟩;have J8:=j.out w8 vq cq vb cb ac (d.out.grew k8)
 have av:=aa (aA.out.trans k8);clear J7 ac k8 f d T S;go_wp2_with fail;refine J8.mono ?_;rintro e w9 ⟨vm,cm,rfl,ad,k9⟩;have J9:=JN.out w9 vm cm ad;have H:=aa (av.out.trans k9);clear J8 ad k9 j;go_wp2_with fail;refine J9.mono ?_;rintro e B ⟨vo,vc,rfl,l,i,V⟩;have kk:=H.out.trans V;have hx:=an.out.grew kk;have cx:=hx.cell;have fx:=hx.free;have s:Fresh w (.slice vo n vc):=i.after H.out;have HR:=aa (l.kept (ar B bO (.slice vo n vc)) (fun b hb e=>by have h1:=s b hb;have h2:=an.out.lt;omega));have HX:=aa (hx.set (.slice vo n vc));have HF:=aa s
 have HK:Hid (Kept (fun b=>b=bO) w (B.setCell ⟨bO,0,none⟩ (.slice vo n vc))):=kk.any.trans (ar B bO _);clear J9 l i V kk hx s JN;go_wp2_with fail;go_end0
 exact ⟨rfl,vo,vc,HR.out,HF.out,HX.out,HK.out⟩

theorem BW (ao bo:Option Addr) (L M cap d:Nat) (xs ys:List Nat) (P Q E:Nat) (RL:List Nat) (hP:P=val xs) (hQ:Q=val ys) (hL:L≤130) (hM:M≤130) (hE:(E=0∧2≤P∧2≤Q)∨(E=1∧(P<2∨Q<2))) (f:RL=if E=0 then digs (bZ P Q) (aj (bZ P Q)) else []) (w:World) (hu:Row .u64 w (.slice ao L cap) xs) (hv:Row .u64 w (.slice bo M d) ys) (i:Digs xs) (h:Digs ys) :
  Calls Tryz.prog 56 #[.slice ao L cap,.slice bo M d] w fun e w'=>∃ v',e=.returned (.tuple #[v',.int .i64 (E:Nat)])∧Row .u64 w' v' RL∧Fresh w v'∧Kept af w w':=by
 have q:=eR;have a:=lQ w (.slice ao L cap) (.slice bo M d) (.slice none 0 0) 32 32 32;have he:∀ args w,(callFunc 105 args).run Tryz.prog w=.ok (.enter 105 args) w:=fun _ _=>by simp [go_sem]
 obtain ⟨W,hW⟩:∃ W,W=((w.alloc (.cells #[.slice ao L cap] 32)).alloc (.cells #[.slice bo M d] 32)).alloc (.cells #[.slice none 0 0] 32):=⟨_,rfl⟩
 rw [← hW] at a;obtain ⟨k0,x1,x2,x3,hs⟩:=a;have k1:=k0.alloc (.cells #[.int .i64 0] 33);have xe:Box (W.alloc (.cells #[.int .i64 0] 33)) W.heap.size (.int .i64 0) 33:=Box.new W (.int .i64 0) 33;have m:(W.alloc (.cells #[.int .i64 0] 33)).heap.size=W.heap.size+1:=by simp
 have l:Calls Tryz.prog 46 #[.func (.func 105) #[] #[.pointer (some ⟨w.heap.size,0,none⟩),.pointer (some ⟨w.heap.size+1,0,none⟩),.pointer (some ⟨w.heap.size+1+1,0,none⟩)]] W fun e w'=>∃ n w1,e=.returned (.int .i64 n)∧((n=(E:Nat)∧∃ vo vn vc,Row .u64 w1 (.slice vo vn vc) RL∧(∀ b,(Value.slice vo vn vc).ownBlock=some b→W.heap.size+1≤b)∧Box w1 (w.heap.size+1+1) (.slice vo vn vc) 32∧Kept af w w1)∧w1.heap[W.heap.size]? = some (.cells #[.int .i64 0] 33 (0,0)))∧w'=w1.setCell ⟨W.heap.size,0,none⟩ (.int .i64 n):=by
  rcases hE with ⟨rfl,h2,h3⟩ | ⟨rfl,hno⟩
  ·rw [if_pos rfl] at f;subst f;refine iF _ _ W (fun n W'=>n=((0:Nat):Int)∧∃ vo vn vc,Row .u64 W' (.slice vo vn vc) (digs (bZ P Q) (aj (bZ P Q)))∧(∀ b,(Value.slice vo vn vc).ownBlock=some b→W.heap.size+1≤b)∧Box W' (w.heap.size+1+1) (.slice vo vn vc) 32∧Kept af w W') he ((BG _ _ _ ao bo L M cap d xs ys P Q _ _ hP hQ h2 h3 rfl rfl hL hM _ (hu.grew k1) (hv.grew k1) i h (x1.alloc _).cell (x2.alloc _).cell (x3.alloc _)).mono ?_);rintro e w' ⟨rfl,vo,vc,hr,hf,hb,hk⟩;refine ⟨xe.kept hk (by omega),.inl ⟨rfl,rfl,vo,_,vc,hr,fun b p=>?_,hb,k1.next hk (fun x hx e=>by omega)⟩⟩;have:=hf b p;omega
  ·rw [if_neg (by decide)] at f;subst f;refine iF _ _ W (fun n W'=>n=((1:Nat):Int)∧∃ vo vn vc,Row .u64 W' (.slice vo vn vc) []∧(∀ b,(Value.slice vo vn vc).ownBlock=some b→W.heap.size+1≤b)∧Box W' (w.heap.size+1+1) (.slice vo vn vc) 32∧Kept af w W') he ((uh _ _ _ ao bo L M cap d xs ys P Q hP hQ hno _ (hu.grew k1) (hv.grew k1) i h (x1.alloc _).cell (x2.alloc _).cell).mono ?_);rintro e w' ⟨rfl,hk⟩;exact ⟨xe.grew hk,.inr ⟨_,rfl,rfl,none,0,0,Row.nil _ _,(fun b hb=>by cases hb),(x3.alloc _).grew hk,k1.trans hk⟩⟩
 have HW:=aa hW;have g:=aa hs;clear hu hv i h hP hQ hL hM hE f k0 k1 x1 x2 x3 xe hs m hW he;go_enter Tryz.func56,Tryz.ntmps56;go_wp2_with (rw [← HW.out]);refine l.mono ?_;rintro e w' ⟨n,w1,rfl,⟨⟨rfl,vo,vn,vc,hr,c,hb,hk⟩,o⟩,rfl⟩;have a:=hb.other ⟨W.heap.size,0,none⟩ (by show _≠W.heap.size;have:=g.out;omega) (.int .i64 (E:Nat));have c1:=a.cell;have f1:=a.free;have c3:=(a.set (.slice vo vn vc)).cell;have k:Kept (fun b=>b=W.heap.size∨b=w.heap.size+1+1) w1 (w1.setCell ⟨W.heap.size,0,none⟩ (.int .i64 (E:Nat))):=(ar w1 W.heap.size _).mono (fun _ _ e=>.inl e);have j:=k.next (ar _ (w.heap.size+1+1) (.slice vo vn vc)) (fun _ _ e=>.inr e)
 have HK:=aa (hk.next j (fun x hx e=>by have:=g.out;omega));have HR:=aa (hr.kept j (fun b hb e=>by have h1:=c b hb;have:=g.out;omega));have HF:Hid (Fresh w (.slice vo vn vc)):=fun b hb=>by have h1:=c b hb;have:=g.out;omega
 clear l hr c hb hk o a k j;generalize w1.setCell ⟨W.heap.size,0,none⟩ (.int .i64 (E:Nat))=W2 at *;go_wp2_with fail;refine bodyPost_ret (v:=.tuple #[.slice vo vn vc,.int .i64 (E:Nat)]) (by simp [results,Tryz.results56,go_sem,c3]) rfl ?_;exact ⟨_,rfl,HR.out,HF.out,HK.out⟩

theorem CN (co:Option Addr) (L cap:Nat) (cs:List Nat) (C e:Nat) (hC:C=val cs) (h2:2≤C) (h3:3≤e) (s:e%2=1) (g:e<18446744073709551616) (hL:L≤299) (hg:Nat.gcd C e=1) (w:World) (hu:Row .u64 w (.slice co L cap) cs) (hd:Digs cs) :
  Calls Tryz.prog 54 #[.int .u64 (e:Nat),.slice co L cap] w fun r w'=>∃ vo vc d,r=.returned (.slice vo (L+1) vc)∧Hid (d<C∧e*d%C=1)∧Row .u64 w' (.slice vo (L+1) vc) (digs d (L+1))∧Kept af w w':=by
 obtain ⟨_,_,_,e1,hl,-,-,-,-⟩:=hu.open;cases e1
 have p:aj e=1:=iO (by omega) g;have JW:=kQ e g w;obtain ⟨i0,R,N,X,U⟩:=info_parts Tryz.info23;have ae:1≤L:=by
  rcases Nat.eq_zero_or_pos L with h | h
  ·have h5:=hl.out;rw [h] at h5;rw [List.length_eq_zero_iff.1 h5] at hC;have:val []=0:=rfl;omega
  ·exact h
 have v:C<18446744073709551616^L:=by rw [hC,← hl.out];exact aq (by omega) hd
 have J1:Hid (∀ W zo zc,Kept af w W→Row .u64 W (.slice zo 1 zc) [e]→Calls Tryz.prog 53 #[.slice co L cap,.slice zo 1 zc] W fun r w'=>∃ vo vc T,r=.returned (.slice vo 1 vc)∧Hid (T<e∧C*T%e=1)∧Row .u64 w' (.slice vo 1 vc) (digs T 1)∧Kept af W w'):=fun W zo zc k hr=>AU co zo L 1 cap zc cs [e] C e hC (dL e).symm (by omega) s p.symm (by omega) (by omega) hg W (hu.grew k) hr hd (Digs.one g)
 have JM:Hid (∀ W zo zc S,S<18446744073709551616→Kept af w W→Row .u64 W (.slice zo 1 zc) [1]→Calls Tryz.prog 103 #[.pointer none,.slice co L cap,.int .u64 (S:Nat),.slice zo 1 zc] W fun r w'=>∃ vo vc,r=.returned (.tuple #[.slice vo L vc,.int .u64 (((1+C*S)/18446744073709551616^L:Nat):Int)])∧OwnN .u64 23 w' W.heap.size (.slice vo L vc) L (digs (1+C*S) L)∧Kept af W w'):=fun W zo zc S hS k hr=>by
  have hm:max L 1=L:=by omega
  have h:=qM none co zo L 1 cap zc cs [1] S hS ((1+C*S)/18446744073709551616^L) (by rw [dL,← hC];unfold pS;rw [if_pos (by omega),hm]) W (TrRoom.none W 300 (by omega)) (RowT.none (hu.grew k)) (RowT.none hr) hd (Digs.one (by omega));rw [dL,← hC,hm] at h;refine h.mono ?_;rintro r w' ⟨v',rfl,_,ho,o',m⟩;have ho:=ho (by omega);obtain ⟨vo,vc,rfl⟩:=bh ho;exact ⟨vo,vc,rfl,ho,m.none.2⟩
 have JQ:Hid (∀ W S vo vc zo zc,S<e→Row .u64 W (.slice vo (L+1) vc) (digs (1+C*S) L ++ [(1+C*S)/18446744073709551616^L])→Row .u64 W (.slice zo 1 zc) [e]→Calls Tryz.prog 104 #[.slice vo (L+1) vc,.slice zo 1 zc] W fun r w'=>∃ qo qc,r=.returned (.slice qo (L+1) qc)∧Row .u64 w' (.slice qo (L+1) qc) (digs ((1+C*S)/e) (L+1))∧Kept af W w'):=fun W S vo vc zo zc hS h1 h4=>by
  have hlt:1+C*S<18446744073709551616^L*18446744073709551616:=by
   have a1:C*S+1≤C*e:=by
    have:=Nat.mul_le_mul_left C (show S+1≤e by omega);rw [Nat.mul_add,Nat.mul_one] at this;omega
   have a2:C*e<18446744073709551616^L*18446744073709551616:=Nat.mul_lt_mul_of_lt_of_lt v g;omega
  have hc:(1+C*S)/18446744073709551616^L<18446744073709551616:=Nat.div_lt_of_lt_mul hlt;refine BT vo zo (L+1) 1 vc zc (digs (1+C*S) L ++ [(1+C*S)/18446744073709551616^L]) [e] (1+C*S) e ?_ (dL e).symm (by omega) (by omega) (by omega) W h1 h4 ((ah (by omega) _ _).append (Digs.one hc)) (Digs.one g);rw [aS,ak,ag,Nat.mod_add_div]
 have JE:=fun W=>kQ e g W
 have J0:=fun W=>kQ 1 (by omega) W
 have HN:Hid (∀ T,T<e→C*T%e=1→(1+C*(e-T))/e<C∧e*((1+C*(e-T))/e)%C=1):=fun T h h'=>xu h2 h3 h h'
 clear hu hd hl hC h2 s hg p v;go_enter Tryz.func54,Tryz.ntmps54;go_wp2_with fail;refine JW.mono ?_;rintro r w1 ⟨zo,zc,rfl,hr,k1⟩;have J2:=J1.out w1 zo zc k1 hr;clear JW hr J1;go_wp2_with fail;refine J2.mono ?_;rintro r w2 ⟨ad,tc,T,rfl,HT,n,k2⟩;have ac:=HT.out.1;rw [jn (by omega)] at n;obtain ⟨_,_,_,e1,_,_,_,_,j⟩:=n.open;cases e1
 obtain ⟨b,off,rfl,c0⟩:=j 0 (by omega);have M:w2.cell? ⟨b,off,none⟩=some (.int .u64 (T:Nat)):=c0;obtain ⟨S,hS⟩:∃ S,S=e-T:=⟨_,rfl⟩
 have E:Hid (S<e):=by
  unfold Hid;rcases Nat.eq_zero_or_pos T with h | h
  ·have h9:=HT.out.2;subst h;rw [Nat.mul_zero,Nat.zero_mod] at h9;exact absurd h9 (by decide)
  ·omega
 have HF:Hid ((1+C*S)/e<C∧e*((1+C*S)/e)%C=1):=by rw [hS];exact HN.out T ac HT.out.2
 have Y:=aa (k1.trans k2);have gs:IntKind.u64.wrap ((e:Int)-(T:Int))=(S:Int):=by rw [IntKind.wrap_u64];omega
 have hW:=J0 w2;have J:(T:Int)≤(e:Int):=by omega
 clear J2 n k1 k2 c0 j hS HN HT J0;go_wp2_with fail;refine hW.mono ?_;rintro r w3 ⟨yo,yc,rfl,D,k3⟩;have l:=aa (Y.out.trans k3);have J3:=JM.out w3 yo yc S (by have:=E.out;omega) l.out D;clear hW k3 D M;go_wp2_with fail;refine J3.mono ?_;rintro r w4 ⟨vo,vc,rfl,t,k4⟩;have y:=aa (l.out.trans k4);have o:=aa t;have A:Hid (w.heap.size≤w3.heap.size):=l.out.size;have z:Hid (w3.heap.size≤w4.heap.size):=k4.size;obtain ⟨c,hc⟩:∃ c,c=(1+C*S)/18446744073709551616^L:=⟨_,rfl⟩
 rw [← hc];have F:=aa hc;have q:=fun W=>JE W
 clear J3 t k4 hc JM;go_wp2_with (at_builtin;refine wpList_append_own _ rfl _ _ 32 rfl w3.heap.size 23 i0 (.int .u64 0) 1 8 Tryz.underlying32 R N X U rfl (by decide) _ _ _ rfl (World.ownsRow.alloc o.out _) ⟨w4.heap.size,0,none⟩ 1 1 [.int .u64 (c:Nat)] rfl rfl (cell_one_new _ _ _) (by intro u hu;simp at hu;subst hu;rfl) (by unfold maxLen;omega) (by omega) (by have:=z.out;simp;omega) ?_);intro v5 w5 i f _;have a:OwnN .u64 23 w5 w3.heap.size v5 (L+1) (digs (1+C*S) L ++ [c]):=by
  unfold OwnN;rw [List.map_append];exact i
 have Q:Hid (Kept af w w5):=(y.out.alloc _).grown f (fun k hk hlt=>by have h1:=(o.out.lt k hk).1;have h2:=A.out;omega);obtain ⟨G,ab,rfl⟩:=bh a;have V:=aa (aY a (by rw [List.length_append,ag];rfl));have J5:=q w5;clear i a f o y A z q;go_wp2_with fail;refine J5.mono ?_;rintro r w6 ⟨H,O,rfl,B,k6⟩;have J6:=JQ.out w6 S G ab H O E.out (by rw [← F.out];exact V.out.grew k6) B;have Z:=aa (Q.out.trans k6);clear J5 B k6;go_wp2_with fail;refine J6.mono ?_;rintro r w7 ⟨qo,qc,rfl,x,k7⟩;have I:=aa x;have P:=aa (Z.out.trans k7);clear J6 x k7;go_wp2;go_ret
 exact ⟨_,_,_,rfl,HF.out,I.out,P.out⟩

end Go.Proofs.YtcemlfokmjjiaaaGreatDoor
