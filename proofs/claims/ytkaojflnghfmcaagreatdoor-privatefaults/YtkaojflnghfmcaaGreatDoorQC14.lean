/- Put together of: Sho3 LimH Ref6o Ref7B Ref7C RinA RinB RinC RinD. -/
import Derived.Test.YtkaojflnghfmcaaGreatDoorQC13

namespace Go.Proofs.YtkaojflnghfmcaaGreatDoor
open _root_.Go.Proofs.Tryz
set_option maxRecDepth 100000
set_option maxHeartbeats 4000000
open Go.RowKit

theorem Il (ao bo xo:Option Addr) (n l K a b xc:Nat) (ms rs xs:List Nat) (w:World) (hM:Mod8 w none ao bo n l K a b ms rs) (hx:Row .u64 w (.slice xo n xc) xs) (f:Digs xs) (hlt:val xs<val ms) :
  Calls prog 65 #[.pointer none,.agg #[.slice ao n a,.int .u64 (K:Nat),.slice bo l b],.slice xo n xc] w fun e w'=>∃ zo zc,e=.returned (.tuple #[.slice zo n zc,.int .i64 0])/\MonR w' (.slice zo n zc) n (val ms) (val xs)/\Kept af w w':=by
 obtain ⟨⟨f0,f1⟩,f2,f3,f4,f5⟩:=hM.facts;refine (pt none ao bo xo n l K a b n xc 0 ms rs xs w (TrRoom.none w _ (by omega)) hM.hm hM.hr (RowT.none hx) hM.hmd hM.hrd f hM.hK (by omega) ⟨fun _=>⟨hM.ok,rfl,hlt⟩,fun _=>rfl⟩ (by omega)).mono ?_;rintro e w' ⟨v',rfl,⟨Y,hR,hG⟩,_,o',d⟩;rw [ah rfl] at hR;have c:Y=mon n (val ms) (val xs):=hG rfl;rw [c] at hR;have hA:MonR w' v' n (val ms) (val xs):=hR;obtain ⟨zo,zc,rfl⟩:=hA.shape;exact ⟨zo,zc,rfl,hA,d.none.2⟩

theorem GZ (ao bo xo:Option Addr) (n l K a b xc P:Nat) (ms rs:List Nat) (w:World) (hM:Mod8 w none ao bo n l K a b ms rs) (hx:MonR w (.slice xo n xc) n (val ms) P) :
  Calls prog 66 #[.pointer none,.agg #[.slice ao n a,.int .u64 (K:Nat),.slice bo l b],.slice xo n xc] w fun e w'=>∃ v',e=.returned (.tuple #[v',.int .i64 0])/\(Row .u64 w' v' (digs (P%val ms) n)/\U64s w' v')/\Kept af w w':=by
 obtain ⟨⟨f0,f1⟩,f2,f3,f4,f5⟩:=hM.facts;have hV:0<val ms:=by omega
 have ex:=kt (P:=P) hV f5;refine (AD none ao bo xo n l K a b n xc 0 ms rs _ w (TrRoom.none w _ (by omega)) hM.hm hM.hr (RowT.none hx) hM.hmd hM.hrd (ak (by omega) _ _) hM.hK (by omega) ⟨fun _=>⟨hM.ok,rfl,by rw [ex];exact me hV⟩,fun _=>rfl⟩ (by omega)).mono ?_;rintro e w' ⟨v',rfl,⟨Y,hR,hG⟩,⟨hF,hU⟩,o',d⟩;rw [ah rfl] at hR;have c:=hG rfl;rw [ex] at c;rw [qG f3 c.1 c.2] at hR;exact ⟨v',rfl,⟨hR,hU⟩,d.none.2⟩

theorem DA (ao bo xo eo:Option Addr) (n l K a b N1 xc L c:Nat) (ms rs xs ys:List Nat) (E:Nat)
  (hE:(E=0/\(okMod ms K rs/\(N1=n/\val xs<val ms))/\L<=300)\/(E=2/\(okMod ms K rs/\(N1=n/\val xs<val ms))/\300<L)\/(E=1/\¬ (okMod ms K rs/\(N1=n/\val xs<val ms))))
  (RL:List Nat) (g:RL=if E=0 then digs (val xs^val ys%val ms) n else []) (w:World)
  (hm:Row .u64 w (.slice ao n a) ms) (hr:Row .u64 w (.slice bo l b) rs) (hx:Row .u64 w (.slice xo N1 xc) xs) (hy:Row .u64 w (.slice eo L c) ys) (m:Digs ms) (p:Digs rs) (j:Digs xs) (r:Digs ys) (hK:K<18446744073709551616) (s:n<=300) :
  Calls prog 32 #[.agg #[.slice ao n a,.int .u64 (K:Nat),.slice bo l b],.slice xo N1 xc,.slice eo L c] w fun e w'=>∃ v',e=.returned (.tuple #[v',.int .i64 ((E:Nat):Int)])/\(Row .u64 w' v' RL/\U64s w' v')/\Kept af w w':=by
 obtain ⟨W,hW⟩:∃ W,W=w.alloc (.cells #[.slice ao n a,.int .u64 (K:Nat),.slice bo l b] 70):=⟨_,rfl⟩
 have k0:Kept af w W:=by rw [hW];exact (aj af w).alloc _
 have q:W.heap[w.heap.size]? = some (.cells #[.slice ao n a,.int .u64 (K:Nat),.slice bo l b] 70 (0,0)):=by rw [hW];exact heap_alloc_new _ _
 have JC:Hid (∀ W',Kept af W W'->W'.cell? ⟨w.heap.size,0,none⟩=some (.slice ao n a)/\W'.cell? ⟨w.heap.size,1,none⟩=some (.int .u64 (K:Nat))/\W'.cell? ⟨w.heap.size,2,none⟩=some (.slice bo l b)):=fun W' k=>aw ((k.block _ (lt_of_block q) (fun f=>f)).trans q)
 have HW:=aa hW;have t:=aa k0;obtain ⟨p0,p1,p2⟩:=JC.out _ (aj af W);by_cases hP:okMod ms K rs/\(N1=n/\val xs<val ms)
 ·obtain ⟨o,rfl,hlt⟩:=hP;have hM:Mod8 w none ao bo N1 l K a b ms rs:=⟨RowT.none hm,RowT.none hr,m,p,hK,o⟩
  have i:=Il ao bo xo N1 l K a b xc ms rs xs W (hM.grew k0) (hx.grew k0) j hlt;by_cases hL:L<=300
  ·obtain rfl:E=0:=by
    rcases hE with h | h | h
    ·exact h.1
    ·omega
    ·exact absurd ⟨o,rfl,hlt⟩ h.2
   rw [ah rfl] at g;have gL:¬ (L:Int) > 300:=by omega
   have JR:Hid (∀ W' zo zc,Kept af W W'->MonR W' (.slice zo N1 zc) N1 (val ms) (val xs)->Calls prog 67 #[.agg #[.slice ao N1 a,.int .u64 (K:Nat),.slice bo l b],.slice zo N1 zc,.slice eo L c] W' fun e w'=>∃ yo yc,e=.returned (.slice yo N1 yc)/\MonR w' (.slice yo N1 yc) N1 (val ms) (val xs^val ys)/\Kept af W w'):=fun W' zo zc k h=>by
    refine (DB ao bo zo eo N1 l K a b zc L c _ ms rs ys W' (hM.grew (k0.trans k)) h (hy.grew (k0.trans k)) r hL).mono ?_;rintro e w' ⟨yo,yc,rfl,h1,h2⟩;exact ⟨yo,yc,rfl,h1,k.trans h2⟩
   have JL:Hid (∀ W' zo zc,Kept af W W'->MonR W' (.slice zo N1 zc) N1 (val ms) (val xs^val ys)->Calls prog 66 #[.pointer none,.agg #[.slice ao N1 a,.int .u64 (K:Nat),.slice bo l b],.slice zo N1 zc] W' fun e w'=>∃ v',e=.returned (.tuple #[v',.int .i64 0])/\(Row .u64 w' v' RL/\U64s w' v')/\Kept af W w'):=fun W' zo zc k h=>by
    refine (GZ ao bo zo N1 l K a b zc _ ms rs W' (hM.grew (k0.trans k)) h).mono ?_;rintro e w' ⟨v',rfl,⟨h1,h3⟩,h2⟩;rw [<- g] at h1;exact ⟨v',rfl,⟨h1,h3⟩,k.trans h2⟩
   clear hE g hm hr hx hy m p j r hK hW k0 q o hlt hM hL s;generalize val ms=V at *;generalize val xs=X at *;generalize X^val ys=Y at *;go_enter func32,ntmps32;go_wp2_with (rw [<- HW.out]);refine i.mono ?_;rintro e w1 ⟨zo,zc,rfl,x,k1⟩;obtain ⟨q0,q1,q2⟩:=JC.out _ k1;have kd:Kept af W w1.drew:=k1.drew;have y:=x.grew (aj af w1).drew;clear i p0 p1 p2;go_wp2_with fail;go_region_held3 (fun w'=>w'.cell? ⟨w.heap.size,0,none⟩=some (.slice ao N1 a)/\w'.cell? ⟨w.heap.size,1,none⟩=some (.int .u64 (K:Int))/\w'.cell? ⟨w.heap.size,2,none⟩=some (.slice bo l b))
    (((try dsimp only);(repeat' apply And.intro) <;> first | (go_keep;done) | assumption))
    (first
    | (go_at_call 67;refine (JR.out _ zo zc kd y).mono ?_;rintro e w2 ⟨yo,yc,rfl,z,k2⟩;obtain ⟨s0,s1,s2⟩:=JC.out _ k2)
    | (go_at_call 66;refine (JL.out _ yo yc k2 z).mono ?_;rintro e w4 ⟨v4,rfl,A,k4⟩;obtain ⟨t0,t1,t2⟩:=JC.out _ k4))
   all_goals
    go_wp2_with fail;go_ret2;exact ⟨_,rfl,A,t.out.trans k4⟩
  ·obtain rfl:E=2:=by
    rcases hE with h | h | h
    ·exact absurd h.2.2 hL
    ·exact h.1
    ·exact absurd ⟨o,rfl,hlt⟩ h.2
   rw [ai (by omega)] at g;have gL:(L:Int) > 300:=by omega
   have v:=aa g;clear hE g hm hr hx hy m p j r hK hW k0 q o hlt hM hL s;go_enter func32,ntmps32;go_wp2_with (rw [<- HW.out]);refine i.mono ?_;rintro e w1 ⟨zo,zc,rfl,x,k1⟩;clear i p0 p1 p2 x;go_wp2_with fail;go_ret2;exact ⟨_,rfl,⟨by rw [v.out];exact Row.nil _ _,U64s.nil _⟩,t.out.trans k1⟩
 ·obtain rfl:E=1:=by
   rcases hE with h | h | h
   ·exact absurd h.2.1 hP
   ·exact absurd h.2.1 hP
   ·exact h.1
  rw [ai (by omega)] at g;have v:=aa g;have i:Calls prog 65 #[.pointer none,.agg #[.slice ao n a,.int .u64 (K:Nat),.slice bo l b],.slice xo N1 xc] W fun e w'=>∃ v',e=.returned (.tuple #[v',.int .i64 1])/\Kept af W w':=by
   refine (pt none ao bo xo n l K a b N1 xc 1 ms rs xs W (TrRoom.none W _ (by omega)) (RowT.none (hm.grew k0)) (RowT.none (hr.grew k0)) (RowT.none (hx.grew k0)) m p j hK s ⟨fun h=>absurd h (by omega),fun h=>absurd h hP⟩ (by omega)).mono ?_;rintro e w' ⟨v',rfl,_,_,o',d⟩;exact ⟨v',rfl,d.none.2⟩
  clear hE g hm hr hx hy m p j r hK hW k0 q hP s;go_enter func32,ntmps32;go_wp2_with (rw [<- HW.out]);refine i.mono ?_;rintro e w1 ⟨v1,rfl,k1⟩;clear i p0 p1 p2;go_wp2_with fail;go_ret2;exact ⟨_,rfl,⟨by rw [v.out];exact Row.nil _ _,U64s.nil _⟩,t.out.trans k1⟩

theorem EO:ji 1=1:=by decide

theorem H5 (ao bo xo:Option Addr) (n l K a b N1 xc d:Nat) (ms rs xs:List Nat) (E:Nat)
  (hE:E=0↔(okMod ms K rs/\(N1=n/\val xs<val ms))) (s:E<=1)
  (RL:List Nat) (i:RL=if E=0 then digs (val xs^d%val ms) n else []) (w:World)
  (hm:Row .u64 w (.slice ao n a) ms) (hr:Row .u64 w (.slice bo l b) rs) (hx:Row .u64 w (.slice xo N1 xc) xs) (m:Digs ms) (p:Digs rs) (j:Digs xs) (hd:d<18446744073709551616) (hK:K<18446744073709551616) (o:n<=300) :
  Calls prog 91 #[.agg #[.slice ao n a,.int .u64 (K:Nat),.slice bo l b],.slice xo N1 xc,.int .u64 (d:Nat)] w fun e w'=>∃ v',e=.returned (.tuple #[v',.int .i64 ((E:Nat):Int)])/\(Row .u64 w' v' RL/\U64s w' v')/\Kept af w w':=by
 obtain ⟨W,hW⟩:∃ W,W=w.alloc (.cells #[.slice ao n a,.int .u64 (K:Nat),.slice bo l b] 70):=⟨_,rfl⟩
 have k0:Kept af w W:=by rw [hW];exact (aj af w).alloc _
 have c:W.heap[w.heap.size]? = some (.cells #[.slice ao n a,.int .u64 (K:Nat),.slice bo l b] 70 (0,0)):=by rw [hW];exact heap_alloc_new _ _
 have JC:Hid (∀ W',Kept af W W'->W'.cell? ⟨w.heap.size,0,none⟩=some (.slice ao n a)/\W'.cell? ⟨w.heap.size,1,none⟩=some (.int .u64 (K:Nat))/\W'.cell? ⟨w.heap.size,2,none⟩=some (.slice bo l b)):=fun W' k=>aw ((k.block _ (lt_of_block c) (fun f=>f)).trans c)
 have JW:Hid (Calls prog 144 #[.int .u64 (d:Nat),.int .i64 1] W.drew fun r w'=>∃ zo zc,r=.returned (.slice zo 1 zc)/\Row .u64 w' (.slice zo 1 zc) [d]/\Kept af W w'):=by
  refine (Er d hd 1 W.drew).mono ?_;rintro e w' ⟨v',rfl,h1,h2⟩;rw [EO,iX d 0 hd] at h1;have g:Row .u64 w' v' [d]:=h1;obtain ⟨zo,zn,zc,rfl,hl,_⟩:=g.open;obtain rfl:zn=1:=hl.out.symm;exact ⟨zo,zc,rfl,g,(aj af W).drew.trans h2⟩
 have JQ:Hid (∀ W' zo zc,Kept af W W'->Row .u64 W' (.slice zo 1 zc) [d]->Calls prog 32 #[.agg #[.slice ao n a,.int .u64 (K:Nat),.slice bo l b],.slice xo N1 xc,.slice zo 1 zc] W' fun e w'=>∃ v',e=.returned (.tuple #[v',.int .i64 ((E:Nat):Int)])/\(Row .u64 w' v' RL/\U64s w' v')/\Kept af W w'):=fun W' zo zc k h=>by
  have kk:=k0.trans k;have hv:val [d]=d:=by simp [val]
  refine (DA ao bo xo zo n l K a b N1 xc 1 zc ms rs xs [d] E ?_ RL (by rw [hv];exact i) W' (hm.grew kk) (hr.grew kk) (hx.grew kk) h m p j (Digs.one hd) hK o).mono ?_
  ·by_cases h0:E=0
   ·exact .inl ⟨h0,hE.1 h0,by omega⟩
   ·exact .inr (.inr ⟨by omega,fun h=>h0 (hE.2 h)⟩)
  ·rintro e w' ⟨v',rfl,h1,h2⟩;exact ⟨v',rfl,h1,k.trans h2⟩
 have HW:=aa hW;have q:=aa k0;obtain ⟨p0,p1,p2⟩:=JC.out _ (aj af W);have x:=JW.out;clear hE s i hm hr hx m p j hd hK hW k0 c o;go_enter func91,ntmps91;go_wp2_with (rw [<- HW.out]);go_region_held3 (fun w'=>w'.cell? ⟨w.heap.size,0,none⟩=some (.slice ao n a)/\w'.cell? ⟨w.heap.size,1,none⟩=some (.int .u64 (K:Int))/\w'.cell? ⟨w.heap.size,2,none⟩=some (.slice bo l b))
  (((try dsimp only);(repeat' apply And.intro) <;> first | (go_keep;done) | assumption))
  (first
  | (go_at_call 144;refine x.mono ?_;rintro e w2 ⟨zo,zc,rfl,t,k2⟩;obtain ⟨s0,s1,s2⟩:=JC.out _ k2)
  | (go_at_call 32;refine (JQ.out _ zo zc k2 t).mono ?_;rintro e w4 ⟨v4,rfl,v,k4⟩;obtain ⟨t0,t1,t2⟩:=JC.out _ k4))
 all_goals
  go_wp2_with fail;go_ret2;exact ⟨_,rfl,v,q.out.trans k4⟩

theorem yi {X t n p:Nat} (hp:p<n):dig X p=dig (X+t*18446744073709551616^n) p:=by
 unfold dig;have e:t*18446744073709551616^n=18446744073709551616^p*(t*18446744073709551616^(n-p-1)*18446744073709551616):=by
  rw [show n=p+((n-p-1)+1) by omega,aN,aH,show p+(n-p-1+1)-p-1=n-p-1 by omega];simp only [gO,aF]
 rw [e,jm _ _ (aC (by omega)),Nat.add_mul_mod_self_right]

theorem yZ (Z p:Nat):dig (Z/2) p=dig Z p/2+9223372036854775808*(Z/18446744073709551616^(p+1)%2):=by
 unfold dig;rw [aH,<- cK,cK Z 2,aF 2,<- cK];generalize Z/18446744073709551616^p=T;omega

theorem FT (x c:Nat) (hx:x<18446744073709551616) (hc:c<=1):bits .or .u64 ((x/2:Nat):Int) ((9223372036854775808*c:Nat):Int)=((x/2+9223372036854775808*c:Nat):Int):=by
 rw [u64_or_nat _ _ (by omega) (by omega)]
 congr 1
 rw [Nat.or_comm,j6,show 9223372036854775808*c=2^63*c from rfl,<- ki (by omega:x/2<2^63)]

theorem DG (D:List Nat) (n k m:Nat) (hl:D.length=n) (hk:k<n) (hm:m=n-1-k):(List.replicate (n-k) 0 ++ D.drop (n-k)).set m (D.getD m 0)=List.replicate (n-(k+1)) 0 ++ D.drop (n-(k+1)):=by
 rw [show n-(k+1)=m by omega,show n-k=m+1 by omega,gG,dr,gH _ _ (by simp),be,bJ,dU (show m<D.length by omega),aA,aQ (show m<D.length by omega)];simp

theorem BM {w:World} {base g n k m:Nat} {t:TypeId} {D:List Nat} (h:OwnN .u64 t w base (.slice (some ⟨g,0,none⟩) n n) n (List.replicate (n-k) 0 ++ D)) (hk:k<n) (hm:m=n-1-k):w.cell? ⟨g,m,none⟩=some (.int .u64 0):=by
 rw [World.ownsRow.cellAt h m (by omega),bu,gD (by simp;omega),ee,ah (by omega)];rfl

theorem Fg (o:Tr) (u:Value) (xs:List Nat) (bit:Nat) (M:bit<18446744073709551616) (w:World) (ht:TrRoom w o 1) (hu:RowT w o u xs) (q:Digs xs) (hL:xs.length<=100000000) :
  Calls prog 254 #[aL o,u,.int .u64 (bit:Nat)] w fun e w'=>∃ v',e=.returned (.tuple #[v',.int .u64 ((val xs+bit%2*18446744073709551616^xs.length)%2:Nat)]) /\
   OwnN .u64 24 w' w.heap.size v' xs.length (digs ((val xs+bit%2*18446744073709551616^xs.length)/2) xs.length)/\∃ o',Did w o [(1,(xs.length:Nat),0)] w' o':=by
 obtain ⟨i0,N,Q,R,S⟩:=info_parts Tryz.info24;have l:=and_one_u64 (bit:Int) (by omega) (by omega);obtain ⟨bt,t⟩:∃ bt,bt=bit%2:=⟨_,rfl⟩
 rw [show (bit:Int)%2=(bt:Int) by omega] at l;rw [<- t];have L:bt<=1:=by omega
 clear t;have a:=aa (jN q);have hX:Hid (val xs<18446744073709551616^xs.length):=em q (leR _);obtain ⟨ao,n,H,rfl,j,_,_,_,_⟩:=hu.1.open;have ac:n<=100000000:=by rw [<- j.out];exact hL
 rw [j.out] at hX a ⊢;have HU:Hid (RowT w o (.slice ao n H) xs):=hu;have HT:Hid (TrRoom w o 1):=ht;have hS:=fz o n w ht.1;obtain ⟨tp,B⟩:∃ tp,tp=aL o:=⟨_,rfl⟩
 rw [<- B] at hS ⊢;clear hu ht j q B hL;generalize val xs=X at *;have hD:Hid (∀ p,p<n->dig X p=dig (X+bt*18446744073709551616^n) p):=fun p hp=>yi hp
 have I:Hid (bt=(X+bt*18446744073709551616^n)/18446744073709551616^n%2):=by
  unfold Hid;rw [Nat.add_mul_div_right _ _ (aC (by omega)),bj hX.out];omega
 generalize X+bt*18446744073709551616^n=Z at *;obtain ⟨C,hC⟩:∃ C,C=Z%2:=⟨_,rfl⟩
 rw [<- hC];have HC:=aa hC;clear hC;go_enter func254,ntmps254;go_wp2_with fail;refine hS.mono ?_;rintro e w4 ⟨rfl,o2,d2⟩;have d4:=aa d2;have y:=HU.out.did d2;obtain ⟨a1,n1,c1,e1,J,_,_,_,f⟩:=y.1.open;simp only [Value.slice.injEq] at e1;obtain ⟨rfl,rfl,rfl⟩:=e1;have P:Hid (w.heap.size<=w4.heap.size):=d2.size;rw [<- a.out] at f;clear hS d2 y J;go_wp2_with (at_make;refine wpList_make_full _ rfl _ _ 23 rfl w4.heap.size 24 i0 _ 1 underlying23 N Q R _ _ _ _ n rfl rfl rfl rfl (by rw [S];omega) (by unfold maxLen;omega) (leR _) ?_;intro w5 g v);rw [bg] at g;have k5:=aV v;clear v
 go_loopw [10,23] (fun c i wr=>∃ (k c':Nat),k<=n/\c'<=1/\i=.int .i64 (k:Int)/\c=.int .u64 (c':Int)/\OwnN .u64 24 wr w4.heap.size (.slice (some ⟨w4.heap.size,0,none⟩) n n) n (List.replicate (n-k) 0 ++ (digs (Z/2) n).drop (n-k))/\Kept af w4 wr /\
   Hid (c'=Z/18446744073709551616^(n-k)%2)) (fun _ i _=>n-(intOf i).toNat)
 case atStart=>exact ⟨0,bt,aP _,L,rfl,rfl,by rw [dK,mj (by rw [ag];exact leR _),dI];exact g,k5,I⟩
 case round=>
  obtain ⟨k,c,hk,hc,rfl,rfl,ho,r,d⟩:=hrel;by_cases hkn:k<n
  ·have W:(0:Int)<=(k:Int):=bY _;have O:(k:Int)<(n:Int):=by omega
   obtain ⟨m,hm⟩:∃ m,m=n-1-k:=⟨_,rfl⟩
   obtain ⟨b1,T,rfl,V⟩:=eC ((f m (by omega)).grew r) (by omega);have U:=BM ho hkn hm;have hf:=World.ownsRow.frozenAt ho m;have A:=fun u=>(World.ownsRow.stored ho m u).1
   have hx:dig X m<18446744073709551616:=ay _ (by omega);obtain ⟨z,hz⟩:∃ z:Nat,z=dig X m/2+9223372036854775808*c:=⟨_,rfl⟩
   have D:z=dig (Z/2) m:=by
    rw [hz,yZ,hD.out m (by omega),d.out,show m+1=n-k by omega]
   have G:Hid (OwnN .u64 24 (wr.setCell ⟨w4.heap.size,m,none⟩ (.int .u64 (z:Int))) w4.heap.size (.slice (some ⟨w4.heap.size,0,none⟩) n n) n (List.replicate (n-(k+1)) 0 ++ (digs (Z/2) n).drop (n-(k+1)))):=by
    have:=A (.int .u64 (z:Int));unfold Hid OwnN;rw [<- DG _ n k m (ag _ _ _) hkn hm,iQ _ _ _ _ (by omega),<- D,bZ];exact this
   have E:Hid (dig X m%2=Z/18446744073709551616^(n-(k+1))%2):=by
    unfold Hid;rw [hD.out m (by omega),show n-(k+1)=m by omega];unfold dig;omega
   have ad:(n:Int)-1-(k:Int)=(m:Int):=by omega
   have Y:(0:Int)<=(m:Int):=bY _;have ab:(m:Int)<(n:Int):=by omega
   have HM:Hid (m=n-1-k):=hm;clear f d A g k5 D hm;generalize dig X m=x at *;have F:Hid (bits .or .u64 ((x:Int)/2) ((c:Int)*9223372036854775808)=(z:Int)):=by
    unfold Hid;rw [show ((c:Int)*9223372036854775808)=((9223372036854775808*c:Nat):Int) by omega,show (x:Int)/2=((x/2:Nat):Int) by omega,FT x c hx hc,hz]
   have s:=and_one_u64 (x:Int) (by omega) (by omega);clear hz;go_wp2_with fail;go_region
   all_goals
    go_wp2_with fail;rw [F.out];go_roundw
    case rel=>exact ⟨k+1,x%2,by omega,by omega,by go_num,rfl,G.out,(r.setCell _ (fun h=>by simp at h) _).drew,E⟩
    case measure=>simp [intOf];omega
  ·have O:¬ (k:Int)<(n:Int):=by omega
   have e:k=n:=by omega
   subst e;rw [bJ,eH,bw,gC] at ho;have E2:Hid (C=c):=by
    have:=d.out;rw [bJ,cw,eX] at this;exact HC.out.trans this.symm
   clear f d g k5;go_wp2_with fail;go_ret2;rw [E2.out];exact ⟨_,rfl,cE ho (fun b hb=>aR P.out (ho.lt b hb).1),o2,d4.out.grew r⟩

theorem sM (w:World):Kept af w w:=aj af w

theorem sL {a w:World} (h:Kept af a w):Kept af a w.drew:=h.drew

theorem nB {a w:World} (o:Obj) (h:Kept af a w):Kept af a (w.alloc o):=h.alloc o

def gd (x y V:Nat):Nat:=if y<=x then x-y else x+V-y

def Ao (x V:Nat):Nat:=(if x%2=1 then x+V else x)/2

theorem pB (b:Bool):cY b<=1:=by unfold cY;split <;> omega

theorem qk {a b n:Nat} (h:a%18446744073709551616^n=b%18446744073709551616^n):digs a n=digs b n:=
 b8 (by omega) (ak (by omega) _ _) (ag _ _ _) (by rw [aB];exact h)

theorem DM {X Z V n:Nat} (_:X<V) (hZ:Z<V) (hV:V<18446744073709551616^n):digs (cC (cY (decide (X<Z))) (fK X Z n%18446744073709551616^n+V) (fK X Z n%18446744073709551616^n)) n=digs (gd X Z V) n:=by
 apply qk;unfold fK gd cC cY;rw [<- B64];generalize 18446744073709551616^n=P at *;by_cases h:X<Z
 ·rw [dL h,ah rfl,ah rfl,ah h,ai (by omega),ax (show X+P-Z<P by omega),show X+P-Z+V=X+V-Z+P by omega,my]
 ·rw [ai h,ah (show Z<=X by omega)];simp [h]

theorem rV {X Z V:Nat} (hX:X<V) (hZ:Z<V):gd X Z V<V:=by
 unfold gd
 split <;> omega

theorem Eg (o:Tr) (ao bo xo yo:Option Addr) (n n1 a rl f xc yc:Nat) (K:Int) (xs ys ms:List Nat) (w:World) (ht:TrRoom w o 2) (hx:RowT w o (.slice xo n1 xc) xs) (hy:RowT w o (.slice yo n yc) ys) (hm:RowT w o (.slice ao n a) ms) (s:Digs xs) (t:Digs ys) (q:Digs ms) (hn:n<=100000) (v:n1<=n) :
  Calls prog 203 #[aL o,.agg #[.slice ao n a,.int .u64 K,.slice bo rl f],.slice xo n1 xc,.slice yo n yc] w fun e w'=>∃ v',e=.returned v'/\kI w o (List.replicate 2 (1,(n:Int),0)) n (fun Y=>val xs<val ms->val ys<val ms->digs Y n=digs (gd (val xs) (val ys) (val ms)) n) w' v':=by
 obtain ⟨_,_,_,e1,l,_,_,_,_⟩:=hx.1.open;cases e1
 obtain ⟨_,_,_,e1,m,_,_,_,_⟩:=hy.1.open;cases e1
 obtain ⟨_,_,_,e1,j,_,_,_,_⟩:=hm.1.open;cases e1
 have p:val ms<18446744073709551616^n:=by rw [<- j.out];exact aE (by omega) q
 have k0:Kept af w (w.alloc (.cells #[.slice ao n a,.int .u64 K,.slice bo rl f] 70)):=(aj af w).alloc _;have h:(w.alloc (.cells #[.slice ao n a,.int .u64 K,.slice bo rl f] 70)).heap[w.heap.size]? = some (.cells #[.slice ao n a,.int .u64 K,.slice bo rl f] 70 (0,0)):=heap_alloc_new _ _;obtain ⟨X,hX⟩:∃ X,X=val xs:=⟨_,rfl⟩
 obtain ⟨Z,hZ⟩:∃ Z,Z=val ys:=⟨_,rfl⟩
 obtain ⟨V,hV⟩:∃ V,V=val ms:=⟨_,rfl⟩
 rw [<- hX,<- hZ,<- hV];rw [<- hV] at p;have g:=Ay o _ _ xs ys _ ((ht.less (by omega)).grew k0) (hx.grew k0) (hy.grew k0) s t (by rw [l.out];omega) (by rw [m.out];omega);rw [l.out,m.out,Nat.max_eq_right v,<- hX,<- hZ] at g;have HN:=aa (fun h1 h2=>DM (X:=X) (Z:=Z) (V:=V) (n:=n) h1 h2 p);obtain ⟨c,hc⟩:∃ c,c=cY (decide (X<Z)):=⟨_,rfl⟩
 have F:c<=1:=by rw [hc];exact pB _
 rw [<- hc] at g HN;have r:Hid (∀ (W:World) (o1:Tr) (m1:List Ev) (v1:Value),Did w o m1 W o1->m1.length=1->RowT W o1 v1 (digs (fK X Z n) n)->Calls prog 204 #[aL o,.int .u64 (c:Nat),v1,.slice ao n a] W fun e w'=>∃ v' c',e=.returned (.tuple #[v',.int .u64 c'])/\OwnN .u64 24 w' W.heap.size v' n (digs (cC c (fK X Z n%18446744073709551616^n+V) (fK X Z n%18446744073709551616^n)) n)/\∃ o',Did W o1 [(1,(n:Nat),0)] w' o'):=fun W o1 m1 v1 d hl hr=>by
  have:=uD o1 c (by omega) v1 _ _ ms W (d.room (by rw [hl];exact ht.less (by omega))) hr (hm.did d) (ak (by omega) _ _) q (by rw [ag];omega) (by rw [j.out];omega);rw [ag,j.out,gI,aB,<- hV,d.ptr] at this;refine this.mono ?_;rintro e w' ⟨v',rfl,h1,h2⟩;exact ⟨v',_,rfl,h1,h2⟩
 have HT:=aa ht.1;have z:=aa ht;obtain ⟨po,y⟩:=aK o;rw [y] at g r ⊢;have K0:=aa k0;clear hm hx hy ht l m j s t q k0 hX hZ hV p hc y v;obtain ⟨p0,p1,p2⟩:=aw h;go_enter func203,ntmps203;go_wp2_with fail;refine g.mono ?_;rintro e w1 ⟨v1,rfl,B,o1,d1⟩;have i:=Did.after K0.out d1;have D:=(d1.kept.block _ (lt_of_block h) (aI h (HT.out.grew K0.out) (by decide) (by decide))).trans h;have E:=(i.room (k:=0) (z.out.less (by simp))).1;have C:=fU B (ag _ _ _) E;obtain ⟨q0,q1,q2⟩:=aw D;have A:=r.out w1 o1 _ v1 i rfl C;clear g p0 p1 p2 h;go_wp2_with fail;refine A.mono ?_
 rintro e w2 ⟨v2,c2,rfl,x,o2,d2⟩;go_wp2_with fail;go_ret;refine ⟨_,rfl,_,o2,cE x (fun b hb=>?_),(fun h1 h2=>HN.out h1 h2),i.trans d2⟩;have:=(x.lt b hb).1;have:=i.size;omega

theorem Eh (ao bo lo:Option Addr) (n l a b c g:Nat) (K:Int) (A:Nat->Option Addr) (N C:Nat->Nat) (R:Bool) (hR:R=true↔(∀ i,i<c->N i=n)/\n<=130) (w:World) (hs:Slots w lo c A N C) (p:c<=1000) (hN:∀ i,i<c->N i<=1000000000) (hn:n<=1000000000) :
  Calls prog 200 #[.agg #[.slice ao n a,.int .u64 K,.slice bo l b],.slice lo c g] w fun e w'=>e=.returned (.bool R)/\Kept af w w':=by
 have k0:Kept af w (w.alloc (.cells #[.slice ao n a,.int .u64 K,.slice bo l b] 70)):=(aj af w).alloc _;have m:(w.alloc (.cells #[.slice ao n a,.int .u64 K,.slice bo l b] 70)).heap[w.heap.size]? = some (.cells #[.slice ao n a,.int .u64 K,.slice bo l b] 70 (0,0)):=heap_alloc_new _ _;obtain ⟨p0,p1,p2⟩:=aw m;have HS:Hid (Slots (w.alloc (.cells #[.slice ao n a,.int .u64 K,.slice bo l b] 70)) lo c A N C):=hs.grew k0;have HR:=aa hR;have HN:=aa hN;clear hs m hR hN;generalize hW:w.alloc (.cells #[.slice ao n a,.int .u64 K,.slice bo l b] 70)=W at *;have HW:=aa hW;clear hW;go_enter func200,ntmps200;go_wp2_with (rw [HW.out])
 go_loopw [13] (fun i wr=>∃ (k:Nat),k<=c/\i=.int .i64 (k:Int)/\Hid (∀ j,j<k->N j=n)/\Kept af W wr) (fun i _=>c-(intOf i).toNat)
 case atStart=>exact ⟨0,aP _,rfl,fun j hj=>by omega,aj _ _⟩
 case round=>
  obtain ⟨k,hk,rfl,d,f⟩:=hrel;by_cases hkc:k<c
  ·have r:(0:Int)<=(k:Int):=bY _;have gk:(k:Int)<(c:Int):=by omega
   obtain ⟨b2,q,rfl,o⟩:=(HS.out.grew f) k hkc;have s:=HN.out k hkc;by_cases he:N k=n
   ·have HA:Hid (∀ j,j<k+1->N j=n):=fun j hj=>by
     by_cases e:j=k
     ·subst e;exact he
     ·exact d.out j (by omega)
    generalize A k=a0 at *;generalize C k=c0 at *;rw [he] at o;clear he;go_wp2_with fail;go_roundw
    case rel=>exact ⟨k+1,by omega,by go_num,HA,f⟩
    case measure=>simp [intOf];omega
   ·have HF:Hid (R=false):=by
     unfold Hid;cases h:R with
     | false=>rfl
     | true=>exact absurd ((HR.out.1 h).1 k hkc) he
    have ge:¬ ((N k:Nat):Int)=(n:Int):=by omega
    generalize A k=a0 at *;generalize C k=c0 at *;generalize N k=n0 at *;go_wp2_with fail;go_ret;exact ⟨by rw [HF.out];rfl,k0.trans f⟩
  ·have gk:¬ (k:Int)<(c:Int):=by omega
   obtain rfl:k=c:=by omega
   have HB:Hid (R=decide ((n:Int)<=130)):=by
    unfold Hid;by_cases h:n<=130
    ·rw [dL (by omega)];exact HR.out.2 ⟨d.out,h⟩
    ·rw [cP (by omega)];cases h2:R with
     | false=>rfl
     | true=>exact absurd (HR.out.1 h2).2 h
   go_wp2_with fail;go_ret;exact ⟨by rw [HB.out];rfl,k0.trans f⟩

def Lies (u:Bool) (w w':World) (v:Value):Prop:=u=true->Fresh w v/\U64s w' v

theorem Lies.grew {u:Bool} {w w' w2:World} {v:Value} (h:Lies u w w' v) (k:Kept af w' w2):Lies u w w2 v:=fun e=>⟨(h e).1,(h e).2.grew k⟩

theorem Lies.nil (u:Bool) (w w':World):Lies u w w' (.slice none 0 0):=fun _=>⟨(fun b hb=>by cases hb),U64s.nil _⟩

theorem Lies.after {u:Bool} {w W w':World} {v:Value} (h:Lies u W w' v) (hs:w.heap.size<=W.heap.size):Lies u w w' v:=fun e=>⟨fun b hb=>aR hs ((h e).1 b hb),(h e).2⟩

def Asked (w:World) (o:Tr) (u:Bool) (P:Prop) (R:List Nat->Nat->Prop) (dE:List Ev) (w':World) (v':Value) (c:Nat):Prop:=
 ∃ (zs:List Nat) (m:List Ev) (o':Tr),Row .u64 w' v' zs/\Lies u w w' v'/\Did w o m w' o'/\(P->R zs c/\m=dE)/\(¬ P->zs=[]/\c=1)

theorem rj (o:Tr) (ao bo lo:Option Addr) (n l K b g a r f:Nat) (s:Array Value) (A:Nat->Option Addr) (N C:Nat->Nat) (j:Nat->List Nat) (ms rs:List Nat) (rm:Nat) (dE:List Ev) (u:Bool) (R:List Nat->Nat->Prop) (w:World)
  (ht:TrRoom w o (a+rm)) (hm:RowT w o (.slice ao n b) ms) (hr:RowT w o (.slice bo l g) rs) (E:Digs ms) (H:Digs rs) (hK:K<18446744073709551616) (an:n<=1000000) (D:a<=1000) (F:∀ i,i<a->N i<=1000000000)
  (hs:∀ W m o',Did w o m W o'->Slots W lo a A N C) (q:∀ i,i<a->RowT w o (.slice (A i) (N i) (C i)) (j i)) (t:∀ i,i<a->Digs (j i))
  (hf:∀ args w,(callFunc f args).run prog w=.ok (.enter f args) w)
  (G:n<=130->(∀ i,i<a->N i=n)->∀ W m o',Did w o m W o'->TrRoom W o' rm->Calls prog f s W fun e w'=>∃ v' c,e=.returned (.tuple #[v',.int .i64 ((c:Nat):Int)])/\∃ zs m' o2,Row .u64 w' v' zs/\Lies u W w' v'/\Did W o' m' w' o2/\(okMod ms K rs->jb a n (val ms) N j->R zs c/\m'=dE)) :
  Calls prog 142 #[aL o,.agg #[.slice ao n b,.int .u64 (K:Nat),.slice bo l g],.func (.func f) #[] s,.slice lo a r] w fun e w'=>∃ v' c,e=.returned (.tuple #[v',.int .i64 ((c:Nat):Int)]) /\
   Asked w o u (okMod ms K rs/\jb a n (val ms) N j) R (List.replicate a (1,(n:Int),0) ++ dE) w' v' c:=by
 obtain ⟨_,_,_,e1,B,_,_,_,_⟩:=hm.1.open;cases e1
 obtain ⟨po,I⟩:=aK o;obtain ⟨V,hV⟩:∃ V,V=val ms:=⟨_,rfl⟩
 rw [<- hV];rw [<- hV] at G;have x:=ht.1;obtain ⟨W,hW⟩:∃ W,W=w.alloc (.cells #[.slice ao n b,.int .u64 (K:Nat),.slice bo l g] 70):=⟨_,rfl⟩
 have k0:Kept af w W:=by rw [hW];exact (aj af w).alloc _
 have y:W.heap[w.heap.size]? = some (.cells #[.slice ao n b,.int .u64 (K:Nat),.slice bo l g] 70 (0,0)):=by rw [hW];exact heap_alloc_new _ _
 have JM:Hid (∀ W' m o',Did W o m W' o'->W'.cell? ⟨w.heap.size,0,none⟩=some (.slice ao n b)/\W'.cell? ⟨w.heap.size,1,none⟩=some (.int .u64 (K:Nat))/\W'.cell? ⟨w.heap.size,2,none⟩=some (.slice bo l g)):=fun W' m o' d=>aw ((d.kept.block _ (lt_of_block y) (aI y (x.grew k0) (by decide) (by decide))).trans y)
 obtain ⟨p0,p1,p2⟩:=aw y;have K0:=aa k0;have HW:=aa hW;have M:=aa x;by_cases hlen:(∀ i,i<a->N i=n)/\n<=130
 ·have hH:=Eh ao bo lo n l b g a r K A N C true (by simp only [true_iff];exact hlen) W (hs W _ _ (Did.of_kept k0 x)) D F (by omega);have JB:Hid (∀ W' m o' i,Did W o m W' o'->TrRoom W' o' 1->i<a->Calls prog 133 #[.pointer po,.slice (A i) (N i) (C i),.slice ao n b] W' fun e w'=>e=.returned (.int .u64 ((rF (N i) n (val (j i)) V:Nat):Int))/\∃ o2,Did W' o' [(1,(n:Int),0)] w' o2):=fun W' m o' i d L hi=>by
   have Q:=Did.after k0 d;obtain ⟨_,_,_,e1,O,_,_,_,_⟩:=(q i hi).1.open;cases e1
   have P:=hlen.1 i hi;have:=qC o' _ _ (j i) ms W' L ((q i hi).did Q) (hm.did Q) (t i hi) E (by rw [O.out];omega) (by rw [B.out];omega);rw [O.out,B.out,P,gI,d.ptr,I,<- hV] at this;rw [P];refine this.mono ?_;rintro e w' ⟨rfl,h2⟩;refine ⟨?_,h2⟩;unfold rF cY;by_cases hlt:val (j i)<V
   ·rw [dL hlt,ah rfl,ah ⟨rfl,hlt⟩]
   ·rw [cP hlt,ai (by decide),ai (fun h=>hlt h.2)]
  have JD:Hid (∀ W' m o',Did W o m W' o'->TrRoom W' o' rm->Calls prog f s W' fun e w'=>∃ v' c,e=.returned (.tuple #[v',.int .i64 ((c:Nat):Int)])/\∃ zs m' o2,Row .u64 w' v' zs/\Lies u W' w' v'/\Did W' o' m' w' o2/\(okMod ms K rs->jb a n V N j->R zs c/\m'=dE)):=fun W' m o' d L=>G hlen.2 hlen.1 W' m o' (Did.after k0 d) L
  have JK:Hid (∀ W' m o' (R:Bool),Did W o m W' o'->(R=true↔okMod ms K rs)->Calls prog 135 #[.agg #[.slice ao n b,.int .u64 (K:Nat),.slice bo l g]] W' fun e w'=>e=.returned (.bool R)/\Kept af W' w'):=fun W' m o' R d hR=>nE ao bo n l K b g ms rs R hR W' (hm.did (Did.after k0 d)).1 (hr.did (Did.after k0 d)).1 E H hK (by omega)
  have JS:Hid (∀ W' m o',Did W o m W' o'->Slots W' lo a A N C):=fun W' m o' d=>hs W' m o' (Did.after k0 d)
  have HT:=aa ht;clear hm hr E H hK hs q t G x ht B hV hW y hlen F k0;rw [I];go_enter func142,ntmps142;go_wp2_with (rw [<- HW.out]);refine hH.mono ?_;rintro e w1 ⟨rfl,k1⟩;have H1:Hid (Did W o [] w1 o):=Did.of_kept k1 (M.out.grew K0.out);clear hH k1 p0 p1 p2;go_wp2_with fail;go_loopw [10,21] (fun mv i wr=>∃ (k:Nat) (o1:Tr),k<=a/\i=.int .i64 (k:Int)/\mv=.int .u64 ((inN a n V N j k:Nat):Int)/\Hid (Did W o (List.replicate k (1,(n:Int),0)) wr o1)) (fun _ i _=>a-(intOf i).toNat)
  case atStart=>exact ⟨0,o,aP _,rfl,rfl,H1.out⟩
  case round=>
   obtain ⟨k,o1,hk,rfl,rfl,HD⟩:=hrel;by_cases hkc:k<a
   ·have al:(0:Int)<=(k:Int):=bY _;have gk:(k:Int)<(a:Int):=by omega
    obtain ⟨q0,q1,q2⟩:=JM.out _ _ _ HD.out;obtain ⟨b2,ak,rfl,ag⟩:=JS.out _ _ _ HD.out k hkc;have p:TrRoom wr o1 1:=HD.out.room (by rw [be];exact (HT.out.less (by omega)).grew K0.out);have hB:=JB.out wr _ o1 k HD.out p hkc;have ae:=sH a n V N j k;have T:=aa HD;clear HD p;generalize rF (N k) n (val (j k)) V=mm at *;generalize hm2:inN a n V N j (k+1)=m2 at *;have ab:=aa hm2;clear hm2;generalize inN a n V N j k=m1 at *;go_wp2_with fail;refine hB.mono ?_;rintro e w2 ⟨rfl,o2,d2⟩;have U:=aa (T.out.out.trans d2);clear hB d2 q0 q1 q2 ag;go_wp2_with fail;go_roundw
    case rel=>exact ⟨k+1,o2,by omega,by go_num,by rw [ab.out],by unfold Hid;rw [gG];exact U.out⟩
    case measure=>simp [intOf];omega
   ·have gk:¬ (k:Int)<(a:Int):=by omega
    obtain rfl:k=a:=by omega
    have p:TrRoom wr o1 rm:=HD.out.room (by rw [be];exact HT.out.grew K0.out);have hD:=JD.out wr _ o1 HD.out p;have HI:=aa (ru k n V N j k);have X:=aa (ux k n V N j k);generalize inN k n V N j k=mem at *;go_wp2_with fail;refine hD.mono ?_;rintro e w3 ⟨v3,c3,rfl,zs,m3,o3,J,S,d3,hG⟩;have D3:=aa (HD.out.trans d3);obtain ⟨ar,aq,ap,rfl,_,_,_,_,_⟩:=J.open;have ac:=aa J;have Y:=aa (S.after (aR K0.out.size HD.out.size));have HG:=aa hG;obtain ⟨q0,q1,q2⟩:=JM.out _ _ _ D3.out;clear hD d3 J S hG p;by_cases hall:jb k n V N j
    ·have v:mem=1:=HI.out.2 hall;subst v;by_cases hok:okMod ms K rs
     ·go_wp2_with fail;refine (JK.out w3 _ o3 true D3.out (by simp [hok])).mono ?_;rintro e w4 ⟨rfl,k4⟩;have z:=aa (Did.after K0.out (D3.out.grew k4));have ad:=aa (ac.out.grew k4);have Z:=aa (Y.out.grew k4);clear k4;go_wp2_with fail;go_ret2;exact ⟨_,c3,rfl,zs,_,o3,ad.out,Z.out,z.out,fun _=>⟨(HG.out hok hall).1,by rw [(HG.out hok hall).2]⟩,fun h=>absurd ⟨hok,hall⟩ h⟩
     ·go_wp2_with fail;refine (JK.out w3 _ o3 false D3.out (by simp [hok])).mono ?_;rintro e w4 ⟨rfl,k4⟩;have z:=aa (Did.after K0.out (D3.out.grew k4));clear k4;go_wp2_with fail;go_ret2;exact ⟨_,1,rfl,[],_,o3,Row.nil _ _,Lies.nil _ _ _,z.out,fun h=>absurd h.1 hok,fun _=>⟨rfl,rfl⟩⟩
    ·have v:mem=0:=by
      have h1:mem≠1:=fun h=>hall (HI.out.1 h)
      have h2:=X.out;omega
     subst v;have z:=aa (Did.after K0.out D3.out);go_wp2_with fail;go_ret2;exact ⟨_,1,rfl,[],_,o3,Row.nil _ _,Lies.nil _ _ _,z.out,fun h=>absurd h.2 hall,fun _=>⟨rfl,rfl⟩⟩
 ·have HP:Hid (¬ (okMod ms K rs/\jb a n V N j)):=fun h=>by
   refine hlen ⟨fun i hi=>(h.2 i hi).1,?_⟩;obtain ⟨_,_,_,e1,am,_,_,_,_⟩:=hr.1.open;cases e1
   have h2:=(oF (K:=K) B.out rfl E H hK).1 h.1;have h3:=h2.1;unfold rfn at h3;by_cases h4:130<n
   ·rw [ah (by omega)] at h3;omega
   ·omega
  have hH:=Eh ao bo lo n l b g a r K A N C false (by simp only [kZ,false_iff];exact hlen) W (hs W _ _ (Did.of_kept k0 x)) D F (by omega);clear hm hr E H hK hs q t G x ht B hV hW y hlen F k0;rw [I];go_enter func142,ntmps142;go_wp2_with (rw [<- HW.out]);refine hH.mono ?_;rintro e w1 ⟨rfl,k1⟩;go_wp2_with fail;go_ret2;exact ⟨_,1,rfl,[],[],o,Row.nil _ _,Lies.nil _ _ _,Did.of_kept (K0.out.trans k1) M.out,fun h=>absurd h HP.out,fun _=>⟨rfl,rfl⟩⟩

theorem Asked.after {w W:World} {o:Tr} {u:Bool} {P:Prop} {R:List Nat->Nat->Prop} {dE:List Ev} {w':World} {v':Value} {c:Nat} (k:Kept af w W) (h:Asked W o u P R dE w' v' c):Asked w o u P R dE w' v' c:=by
 obtain ⟨zs,m,o',h1,h2,h3,h4⟩:=h;exact ⟨zs,m,o',h1,h2.after k.size,Did.after k h3,h4⟩

theorem GD (o:Tr) (ao bo xo yo:Option Addr) (n l K a b xc yc bT bM bA bB:Nat) (ms xs ys:List Nat) (w:World)
  (ht:TrRoom w o 2) (hm:RowT w o (.slice ao n a) ms) (hx:RowT w o (.slice xo n xc) xs) (hy:RowT w o (.slice yo n yc) ys) (f:Digs ms) (c:Digs xs) (d:Digs ys) (hn:n<=130)
  (hT:Box w bT (aL o) 53) (hM:w.heap[bM]? = some (.cells #[.slice ao n a,.int .u64 (K:Nat),.slice bo l b] 70 (0,0))) (hA:Box w bA (.slice xo n xc) 23) (hB:Box w bB (.slice yo n yc) 23) :
  Calls prog 202 #[.pointer (some ⟨bT,0,none⟩),.pointer (some ⟨bM,0,none⟩),.pointer (some ⟨bA,0,none⟩),.pointer (some ⟨bB,0,none⟩)] w fun e w'=>∃ v',e=.returned (.tuple #[v',.int .i64 0])/\kI w o (List.replicate 2 (1,(n:Int),0)) n (fun Y=>val xs<val ms->val ys<val ms->digs Y n=digs (gd (val xs) (val ys) (val ms)) n) w' v':=by
 obtain ⟨po,g⟩:=aK o;have hS:=Eg o ao bo xo yo n n a l b xc yc K xs ys ms w ht hx hy hm c d f (by omega) (leR _);have cT:=hT.cell;have cA:=hA.cell;have cB:=hB.cell;obtain ⟨p0,p1,p2⟩:=aw hM;rw [g] at hS cT;clear hm hx hy f c d hT hM hA hB ht g;generalize (fun Y=>val xs<val ms->val ys<val ms->digs Y n=digs (gd (val xs) (val ys) (val ms)) n)=G at *;go_enter func202,ntmps202;go_wp2_with fail;refine hS.mono ?_;rintro e w1 ⟨v1,rfl,h1⟩;clear hS cT cA cB p0 p1 p2;go_wp2_with fail;go_ret2;exact ⟨_,rfl,h1⟩

theorem Ip (o:Tr) (ao bo xo yo:Option Addr) (n l K a b N1 N2 xc yc:Nat) (ms rs xs ys:List Nat) (w:World)
  (ht:TrRoom w o 10) (hm:RowT w o (.slice ao n a) ms) (hr:RowT w o (.slice bo l b) rs) (hx:RowT w o (.slice xo N1 xc) xs) (hy:RowT w o (.slice yo N2 yc) ys) (C:Digs ms) (H:Digs rs) (A:Digs xs) (B:Digs ys) (hK:K<18446744073709551616) (L:n<=1000000) (E:N1<=1000000000) (F:N2<=1000000000) :
  Calls prog 146 #[aL o,.agg #[.slice ao n a,.int .u64 (K:Nat),.slice bo l b],.slice xo N1 xc,.slice yo N2 yc] w fun e w'=>∃ v' c,e=.returned (.tuple #[v',.int .i64 ((c:Nat):Int)])/\Asked w o true (okMod ms K rs/\(N1=n/\val xs<val ms)/\(N2=n/\val ys<val ms)) (fun zs c=>zs=digs (gd (val xs) (val ys) (val ms)) n/\c=0) (List.replicate 2 (1,(n:Int),0) ++ List.replicate 2 (1,(n:Int),0)) w' v' c:=by
 have M:=im;have he:∀ args w,(callFunc 202 args).run prog w=.ok (.enter 202 args) w:=fun _ _=>by simp [go_sem]
 obtain ⟨po,D⟩:=aK o;obtain ⟨W,hW⟩:∃ W,W=(((w.alloc (.cells #[.pointer po] 53)).alloc (.cells #[.slice ao n a,.int .u64 (K:Nat),.slice bo l b] 70)).alloc (.cells #[.slice xo N1 xc] 23)).alloc (.cells #[.slice yo N2 yc] 23):=⟨_,rfl⟩
 have k0:Kept af w W:=by rw [hW];exact ((((aj af w).alloc _).alloc _).alloc _).alloc _
 have z:Box W w.heap.size (.pointer po) 53:=by rw [hW];exact (((Box.new w _ _).alloc _).alloc _).alloc _
 have j:W.heap[w.heap.size+1]? = some (.cells #[.slice ao n a,.int .u64 (K:Nat),.slice bo l b] 70 (0,0)):=by
  rw [hW];refine au (au ?_);have:=heap_alloc_new (w.alloc (.cells #[.pointer po] 53)) (.cells #[.slice ao n a,.int .u64 (K:Nat),.slice bo l b] 70)
  rwa [show (w.alloc (.cells #[.pointer po] 53)).heap.size=w.heap.size+1 by simp] at this
 have x:Box W (w.heap.size+1+1) (.slice xo N1 xc) 23:=by
  rw [hW];refine Box.alloc ?_ _;have:=Box.new ((w.alloc (.cells #[.pointer po] 53)).alloc (.cells #[.slice ao n a,.int .u64 (K:Nat),.slice bo l b] 70)) (.slice xo N1 xc) 23
  rwa [show ((w.alloc (.cells #[.pointer po] 53)).alloc (.cells #[.slice ao n a,.int .u64 (K:Nat),.slice bo l b] 70)).heap.size=w.heap.size+1+1 by simp] at this
 have y:Box W (w.heap.size+1+1+1) (.slice yo N2 yc) 23:=by
  rw [hW];have:=Box.new (((w.alloc (.cells #[.pointer po] 53)).alloc (.cells #[.slice ao n a,.int .u64 (K:Nat),.slice bo l b] 70)).alloc (.cells #[.slice xo N1 xc] 23)) (.slice yo N2 yc) 23
  rwa [show (((w.alloc (.cells #[.pointer po] 53)).alloc (.cells #[.slice ao n a,.int .u64 (K:Nat),.slice bo l b] 70)).alloc (.cells #[.slice xo N1 xc] 23)).heap.size=w.heap.size+1+1+1 by simp] at this
 obtain ⟨Wl,s⟩:∃ Wl,Wl=W.alloc (.cells #[.slice xo N1 xc,.slice yo N2 yc] 23):=⟨_,rfl⟩
 have kl:Kept af W Wl:=by rw [s];exact (aj af W).alloc _
 have t:Wl.heap[W.heap.size]? = some (.cells #[.slice xo N1 xc,.slice yo N2 yc] 23 (0,0)):=by rw [s];exact heap_alloc_new _ _
 have kk:=k0.trans kl;have g:=rj o ao bo (some ⟨W.heap.size,0,none⟩) n l K a b 2 2 202 #[.pointer (some ⟨w.heap.size,0,none⟩),.pointer (some ⟨w.heap.size+1,0,none⟩),.pointer (some ⟨w.heap.size+1+1,0,none⟩),.pointer (some ⟨w.heap.size+1+1+1,0,none⟩)]
  (fun i=>if i=0 then xo else yo) (fun i=>if i=0 then N1 else N2) (fun i=>if i=0 then xc else yc) (fun i=>if i=0 then xs else ys) ms rs 8 (List.replicate 2 (1,(n:Int),0)) true (fun zs c=>zs=digs (gd (val xs) (val ys) (val ms)) n/\c=0) Wl
  (ht.grew kk) (hm.grew kk) (hr.grew kk) C H hK (by omega) (by omega)
  (fun i hi=>by
   have k:i=0\/i=1:=by omega
   rcases k with rfl | rfl
   ·exact E
   ·exact F)
  (fun W' m o' d=>nN ((d.kept.block _ (lt_of_block t) (aI t (ht.grew kk).1 (by decide) (by decide))).trans t))
  (fun i hi=>by
   have k:i=0\/i=1:=by omega
   rcases k with rfl | rfl
   ·exact hx.grew kk
   ·exact hy.grew kk)
  (fun i hi=>by
   have k:i=0\/i=1:=by omega
   rcases k with rfl | rfl
   ·exact A
   ·exact B)
  he
  (fun hn q W' m o' d r=>by
   have v:=(ht.grew kk).1;have e1:N1=n:=q 0 (by omega);have e2:N2=n:=q 1 (by omega);subst e1;subst e2
   refine (GD o' ao bo xo yo N2 l K a b xc yc w.heap.size (w.heap.size+1) (w.heap.size+1+1) (w.heap.size+1+1+1) ms xs ys W' (r.less (by omega)) ((hm.grew kk).did d) ((hx.grew kk).did d) ((hy.grew kk).did d) C A B hn (by rw [d.ptr,D];exact (z.grew kl).did d v (by decide) (by decide)) ((d.kept.block _ (lt_of_block ((kl.block _ (lt_of_block j) (fun f=>f)).trans j)) (aI ((kl.block _ (lt_of_block j) (fun f=>f)).trans j) v (by decide) (by decide))).trans ((kl.block _ (lt_of_block j) (fun f=>f)).trans j)) ((x.grew kl).did d v (by decide) (by decide)) ((y.grew kl).did d v (by decide) (by decide))).mono ?_;rintro e w' ⟨v',rfl,Y,o2,h1,h2,h3⟩
   refine ⟨v',0,rfl,_,_,o2,cW h1 (ag _ _ _),(fun _=>⟨Fresh.own h1 (leR _),U64s.own h1⟩),h3,fun N G=>⟨⟨h2 (G 0 (by omega)).2 (G 1 (by omega)).2,rfl⟩,rfl⟩⟩)
 have p:(okMod ms K rs/\jb 2 n (val ms) (fun i=>if i=0 then N1 else N2) (fun i=>if i=0 then xs else ys))↔(okMod ms K rs/\(N1=n/\val xs<val ms)/\(N2=n/\val ys<val ms)):=by
  refine and_congr_right fun _=>⟨fun h=>⟨h 0 (by omega),h 1 (by omega)⟩,fun h i hi=>?_⟩
  have k:i=0\/i=1:=by omega
  rcases k with rfl | rfl
  ·exact h.1
  ·exact h.2
 rw [p] at g;have HB:Hid (∀ w' v' c,Asked Wl o true (okMod ms K rs/\(N1=n/\val xs<val ms)/\(N2=n/\val ys<val ms)) (fun zs c=>zs=digs (gd (val xs) (val ys) (val ms)) n/\c=0) (List.replicate 2 (1,(n:Int),0) ++ List.replicate 2 (1,(n:Int),0)) w' v' c->Asked w o true (okMod ms K rs/\(N1=n/\val xs<val ms)/\(N2=n/\val ys<val ms)) (fun zs c=>zs=digs (gd (val xs) (val ys) (val ms)) n/\c=0) (List.replicate 2 (1,(n:Int),0) ++ List.replicate 2 (1,(n:Int),0)) w' v' c):=fun w' v' c h=>h.after kk
 have I:W.heap.size=w.heap.size+1+1+1+1:=by rw [hW];simp
 rw [I] at g;have HW:=aa hW;have J:=aa s;obtain ⟨c3,c4,c5⟩:=aw j;have c0:=z.cell;have c1:=x.cell;have c2:=y.cell;rw [D] at g ⊢;clear ht hm hr hx hy C H A B hK L D k0 z j x y hW s t kk kl he I p E F;generalize (okMod ms K rs/\(N1=n/\val xs<val ms)/\(N2=n/\val ys<val ms))=PP at *;generalize (fun zs c=>zs=digs (gd (val xs) (val ys) (val ms)) n/\c=0)=RR at *;generalize List.replicate 2 (1,(n:Int),0) ++ List.replicate 2 (1,(n:Int),0)=EE at *;go_enter func146,ntmps146;go_wp2_with fail;rw [<- HW.out,<- J.out];refine g.mono ?_;rintro e w1 ⟨v1,c,rfl,h1⟩;have H1:=aa (HB.out _ _ _ h1);clear g h1 c0 c1 c2 c3 c4 c5
 go_wp2_with fail;go_ret2;exact ⟨_,c,rfl,H1.out⟩

theorem GB (o:Tr) (ao bo xo:Option Addr) (n a rl b xc:Nat) (K:Nat) (xs ms:List Nat) (w:World) (ht:TrRoom w o 2) (hx:RowT w o (.slice xo n xc) xs) (hm:RowT w o (.slice ao n a) ms) (f:Digs xs) (c:Digs ms) (hn:n<=100000) :
  Calls prog 203 #[aL o,.agg #[.slice ao n a,.int .u64 (K:Nat),.slice bo rl b],.slice none 0 0,.slice xo n xc] w fun e w'=>∃ v',e=.returned v'/\kI w o (List.replicate 2 (1,(n:Int),0)) n (fun Y=>val xs<val ms->digs Y n=digs (gd 0 (val xs) (val ms)) n) w' v':=by
 refine (Eg o ao bo none xo n 0 a rl b 0 xc K [] xs ms w ht ⟨Row.nil _ _,fun h=>absurd rfl h⟩ hx hm (fun d hd=>by cases hd) f c hn (aP _)).mono ?_;rintro e w' ⟨v',rfl,Y,o',h1,h2,h3⟩;exact ⟨v',rfl,Y,o',h1,fun h=>h2 (fF (aP _) h) h,h3⟩

theorem GA (o:Tr) (ao bo xo:Option Addr) (n l K a b xc bT bM bA:Nat) (ms xs:List Nat) (w:World)
  (ht:TrRoom w o 2) (hm:RowT w o (.slice ao n a) ms) (hx:RowT w o (.slice xo n xc) xs) (d:Digs ms) (c:Digs xs) (hn:n<=130)
  (hT:Box w bT (aL o) 53) (hM:w.heap[bM]? = some (.cells #[.slice ao n a,.int .u64 (K:Nat),.slice bo l b] 70 (0,0))) (hA:Box w bA (.slice xo n xc) 23) :
  Calls prog 234 #[.pointer (some ⟨bT,0,none⟩),.pointer (some ⟨bM,0,none⟩),.pointer (some ⟨bA,0,none⟩)] w fun e w'=>∃ v',e=.returned (.tuple #[v',.int .i64 0])/\kI w o (List.replicate 2 (1,(n:Int),0)) n (fun Y=>val xs<val ms->digs Y n=digs (gd 0 (val xs) (val ms)) n) w' v':=by
 obtain ⟨po,f⟩:=aK o;have hS:=GB o ao bo xo n a l b xc K xs ms w ht hx hm c d (by omega);have cT:=hT.cell;have cA:=hA.cell;obtain ⟨p0,p1,p2⟩:=aw hM;rw [f] at hS cT;clear hm hx d c hT hM hA ht f;generalize (fun Y=>val xs<val ms->digs Y n=digs (gd 0 (val xs) (val ms)) n)=G at *;go_enter func234,ntmps234;go_wp2_with fail;refine hS.mono ?_;rintro e w1 ⟨v1,rfl,h1⟩;clear hS cT cA p0 p1 p2;go_wp2_with fail;go_ret2;exact ⟨_,rfl,h1⟩

theorem In (o:Tr) (ao bo xo:Option Addr) (n l K a b N1 xc:Nat) (ms rs xs:List Nat) (w:World)
  (ht:TrRoom w o 10) (hm:RowT w o (.slice ao n a) ms) (hr:RowT w o (.slice bo l b) rs) (hx:RowT w o (.slice xo N1 xc) xs) (y:Digs ms) (C:Digs rs) (x:Digs xs) (hK:K<18446744073709551616) (G:n<=1000000) (B:N1<=1000000000) :
  Calls prog 194 #[aL o,.agg #[.slice ao n a,.int .u64 (K:Nat),.slice bo l b],.slice xo N1 xc] w fun e w'=>∃ v' c,e=.returned (.tuple #[v',.int .i64 ((c:Nat):Int)])/\Asked w o true (okMod ms K rs/\(N1=n/\val xs<val ms)) (fun zs c=>zs=digs (gd 0 (val xs) (val ms)) n/\c=0) (List.replicate 1 (1,(n:Int),0) ++ List.replicate 2 (1,(n:Int),0)) w' v' c:=by
 have H:=im;have he:∀ args w,(callFunc 234 args).run prog w=.ok (.enter 234 args) w:=fun _ _=>by simp [go_sem]
 obtain ⟨po,z⟩:=aK o;obtain ⟨W,hW⟩:∃ W,W=((w.alloc (.cells #[.pointer po] 53)).alloc (.cells #[.slice ao n a,.int .u64 (K:Nat),.slice bo l b] 70)).alloc (.cells #[.slice xo N1 xc] 23):=⟨_,rfl⟩
 have k0:Kept af w W:=by rw [hW];exact (((aj af w).alloc _).alloc _).alloc _
 have t:Box W w.heap.size (.pointer po) 53:=by rw [hW];exact ((Box.new w _ _).alloc _).alloc _
 have j:W.heap[w.heap.size+1]? = some (.cells #[.slice ao n a,.int .u64 (K:Nat),.slice bo l b] 70 (0,0)):=by
  rw [hW];refine au ?_;have:=heap_alloc_new (w.alloc (.cells #[.pointer po] 53)) (.cells #[.slice ao n a,.int .u64 (K:Nat),.slice bo l b] 70)
  rwa [show (w.alloc (.cells #[.pointer po] 53)).heap.size=w.heap.size+1 by simp] at this
 have s:Box W (w.heap.size+1+1) (.slice xo N1 xc) 23:=by
  rw [hW];have:=Box.new ((w.alloc (.cells #[.pointer po] 53)).alloc (.cells #[.slice ao n a,.int .u64 (K:Nat),.slice bo l b] 70)) (.slice xo N1 xc) 23
  rwa [show ((w.alloc (.cells #[.pointer po] 53)).alloc (.cells #[.slice ao n a,.int .u64 (K:Nat),.slice bo l b] 70)).heap.size=w.heap.size+1+1 by simp] at this
 obtain ⟨Wl,q⟩:∃ Wl,Wl=W.alloc (.cells #[.slice xo N1 xc] 23):=⟨_,rfl⟩
 have kl:Kept af W Wl:=by rw [q];exact (aj af W).alloc _
 have r:Wl.heap[W.heap.size]? = some (.cells #[.slice xo N1 xc] 23 (0,0)):=by rw [q];exact heap_alloc_new _ _
 have kk:=k0.trans kl;have g:=rj o ao bo (some ⟨W.heap.size,0,none⟩) n l K a b 1 1 234 #[.pointer (some ⟨w.heap.size,0,none⟩),.pointer (some ⟨w.heap.size+1,0,none⟩),.pointer (some ⟨w.heap.size+1+1,0,none⟩)]
  (fun _=>xo) (fun _=>N1) (fun _=>xc) (fun _=>xs) ms rs 9 (List.replicate 2 (1,(n:Int),0)) true (fun zs c=>zs=digs (gd 0 (val xs) (val ms)) n/\c=0) Wl
  (ht.grew kk) (hm.grew kk) (hr.grew kk) y C hK (by omega) (by omega)
  (fun i hi=>B)
  (fun W' m o' d=>pC ((d.kept.block _ (lt_of_block r) (aI r (ht.grew kk).1 (by decide) (by decide))).trans r))
  (fun i hi=>hx.grew kk)
  (fun i hi=>x)
  he
  (fun hn v W' m o' d p=>by
   have A:=(ht.grew kk).1;have e1:N1=n:=v 0 (by omega);subst e1;refine (GA o' ao bo xo N1 l K a b xc w.heap.size (w.heap.size+1) (w.heap.size+1+1) ms xs W' (p.less (by omega)) ((hm.grew kk).did d) ((hx.grew kk).did d) y x hn (by rw [d.ptr,z];exact (t.grew kl).did d A (by decide) (by decide)) ((d.kept.block _ (lt_of_block ((kl.block _ (lt_of_block j) (fun f=>f)).trans j)) (aI ((kl.block _ (lt_of_block j) (fun f=>f)).trans j) A (by decide) (by decide))).trans ((kl.block _ (lt_of_block j) (fun f=>f)).trans j)) ((s.grew kl).did d A (by decide) (by decide))).mono ?_;rintro e w' ⟨v',rfl,Y,o2,h1,h2,h3⟩
   refine ⟨v',0,rfl,_,_,o2,cW h1 (ag _ _ _),(fun _=>⟨Fresh.own h1 (leR _),U64s.own h1⟩),h3,fun I F=>⟨⟨h2 (F 0 (by omega)).2,rfl⟩,rfl⟩⟩)
 have k:(okMod ms K rs/\jb 1 n (val ms) (fun _=>N1) (fun _=>xs))↔(okMod ms K rs/\(N1=n/\val xs<val ms)):=
  and_congr_right fun _=>⟨fun h=>h 0 (by omega),fun h i hi=>h⟩
 rw [k] at g;have HB:Hid (∀ w' v' c,Asked Wl o true (okMod ms K rs/\(N1=n/\val xs<val ms)) (fun zs c=>zs=digs (gd 0 (val xs) (val ms)) n/\c=0) (List.replicate 1 (1,(n:Int),0) ++ List.replicate 2 (1,(n:Int),0)) w' v' c->Asked w o true (okMod ms K rs/\(N1=n/\val xs<val ms)) (fun zs c=>zs=digs (gd 0 (val xs) (val ms)) n/\c=0) (List.replicate 1 (1,(n:Int),0) ++ List.replicate 2 (1,(n:Int),0)) w' v' c):=fun w' v' c h=>h.after kk
 have D:W.heap.size=w.heap.size+1+1+1:=by rw [hW];simp
 rw [D] at g;have HW:=aa hW;have E:=aa q;obtain ⟨c3,c4,c5⟩:=aw j;have c0:=t.cell;have c1:=s.cell;rw [z] at g ⊢;clear ht hm hr hx y C x hK G z k0 t j s hW q r kk kl he D k B;generalize (okMod ms K rs/\(N1=n/\val xs<val ms))=PP at *;generalize (fun zs c=>zs=digs (gd 0 (val xs) (val ms)) n/\c=0)=RR at *;generalize List.replicate 1 (1,(n:Int),0) ++ List.replicate 2 (1,(n:Int),0)=EE at *;go_enter func194,ntmps194;go_wp2_with fail;rw [<- HW.out,<- E.out];refine g.mono ?_;rintro e w1 ⟨v1,c,rfl,h1⟩;have H1:=aa (HB.out _ _ _ h1);clear g h1 c0 c1 c3 c4 c5;go_wp2_with fail;go_ret2;exact ⟨_,c,rfl,H1.out⟩

end Go.Proofs.YtkaojflnghfmcaaGreatDoor
