/- Put together of: Sho3 LimH Ref6o Ref7B Ref7C RinA RinB RinC RinD Pro3 Ref5A PrK RinE Law6. -/
import Derived.Test.YtpkmoamgpjcdeaaGreatDoorBY9
import Derived.Deep.OwnRows
import Derived.StillTailTactics

namespace Go.Proofs.YtpkmoamgpjcdeaaGreatDoor
open _root_.Go.Proofs.Tryz
set_option maxRecDepth 100000
set_option maxHeartbeats 4000000
open Go.RowKit
variable {L M V X Y Z n p:Nat} {u:Bool} {w w':World}

theorem LJ (ao bo xo:OA) (n l K a b xc:Nat) (ms rs xs:LN) (w:World) (hM:Mod8 w none ao bo n l K a b ms rs) (hx:Row .u64 w (.slice xo n xc) xs) (f:Digs xs) (hlt:val xs<val ms) :
  ClZ 68 #[.pointer none,.agg (mzA ao n a K bo l b),.slice xo n xc] w fun e w'=>∃ zo zc,e=.returned (.tuple #[.slice zo n zc,.int .i64 0])/\MonR w' (.slice zo n zc) n (val ms) (val xs)/\Kept af w w':=by
 obtain ⟨⟨f0,f1⟩,f2,f3,f4,f5⟩:=hM.a;refine (qR none ao bo xo n l K a b n xc 0 ms rs xs w (TrRoom.none w _ (by omega)) hM.hm hM.hr (RowT.none hx) hM.hmd hM.hrd f hM.hK (by omega) ⟨fun _=>⟨hM.ok,rfl,hlt⟩,fun _=>rfl⟩).mono ?_;rintro e w' ⟨v',rfl,⟨Y,hR,hG⟩,_,o',d⟩;rw [ai rfl] at hR;have c:Y=mon n (val ms) (val xs):=hG rfl;rw [c] at hR;have hA:MonR w' v' n (val ms) (val xs):=hR;obtain ⟨zo,zc,rfl⟩:=hA.s;exact ⟨zo,zc,rfl,hA,d.none.2⟩

theorem Js (ao bo xo:OA) (n l K a b xc P:Nat) (ms rs:LN) (w:World) (hM:Mod8 w none ao bo n l K a b ms rs) (hx:MonR w (.slice xo n xc) n (val ms) P) :
  ClZ 69 #[.pointer none,.agg (mzA ao n a K bo l b),.slice xo n xc] w fun e w'=>∃ v',e=.returned (.tuple #[v',.int .i64 0])/\(Row .u64 w' v' (digs (P%val ms) n)/\U64s w' v')/\Kept af w w':=by
 obtain ⟨⟨f0,f1⟩,f2,f3,f4,f5⟩:=hM.a;have hV:0<val ms:=by omega
 have ex:=lH (P:=P) hV f5;refine (CG none ao bo xo n l K a b n xc 0 ms rs _ w (TrRoom.none w _ (by omega)) hM.hm hM.hr (RowT.none hx) hM.hmd hM.hrd (ak (by omega) _ _) hM.hK (by omega) ⟨fun _=>⟨hM.ok,rfl,by rw [ex];exact m9 hV⟩,fun _=>rfl⟩).mono ?_;rintro e w' ⟨v',rfl,⟨Y,hR,hG⟩,⟨hF,hU⟩,o',d⟩;rw [ai rfl] at hR;have c:=hG rfl;rw [ex] at c;rw [sx f3 c.1 c.2] at hR;exact ⟨v',rfl,⟨hR,hU⟩,d.none.2⟩

theorem Ak (ao bo xo eo:OA) (n l K a b N1 xc L c:Nat) (ms rs xs ys:LN) (E:Nat)
  (hE:(E=0/\(okMod ms K rs/\(N1=n/\val xs<val ms))/\L<=300)\/(E=2/\(okMod ms K rs/\(N1=n/\val xs<val ms))/\300<L)\/(E=1/\¬ (okMod ms K rs/\(N1=n/\val xs<val ms))))
  (RL:LN) (g:RL=if E=0 then digs (val xs^val ys%val ms) n else []) (w:World)
  (hm:Row .u64 w (.slice ao n a) ms) (hr:Row .u64 w (.slice bo l b) rs) (hx:Row .u64 w (.slice xo N1 xc) xs) (hy:Row .u64 w (.slice eo L c) ys) (m:Digs ms) (p:Digs rs) (j:Digs xs) (r:Digs ys) (hK:K<18446744073709551616) (s:n<=300) :
  ClZ 30 #[.agg (mzA ao n a K bo l b),.slice xo N1 xc,.slice eo L c] w fun e w'=>∃ v',e=.returned (.tuple #[v',.int .i64 ((E:Nat):Int)])/\(Row .u64 w' v' RL/\U64s w' v')/\Kept af w w':=by
 obtain ⟨W,hW⟩:=aj (w.alloc (.cells (mzA ao n a K bo l b) 71))
 have k0:Kept af w W:=by rw [hW];exact (ah af w).alloc _
 have q:W.heap[w.heap.size]? = some (.cells (mzA ao n a K bo l b) 71 (0,0)):=by rw [hW];exact heap_alloc_new _ _
 have JC:HzD (∀ W',Kept af W W'->W'.cell? ⟨w.heap.size,0,none⟩=some (.slice ao n a)/\W'.cell? ⟨w.heap.size,1,none⟩=some (.int .u64 (K:Nat))/\W'.cell? ⟨w.heap.size,2,none⟩=some (.slice bo l b)):=fun W' k=>ax ((k.block _ (lt_of_block q) (fun f=>f)).trans q)
 have HW:=aa hW;have t:=aa k0;obtain ⟨p0,p1,p2⟩:=JC.o _ (ah af W);by_cases hP:okMod ms K rs/\(N1=n/\val xs<val ms)
 ·obtain ⟨o,rfl,hlt⟩:=hP;have hM:Mod8 w none ao bo N1 l K a b ms rs:=⟨RowT.none hm,RowT.none hr,m,p,hK,o⟩
  have i:=LJ ao bo xo N1 l K a b xc ms rs xs W (hM.g k0) (hx.g k0) j hlt;by_cases hL:L<=300
  ·obtain rfl:E=0:=by
    rcases hE with h | h | h
    ·exact h.1
    ·omega
    ·exact absurd ⟨o,rfl,hlt⟩ h.2
   rw [ai rfl] at g;have gL:¬ (L:Int) > 300:=by omega
   have JR:HzD (∀ W' zo zc,Kept af W W'->MonR W' (.slice zo N1 zc) N1 (val ms) (val xs)->ClZ 70 #[.agg (mzA ao N1 a K bo l b),.slice zo N1 zc,.slice eo L c] W' fun e w'=>∃ yo yc,e=.returned (.slice yo N1 yc)/\MonR w' (.slice yo N1 yc) N1 (val ms) (val xs^val ys)/\Kept af W w'):=fun W' zo zc k h=>by
    refine (FE ao bo zo eo N1 l K a b zc L c _ ms rs ys W' (hM.g (k0.trans k)) h (hy.g (k0.trans k)) r hL).mono ?_;rintro e w' ⟨yo,yc,rfl,h1,h2⟩;exact ⟨yo,yc,rfl,h1,k.trans h2⟩
   have JL:HzD (∀ W' zo zc,Kept af W W'->MonR W' (.slice zo N1 zc) N1 (val ms) (val xs^val ys)->ClZ 69 #[.pointer none,.agg (mzA ao N1 a K bo l b),.slice zo N1 zc] W' fun e w'=>∃ v',e=.returned (.tuple #[v',.int .i64 0])/\(Row .u64 w' v' RL/\U64s w' v')/\Kept af W w'):=fun W' zo zc k h=>by
    refine (Js ao bo zo N1 l K a b zc _ ms rs W' (hM.g (k0.trans k)) h).mono ?_;rintro e w' ⟨v',rfl,⟨h1,h3⟩,h2⟩;rw [<- g] at h1;exact ⟨v',rfl,⟨h1,h3⟩,k.trans h2⟩
   clear hE g hm hr hx hy m p j r hK hW k0 q o hlt hM hL s;generalize val ms=V at *;generalize val xs=X at *;generalize X^val ys=Y at *;delta ClZ;go_in;go_wp2_with (rw [<- HW.o]);refine i.mono ?_;rintro e w1 ⟨zo,zc,rfl,x,k1⟩;obtain ⟨q0,q1,q2⟩:=JC.o _ k1;have kd:Kept af W w1.drew:=k1.drew;have y:=x.g (ah af w1).drew;clear i p0 p1 p2;go_wp2_with fail;go_region_held3 (fun w'=>w'.cell? ⟨w.heap.size,0,none⟩=some (.slice ao N1 a)/\w'.cell? ⟨w.heap.size,1,none⟩=some (.int .u64 (K:Int))/\w'.cell? ⟨w.heap.size,2,none⟩=some (.slice bo l b))
    (((try dsimp only);(repeat' apply And.intro) <;> first | (go_keep;done) | assumption))
    (first
    | (go_at_call 70;refine (JR.o _ zo zc kd y).mono ?_;rintro e w2 ⟨yo,yc,rfl,z,k2⟩;obtain ⟨s0,s1,s2⟩:=JC.o _ k2)
    | (go_at_call 69;refine (JL.o _ yo yc k2 z).mono ?_;rintro e w4 ⟨v4,rfl,A,k4⟩;obtain ⟨t0,t1,t2⟩:=JC.o _ k4))
   all_goals
    go_wp2_with fail;go_ret2;exact ⟨_,rfl,A,t.o.trans k4⟩
  ·obtain rfl:E=2:=by
    rcases hE with h | h | h
    ·exact absurd h.2.2 hL
    ·exact h.1
    ·exact absurd ⟨o,rfl,hlt⟩ h.2
   rw [aK] at g;have gL:(L:Int) > 300:=by omega
   have v:=aa g;clear hE g hm hr hx hy m p j r hK hW k0 q o hlt hM hL s;delta ClZ;go_in;go_wp2_with (rw [<- HW.o]);refine i.mono ?_;rintro e w1 ⟨zo,zc,rfl,x,k1⟩;clear i p0 p1 p2 x;go_wp2_with fail;go_ret2;exact ⟨_,rfl,⟨by rw [v.o];exact Row.nil _ _,U64s.nil _⟩,t.o.trans k1⟩
 ·obtain rfl:E=1:=by
   rcases hE with h | h | h
   ·exact absurd h.2.1 hP
   ·exact absurd h.2.1 hP
   ·exact h.1
  rw [aK] at g;have v:=aa g;have i:ClZ 68 #[.pointer none,.agg (mzA ao n a K bo l b),.slice xo N1 xc] W fun e w'=>∃ v',e=.returned (.tuple #[v',.int .i64 1])/\Kept af W w':=by
   refine (qR none ao bo xo n l K a b N1 xc 1 ms rs xs W (TrRoom.none W _ (by omega)) (RowT.none (hm.g k0)) (RowT.none (hr.g k0)) (RowT.none (hx.g k0)) m p j hK s ⟨fun h=>absurd h (by omega),fun h=>absurd h hP⟩).mono ?_;rintro e w' ⟨v',rfl,_,_,o',d⟩;exact ⟨v',rfl,d.none.2⟩
  clear hE g hm hr hx hy m p j r hK hW k0 q hP s;delta ClZ;go_in;go_wp2_with (rw [<- HW.o]);refine i.mono ?_;rintro e w1 ⟨v1,rfl,k1⟩;clear i p0 p1 p2;go_wp2_with fail;go_ret2;exact ⟨_,rfl,⟨by rw [v.o];exact Row.nil _ _,U64s.nil _⟩,t.o.trans k1⟩

theorem GP:jL 1=1:=by decide

theorem Lt (ao bo xo:OA) (n l K a b N1 xc d:Nat) (ms rs xs:LN) (E:Nat)
  (hE:E=0↔(okMod ms K rs/\(N1=n/\val xs<val ms))) (s:E<=1)
  (RL:LN) (i:RL=if E=0 then digs (val xs^d%val ms) n else []) (w:World)
  (hm:Row .u64 w (.slice ao n a) ms) (hr:Row .u64 w (.slice bo l b) rs) (hx:Row .u64 w (.slice xo N1 xc) xs) (m:Digs ms) (p:Digs rs) (j:Digs xs) (hd:d<18446744073709551616) (hK:K<18446744073709551616) (o:n<=300) :
  ClZ 63 #[.agg (mzA ao n a K bo l b),.slice xo N1 xc,.int .u64 (d:Nat)] w fun e w'=>∃ v',e=.returned (.tuple #[v',.int .i64 ((E:Nat):Int)])/\(Row .u64 w' v' RL/\U64s w' v')/\Kept af w w':=by
 obtain ⟨W,hW⟩:=aj (w.alloc (.cells (mzA ao n a K bo l b) 71))
 have k0:Kept af w W:=by rw [hW];exact (ah af w).alloc _
 have c:W.heap[w.heap.size]? = some (.cells (mzA ao n a K bo l b) 71 (0,0)):=by rw [hW];exact heap_alloc_new _ _
 have JC:HzD (∀ W',Kept af W W'->W'.cell? ⟨w.heap.size,0,none⟩=some (.slice ao n a)/\W'.cell? ⟨w.heap.size,1,none⟩=some (.int .u64 (K:Nat))/\W'.cell? ⟨w.heap.size,2,none⟩=some (.slice bo l b)):=fun W' k=>ax ((k.block _ (lt_of_block c) (fun f=>f)).trans c)
 have JW:HzD (ClZ 106 #[.int .u64 (d:Nat),.int .i64 1] W.drew fun r w'=>∃ zo zc,r=.returned (.slice zo 1 zc)/\Row .u64 w' (.slice zo 1 zc) [d]/\Kept af W w'):=by
  refine (Gw d hd 1 W.drew).mono ?_;rintro e w' ⟨v',rfl,h1,h2⟩;rw [GP,jt d 0 hd] at h1;have g:Row .u64 w' v' [d]:=h1;obtain ⟨zo,zn,zc,rfl,hl,_⟩:=g.open;obtain rfl:zn=1:=hl.o.symm;exact ⟨zo,zc,rfl,g,(ah af W).drew.trans h2⟩
 have JQ:HzD (∀ W' zo zc,Kept af W W'->Row .u64 W' (.slice zo 1 zc) [d]->ClZ 30 #[.agg (mzA ao n a K bo l b),.slice xo N1 xc,.slice zo 1 zc] W' fun e w'=>∃ v',e=.returned (.tuple #[v',.int .i64 ((E:Nat):Int)])/\(Row .u64 w' v' RL/\U64s w' v')/\Kept af W w'):=fun W' zo zc k h=>by
  have kk:=k0.trans k;have hv:val [d]=d:=by simp [val]
  refine (Ak ao bo xo zo n l K a b N1 xc 1 zc ms rs xs [d] E ?_ RL (by rw [hv];exact i) W' (hm.g kk) (hr.g kk) (hx.g kk) h m p j (Digs.one hd) hK o).mono ?_
  ·by_cases h0:E=0
   ·exact .inl ⟨h0,hE.1 h0,by omega⟩
   ·exact .inr (.inr ⟨by omega,fun h=>h0 (hE.2 h)⟩)
  ·rintro e w' ⟨v',rfl,h1,h2⟩;exact ⟨v',rfl,h1,k.trans h2⟩
 have HW:=aa hW;have q:=aa k0;obtain ⟨p0,p1,p2⟩:=JC.o _ (ah af W);have x:=JW.o;clear hE s i hm hr hx m p j hd hK hW k0 c o;delta ClZ;go_in;go_wp2_with (rw [<- HW.o]);go_region_held3 (fun w'=>w'.cell? ⟨w.heap.size,0,none⟩=some (.slice ao n a)/\w'.cell? ⟨w.heap.size,1,none⟩=some (.int .u64 (K:Int))/\w'.cell? ⟨w.heap.size,2,none⟩=some (.slice bo l b))
  (((try dsimp only);(repeat' apply And.intro) <;> first | (go_keep;done) | assumption))
  (first
  | (go_at_call 106;refine x.mono ?_;rintro e w2 ⟨zo,zc,rfl,t,k2⟩;obtain ⟨s0,s1,s2⟩:=JC.o _ k2)
  | (go_at_call 30;refine (JQ.o _ zo zc k2 t).mono ?_;rintro e w4 ⟨v4,rfl,v,k4⟩;obtain ⟨t0,t1,t2⟩:=JC.o _ k4))
 all_goals
  go_wp2_with fail;go_ret2;exact ⟨_,rfl,v,q.o.trans k4⟩

theorem Ih (ao bo xo eo:OA) (n l K b c N1 xc L a:Nat) (ms rs xs ys:LN) (E:Nat)
  (hE:(E=0/\(okMod ms K rs/\(N1=n/\val xs<val ms))/\L<=300)\/(E=2/\(okMod ms K rs/\(N1=n/\val xs<val ms))/\300<L)\/(E=1/\¬ (okMod ms K rs/\(N1=n/\val xs<val ms))))
  (RL:LN) (d:RL=if E=0 then digs (val xs^val ys%val ms) n else []) (w:World)
  (hm:Row .u64 w (.slice ao n b) ms) (hr:Row .u64 w (.slice bo l c) rs) (hx:Row .u64 w (.slice xo N1 xc) xs) (hy:Row .u64 w (.slice eo L a) ys) (h:Digs ms) (j:Digs rs) (f:Digs xs) (g:Digs ys) (hK:K<18446744073709551616) (i:n<=300) :
  ClZ 30 #[.agg (mzA ao n b K bo l c),.slice xo N1 xc,.slice eo L a] w fun e w'=>∃ v',e=.returned (.tuple #[v',.int .i64 ((E:Nat):Int)])/\Row .u64 w' v' RL/\Kept af w w':=
 (Ak ao bo xo eo n l K b c N1 xc L a ms rs xs ys E hE RL d w hm hr hx hy h j f g hK i).mono fun _ _ ⟨v',h1,h2,h3⟩=>⟨v',h1,h2.1,h3⟩

theorem AF {t:Nat} (hp:p<n):dig X p=dig (X+t*18446744073709551616^n) p:=by
 unfold dig;have e:t*18446744073709551616^n=18446744073709551616^p*(t*18446744073709551616^(n-p-1)*18446744073709551616):=by
  rw [show n=p+((n-p-1)+1) by omega,aL,aG,show p+(n-p-1+1)-p-1=n-p-1 by omega];simp only [iu,aD]
 rw [e,jQ _ _ (aX),Nat.add_mul_mod_self_right]

theorem Bk (Z p:Nat):dig (Z/2) p=dig Z p/2+9223372036854775808*(Z/18446744073709551616^(p+1)%2):=by
 unfold dig;rw [aG,<- di,di Z 2,aD 2,<- di];generalize Z/18446744073709551616^p=T;omega

theorem Io (x c:Nat) (hx:x<18446744073709551616) (hc:c<=1):bits .or .u64 ((x/2:Nat):Int) ((9223372036854775808*c:Nat):Int)=((x/2+9223372036854775808*c:Nat):Int):=by
 rw [u64_or_nat _ _ (by omega) (by omega)]
 congr 1
 rw [Nat.or_comm,lf,show 9223372036854775808*c=2^63*c from rfl,<- lr (by omega:x/2<2^63)]

theorem FJ (D:LN) (n k m:Nat) (hl:D.length=n) (hk:k<n) (hm:m=n-1-k):(List.replicate (n-k) 0 ++ D.drop (n-k)).set m (D.getD m 0)=List.replicate (n-(k+1)) 0 ++ D.drop (n-(k+1)):=by
 rw [show n-(k+1)=m by omega,show n-k=m+1 by omega,iq,dX,ir _ _ (by simp),bw,cj,eE (show m<D.length by omega),aA,aS (show m<D.length by omega)];simp

theorem D5 {base g k m:Nat} {t:TypeId} {D:LN} (h:OwnN .u64 t w base (.slice (some ⟨g,0,none⟩) n n) n (List.replicate (n-k) 0 ++ D)) (hk:k<n) (hm:m=n-1-k):w.cell? ⟨g,m,none⟩=some (.int .u64 0):=by
 rw [World.ownsRow.cellAt h m (by omega),bV,im (by simp;omega),eF,cf];rfl

theorem Hk (o:Tr) (u:Value) (xs:LN) (bit:Nat) (M:bit<18446744073709551616) (w:World) (ht:TrRoom w o 1) (hu:RowT w o u xs) (q:Digs xs) (hL:xs.length<=100000000) :
  ClZ 248 #[aP o,u,.int .u64 (bit:Nat)] w fun e w'=>∃ v',e=.returned (.tuple #[v',.int .u64 ((val xs+bit%2*18446744073709551616^xs.length)%2:Nat)]) /\
   OwnN .u64 24 w' w.heap.size v' xs.length (digs ((val xs+bit%2*18446744073709551616^xs.length)/2) xs.length)/\∃ o',Did w o [(1,(xs.length:Nat),0)] w' o':=by
 obtain ⟨i0,N,Q,R,S⟩:=info_parts Tryz.info24;have l:=and_one_u64 (bit:Int) (by omega) (by omega);obtain ⟨bt,t⟩:=aj (bit%2)
 rw [show (bit:Int)%2=(bt:Int) by omega] at l;rw [<- t];have L:bt<=1:=by omega
 clear t;have a:=aa (kw q);have hX:HzD (val xs<18446744073709551616^xs.length):=eX q (leR _);obtain ⟨ao,n,H,rfl,j,_,_,_,_⟩:=hu.1.open;have ac:n<=100000000:=by rw [<- j.o];exact hL
 rw [j.o] at hX a ⊢;have HU:HzD (RowT w o (.slice ao n H) xs):=hu;have hS:=gh o n w ht.1;obtain ⟨tp,B⟩:=aj (aP o)
 rw [<- B] at hS ⊢;clear hu ht j q B hL;generalize val xs=X at *;have hD:HzD (∀ p,p<n->dig X p=dig (X+bt*18446744073709551616^n) p):=fun p hp=>AF hp
 have I:HzD (bt=(X+bt*18446744073709551616^n)/18446744073709551616^n%2):=by
  unfold HzD;rw [Nat.add_mul_div_right _ _ (aX),bJ hX.o];omega
 generalize X+bt*18446744073709551616^n=Z at *;obtain ⟨C,hC⟩:=aj (Z%2)
 rw [<- hC];have HC:=aa hC;clear hC;delta ClZ;go_in;go_wp2_with fail;refine hS.mono ?_;rintro e w4 ⟨rfl,o2,d2⟩;have d4:=aa d2;have y:=HU.o.did d2;obtain ⟨a1,n1,c1,e1,J,_,_,_,f⟩:=y.1.open;simp only [Value.slice.injEq] at e1;obtain ⟨rfl,rfl,rfl⟩:=e1;have P:HzD (w.heap.size<=w4.heap.size):=d2.size;rw [<- a.o] at f;clear hS d2 y J;go_wp2_with (at_make;refine wpList_make_full _ rfl _ _ 23 rfl w4.heap.size 24 i0 _ 1 underlying23 N Q R _ _ _ _ n rfl rfl rfl rfl (by rw [S];omega) (by unfold maxLen;omega) (leR _) ?_;intro w5 g v);rw [bD] at g;have k5:=bf v;clear v
 go_loopw [10,23] (fun c i wr=>∃ (k c':Nat),k<=n/\c'<=1/\i=.int .i64 (k:Int)/\c=.int .u64 (c':Int)/\OwnN .u64 24 wr w4.heap.size (.slice (some ⟨w4.heap.size,0,none⟩) n n) n (List.replicate (n-k) 0 ++ (digs (Z/2) n).drop (n-k))/\Kept af w4 wr /\
   HzD (c'=Z/18446744073709551616^(n-k)%2)) (fun _ i _=>n-(intOf i).toNat)
 case atStart=>exact ⟨0,bt,aQ _,L,rfl,rfl,by rw [et,nA (by rw [ag];exact leR _),dY];exact g,k5,I⟩
 case round=>
  obtain ⟨k,c,hk,hc,rfl,rfl,ho,r,d⟩:=hrel;by_cases hkn:k<n
  ·have W:(0:Int)<=(k:Int):=cN _;have O:(k:Int)<(n:Int):=by omega
   obtain ⟨m,hm⟩:=aj (n-1-k)
   obtain ⟨b1,T,rfl,V⟩:=fi ((f m (by omega)).g r);have U:=D5 ho hkn hm;have hf:=World.ownsRow.frozenAt ho m;have A:=fun u=>(World.ownsRow.stored ho m u).1
   have hx:dig X m<18446744073709551616:=bu;obtain ⟨z,hz⟩:=aj (dig X m/2+9223372036854775808*c:Nat)
   have D:z=dig (Z/2) m:=by
    rw [hz,Bk,hD.o m (by omega),d.o,show m+1=n-k by omega]
   have G:HzD (OwnN .u64 24 (wr.setCell ⟨w4.heap.size,m,none⟩ (.int .u64 (z:Int))) w4.heap.size (.slice (some ⟨w4.heap.size,0,none⟩) n n) n (List.replicate (n-(k+1)) 0 ++ (digs (Z/2) n).drop (n-(k+1)))):=by
    have:=A (.int .u64 (z:Int));unfold HzD OwnN;rw [<- FJ _ n k m (ag _ _ _) hkn hm,jg _ _ _ _ (by omega),<- D,cG];exact this
   have E:HzD (dig X m%2=Z/18446744073709551616^(n-(k+1))%2):=by
    unfold HzD;rw [hD.o m (by omega),show n-(k+1)=m by omega];unfold dig;omega
   have ad:(n:Int)-1-(k:Int)=(m:Int):=by omega
   have Y:(0:Int)<=(m:Int):=cN _;have ab:(m:Int)<(n:Int):=by omega
   clear f d A g k5 D hm;generalize dig X m=x at *;have F:HzD (bits .or .u64 ((x:Int)/2) ((c:Int)*9223372036854775808)=(z:Int)):=by
    unfold HzD;rw [show ((c:Int)*9223372036854775808)=((9223372036854775808*c:Nat):Int) by omega,show (x:Int)/2=((x/2:Nat):Int) by omega,Io x c hx hc,hz]
   have s:=and_one_u64 (x:Int) (by omega) (by omega);clear hz;go_wp2_with fail;go_region
   all_goals
    go_wp2_with fail;rw [F.o];go_roundw
    case rel=>exact ⟨k+1,x%2,by omega,by omega,by go_num,rfl,G.o,(r.setCell _ (fun h=>by simp at h) _).drew,E⟩
    case measure=>simp [intOf];omega
  ·have O:¬ (k:Int)<(n:Int):=by omega
   have e:k=n:=by omega
   subst e;rw [cj,fg,bZ,il] at ho;have E2:HzD (C=c):=by
    have:=d.o;rw [cj,cP,fC] at this;exact HC.o.trans this.symm
   clear f d g k5;go_wp2_with fail;go_ret2;rw [E2.o];exact ⟨_,rfl,dg ho (fun b hb=>aI P.o (ho.lt b hb).1),o2,d4.o.g r⟩

theorem uU (w:World):Kept af w w:=ah af w

theorem uT {a:World} (h:Kept af a w):Kept af a w.drew:=h.drew

theorem oP {a:World} (o:Obj) (h:Kept af a w):Kept af a (w.alloc o):=h.alloc o

def ij (x y V:Nat):Nat:=if y<=x then x-y else x+V-y

def Cp (x V:Nat):Nat:=(if x%2=1 then x+V else x)/2

theorem qY (b:Bool):dF b<=1:=by unfold dF;split <;> omega

theorem r9 {a b:Nat} (h:a%18446744073709551616^n=b%18446744073709551616^n):digs a n=digs b n:=
 cS (by omega) (ak (by omega) _ _) (ag _ _ _) (by rw [ay];exact h)

theorem FS (_:X<V) (hZ:Z<V) (hV:V<18446744073709551616^n):digs (cZ (dF (decide (X<Z))) (gV X Z n%18446744073709551616^n+V) (gV X Z n%18446744073709551616^n)) n=digs (ij X Z V) n:=by
 apply r9;unfold gV ij cZ dF;rw [<- B64];generalize 18446744073709551616^n=P at *;by_cases h:X<Z
 ·rw [dV h,ai rfl,ai rfl,ai h,aK,aB (show X+P-Z<P by omega),show X+P-Z+V=X+V-Z+P by omega,nG]
 ·rw [ar h,ai (show Z<=X by omega)];simp [h]

theorem tR (hX:X<V) (hZ:Z<V):ij X Z V<V:=by
 unfold ij
 split <;> omega

theorem Gl (o:Tr) (ao bo xo yo:OA) (n n1 a rl f xc yc:Nat) (K:Int) (xs ys ms:LN) (w:World) (ht:TrRoom w o 2) (hx:RowT w o (.slice xo n1 xc) xs) (hy:RowT w o (.slice yo n yc) ys) (hm:RowT w o (.slice ao n a) ms) (s:Digs xs) (t:Digs ys) (q:Digs ms) (hn:n<=100000) (v:n1<=n) :
  ClZ 165 #[aP o,.agg #[.slice ao n a,.int .u64 K,.slice bo rl f],.slice xo n1 xc,.slice yo n yc] w fun e w'=>∃ v',e=.returned v'/\lP w o (List.replicate 2 (1,(n:Int),0)) n (fun Y=>val xs<val ms->val ys<val ms->digs Y n=digs (ij (val xs) (val ys) (val ms)) n) w' v':=by
 obtain ⟨_,_,_,e1,l,_,_,_,_⟩:=hx.1.open;cases e1
 obtain ⟨_,_,_,e1,m,_,_,_,_⟩:=hy.1.open;cases e1
 obtain ⟨_,_,_,e1,j,_,_,_,_⟩:=hm.1.open;cases e1
 have p:val ms<18446744073709551616^n:=by rw [<- j.o];exact aE (by omega) q
 have k0:Kept af w (w.alloc (.cells #[.slice ao n a,.int .u64 K,.slice bo rl f] 71)):=(ah af w).alloc _;have h:(w.alloc (.cells #[.slice ao n a,.int .u64 K,.slice bo rl f] 71)).heap[w.heap.size]? = some (.cells #[.slice ao n a,.int .u64 K,.slice bo rl f] 71 (0,0)):=heap_alloc_new _ _;obtain ⟨X,hX⟩:=aj (val xs)
 obtain ⟨Z,hZ⟩:=aj (val ys)
 obtain ⟨V,hV⟩:=aj (val ms)
 rw [<- hX,<- hZ,<- hV];rw [<- hV] at p;have g:=Cz o _ _ xs ys _ ((ht.l (by omega)).g k0) (hx.g k0) (hy.g k0) s t (by rw [l.o];omega) (by rw [m.o];omega);rw [l.o,m.o,Nat.max_eq_right v,<- hX,<- hZ] at g;have HN:=aa (fun h1 h2=>FS (X:=X) (Z:=Z) (V:=V) (n:=n) h1 h2 p);obtain ⟨c,hc⟩:=aj (dF (decide (X<Z)))
 have F:c<=1:=by rw [hc];exact qY _
 rw [<- hc] at g HN;have r:HzD (∀ (W:World) (o1:Tr) (m1:List Ev) (v1:Value),Did w o m1 W o1->m1.length=1->RowT W o1 v1 (digs (gV X Z n) n)->ClZ 166 #[aP o,.int .u64 (c:Nat),v1,.slice ao n a] W fun e w'=>∃ v' c',e=.returned (.tuple #[v',.int .u64 c'])/\OwnN .u64 24 w' W.heap.size v' n (digs (cZ c (gV X Z n%18446744073709551616^n+V) (gV X Z n%18446744073709551616^n)) n)/\∃ o',Did W o1 [(1,(n:Nat),0)] w' o'):=fun W o1 m1 v1 d hl hr=>by
  have:=yt o1 c (by omega) v1 _ _ ms W (d.room (by rw [hl];exact ht.l (by omega))) hr (hm.did d) (ak (by omega) _ _) q (by rw [ag];omega) (by rw [j.o];omega);rw [ag,j.o,it,ay,<- hV,d.ptr] at this;refine this.mono ?_;rintro e w' ⟨v',rfl,h1,h2⟩;exact ⟨v',_,rfl,h1,h2⟩
 have HT:=aa ht.1;have z:=aa ht;obtain ⟨po,y⟩:=aM o;rw [y] at g r ⊢;have K0:=aa k0;clear hm hx hy ht l m j s t q k0 hX hZ hV p hc y v;obtain ⟨p0,p1,p2⟩:=ax h;delta ClZ;go_in;go_wp2_with fail;refine g.mono ?_;rintro e w1 ⟨v1,rfl,B,o1,d1⟩;have i:=Did.b K0.o d1;have D:=(d1.kept.block _ (lt_of_block h) (aH h (HT.o.g K0.o))).trans h;have E:=(i.room (k:=0) (z.o.l (by simp))).1;have C:=ib B (ag _ _ _) E;obtain ⟨q0,q1,q2⟩:=ax D;have A:=r.o w1 o1 _ v1 i rfl C;clear g p0 p1 p2 h;go_wp2_with fail;refine A.mono ?_
 rintro e w2 ⟨v2,c2,rfl,x,o2,d2⟩;go_wp2_with fail;go_ret;refine ⟨_,rfl,_,o2,dg x (fun b hb=>?_),(fun h1 h2=>HN.o h1 h2),i.trans d2⟩;have:=(x.lt b hb).1;have:=i.size;omega

theorem Gm (ao bo lo:OA) (n l a b c g:Nat) (K:Int) (A:Nat->OA) (N C:Nat->Nat) (R:Bool) (hR:R=true↔(∀ i,i<c->N i=n)/\n<=130) (w:World) (hs:Slots w lo c A N C) (p:c<=1000) (hN:∀ i,i<c->N i<=1000000000) (hn:n<=1000000000:=by omega) :
  ClZ 161 #[.agg #[.slice ao n a,.int .u64 K,.slice bo l b],.slice lo c g] w fun e w'=>e=.returned (.bool R)/\Kept af w w':=by
 have k0:Kept af w (w.alloc (.cells #[.slice ao n a,.int .u64 K,.slice bo l b] 71)):=(ah af w).alloc _;have m:(w.alloc (.cells #[.slice ao n a,.int .u64 K,.slice bo l b] 71)).heap[w.heap.size]? = some (.cells #[.slice ao n a,.int .u64 K,.slice bo l b] 71 (0,0)):=heap_alloc_new _ _;obtain ⟨p0,p1,p2⟩:=ax m;have HS:HzD (Slots (w.alloc (.cells #[.slice ao n a,.int .u64 K,.slice bo l b] 71)) lo c A N C):=hs.g k0;have HR:=aa hR;have HN:=aa hN;clear hs m hR hN;generalize hW:w.alloc (.cells #[.slice ao n a,.int .u64 K,.slice bo l b] 71)=W at *;have HW:=aa hW;clear hW;delta ClZ;go_in;go_wp2_with (rw [HW.o])
 go_loopw [13] (fun i wr=>∃ (k:Nat),k<=c/\i=.int .i64 (k:Int)/\HzD (∀ j,j<k->N j=n)/\Kept af W wr) (fun i _=>c-(intOf i).toNat)
 case atStart=>exact ⟨0,aQ _,rfl,fun j hj=>by omega,ah _ _⟩
 case round=>
  obtain ⟨k,hk,rfl,d,f⟩:=hrel;by_cases hkc:k<c
  ·have r:(0:Int)<=(k:Int):=cN _;have gk:(k:Int)<(c:Int):=by omega
   obtain ⟨b2,q,rfl,o⟩:=(HS.o.g f) k hkc;have s:=HN.o k hkc;by_cases he:N k=n
   ·have HA:HzD (∀ j,j<k+1->N j=n):=fun j hj=>by
     by_cases e:j=k
     ·subst e;exact he
     ·exact d.o j (by omega)
    generalize A k=a0 at *;generalize C k=c0 at *;rw [he] at o;clear he;go_wp2_with fail;go_roundw
    case rel=>exact ⟨k+1,by omega,by go_num,HA,f⟩
    case measure=>simp [intOf];omega
   ·have HF:HzD (R=false):=by
     unfold HzD;cases h:R with
     | false=>rfl
     | true=>exact absurd ((HR.o.1 h).1 k hkc) he
    have ge:¬ ((N k:Nat):Int)=(n:Int):=by omega
    generalize A k=a0 at *;generalize C k=c0 at *;generalize N k=n0 at *;go_wp2_with fail;go_ret;exact ⟨by rw [HF.o];rfl,k0.trans f⟩
  ·have gk:¬ (k:Int)<(c:Int):=by omega
   obtain rfl:k=c:=by omega
   have HB:HzD (R=decide ((n:Int)<=130)):=by
    unfold HzD;by_cases h:n<=130
    ·rw [dV (by omega)];exact HR.o.2 ⟨d.o,h⟩
    ·rw [cI (by omega)];cases h2:R with
     | false=>rfl
     | true=>exact absurd (HR.o.1 h2).2 h
   go_wp2_with fail;go_ret;exact ⟨by rw [HB.o];rfl,k0.trans f⟩

def Lies (u:Bool) (w w':World) (v:Value):Prop:=u=true->Fresh w v/\U64s w' v

theorem Lies.g {w2:World} {v:Value} (h:Lies u w w' v) (k:Kept af w' w2):Lies u w w2 v:=fun e=>⟨(h e).1,(h e).2.g k⟩

theorem Lies.nil (u:Bool) (w w':World):Lies u w w' (.slice none 0 0):=fun _=>⟨(fun b hb=>by cases hb),U64s.nil _⟩

theorem Lies.b {W:World} {v:Value} (h:Lies u W w' v) (hs:w.heap.size<=W.heap.size):Lies u w w' v:=fun e=>⟨fun b hb=>aI hs ((h e).1 b hb),(h e).2⟩

def Asked (w:World) (o:Tr) (u:Bool) (P:Prop) (R:LN->Nat->Prop) (dE:List Ev) (w':World) (v':Value) (c:Nat):Prop:=
 ∃ (zs:LN) (m:List Ev) (o':Tr),Row .u64 w' v' zs/\Lies u w w' v'/\Did w o m w' o'/\(P->R zs c/\m=dE)/\(¬ P->zs=[]/\c=1)

theorem th (o:Tr) (ao bo lo:OA) (n l K b g a r f:Nat) (s:Array Value) (A:Nat->OA) (N C:Nat->Nat) (j:Nat->LN) (ms rs:LN) (rm:Nat) (dE:List Ev) (u:Bool) (R:LN->Nat->Prop) (w:World)
  (ht:TrRoom w o (a+rm)) (hm:RowT w o (.slice ao n b) ms) (hr:RowT w o (.slice bo l g) rs) (E:Digs ms) (H:Digs rs) (hK:K<18446744073709551616) (an:n<=1000000) (D:a<=1000) (F:∀ i,i<a->N i<=1000000000)
  (hs:∀ W m o',Did w o m W o'->Slots W lo a A N C) (q:∀ i,i<a->RowT w o (.slice (A i) (N i) (C i)) (j i)) (t:∀ i,i<a->Digs (j i))
  (hf:∀ args w,(callFunc f args).run prog w=.ok (.enter f args) w)
  (G:n<=130->(∀ i,i<a->N i=n)->∀ W m o',Did w o m W o'->TrRoom W o' rm->ClZ f s W fun e w'=>∃ v' c,e=.returned (.tuple #[v',.int .i64 ((c:Nat):Int)])/\∃ zs m' o2,Row .u64 w' v' zs/\Lies u W w' v'/\Did W o' m' w' o2/\(okMod ms K rs->jC a n (val ms) N j->R zs c/\m'=dE)) :
  ClZ 103 #[aP o,.agg (mzA ao n b K bo l g),.func (.func f) #[] s,.slice lo a r] w fun e w'=>∃ v' c,e=.returned (.tuple #[v',.int .i64 ((c:Nat):Int)]) /\
   Asked w o u (okMod ms K rs/\jC a n (val ms) N j) R (List.replicate a (1,(n:Int),0) ++ dE) w' v' c:=by
 obtain ⟨_,_,_,e1,B,_,_,_,_⟩:=hm.1.open;cases e1
 obtain ⟨po,I⟩:=aM o;obtain ⟨V,hV⟩:=aj (val ms)
 rw [<- hV];rw [<- hV] at G;have x:=ht.1;obtain ⟨W,hW⟩:=aj (w.alloc (.cells (mzA ao n b K bo l g) 71))
 have k0:Kept af w W:=by rw [hW];exact (ah af w).alloc _
 have y:W.heap[w.heap.size]? = some (.cells (mzA ao n b K bo l g) 71 (0,0)):=by rw [hW];exact heap_alloc_new _ _
 have JM:HzD (∀ W' m o',Did W o m W' o'->W'.cell? ⟨w.heap.size,0,none⟩=some (.slice ao n b)/\W'.cell? ⟨w.heap.size,1,none⟩=some (.int .u64 (K:Nat))/\W'.cell? ⟨w.heap.size,2,none⟩=some (.slice bo l g)):=fun W' m o' d=>ax ((d.kept.block _ (lt_of_block y) (aH y (x.g k0))).trans y)
 obtain ⟨p0,p1,p2⟩:=ax y;have K0:=aa k0;have HW:=aa hW;have M:=aa x;by_cases hlen:(∀ i,i<a->N i=n)/\n<=130
 ·have hH:=Gm ao bo lo n l b g a r K A N C true (by simp only [true_iff];exact hlen) W (hs W _ _ (Did.of_kept k0 x)) D F;have JB:HzD (∀ W' m o' i,Did W o m W' o'->TrRoom W' o' 1->i<a->ClZ 112 #[.pointer po,.slice (A i) (N i) (C i),.slice ao n b] W' fun e w'=>e=.returned (.int .u64 ((tx (N i) n (val (j i)) V:Nat):Int))/\∃ o2,Did W' o' [(1,(n:Int),0)] w' o2):=fun W' m o' i d L hi=>by
   have Q:=Did.b k0 d;obtain ⟨_,_,_,e1,O,_,_,_,_⟩:=(q i hi).1.open;cases e1
   have P:=hlen.1 i hi;have:=sr o' _ _ (j i) ms W' L ((q i hi).did Q) (hm.did Q) (t i hi) E (by rw [O.o];omega) (by rw [B.o];omega);rw [O.o,B.o,P,it,d.ptr,I,<- hV] at this;rw [P];refine this.mono ?_;rintro e w' ⟨rfl,h2⟩;refine ⟨?_,h2⟩;unfold tx dF;by_cases hlt:val (j i)<V
   ·rw [dV hlt,ai rfl,ai ⟨rfl,hlt⟩]
   ·rw [cI hlt,ar (by decide),ar (fun h=>hlt h.2)]
  have JD:HzD (∀ W' m o',Did W o m W' o'->TrRoom W' o' rm->ClZ f s W' fun e w'=>∃ v' c,e=.returned (.tuple #[v',.int .i64 ((c:Nat):Int)])/\∃ zs m' o2,Row .u64 w' v' zs/\Lies u W' w' v'/\Did W' o' m' w' o2/\(okMod ms K rs->jC a n V N j->R zs c/\m'=dE)):=fun W' m o' d L=>G hlen.2 hlen.1 W' m o' (Did.b k0 d) L
  have JK:HzD (∀ W' m o' (R:Bool),Did W o m W' o'->(R=true↔okMod ms K rs)->ClZ 114 #[.agg (mzA ao n b K bo l g)] W' fun e w'=>e=.returned (.bool R)/\Kept af W' w'):=fun W' m o' R d hR=>oS ao bo n l K b g ms rs R hR W' (hm.did (Did.b k0 d)).1 (hr.did (Did.b k0 d)).1 E H hK
  have JS:HzD (∀ W' m o',Did W o m W' o'->Slots W' lo a A N C):=fun W' m o' d=>hs W' m o' (Did.b k0 d)
  have HT:=aa ht;clear hm hr E H hK hs q t G x ht B hV hW y hlen F k0;rw [I];delta ClZ;go_in;go_wp2_with (rw [<- HW.o]);refine hH.mono ?_;rintro e w1 ⟨rfl,k1⟩;have H1:HzD (Did W o [] w1 o):=Did.of_kept k1 (M.o.g K0.o);clear hH k1 p0 p1 p2;go_wp2_with fail;go_loopw [10,21] (fun mv i wr=>∃ (k:Nat) (o1:Tr),k<=a/\i=.int .i64 (k:Int)/\mv=.int .u64 ((inN a n V N j k:Nat):Int)/\HzD (Did W o (List.replicate k (1,(n:Int),0)) wr o1)) (fun _ i _=>a-(intOf i).toNat)
  case atStart=>exact ⟨0,o,aQ _,rfl,rfl,H1.o⟩
  case round=>
   obtain ⟨k,o1,hk,rfl,rfl,HD⟩:=hrel;by_cases hkc:k<a
   ·have al:(0:Int)<=(k:Int):=cN _;have gk:(k:Int)<(a:Int):=by omega
    obtain ⟨q0,q1,q2⟩:=JM.o _ _ _ HD.o;obtain ⟨b2,ak,rfl,ag⟩:=JS.o _ _ _ HD.o k hkc;have p:TrRoom wr o1 1:=HD.o.room (by rw [bw];exact (HT.o.l (by omega)).g K0.o);have hB:=JB.o wr _ o1 k HD.o p hkc;have ae:=uP a n V N j k;have T:=aa HD;clear HD p;generalize tx (N k) n (val (j k)) V=mm at *;generalize hm2:inN a n V N j (k+1)=m2 at *;have ab:=aa hm2;clear hm2;generalize inN a n V N j k=m1 at *;go_wp2_with fail;refine hB.mono ?_;rintro e w2 ⟨rfl,o2,d2⟩;have U:=aa (T.o.o.trans d2);clear hB d2 q0 q1 q2 ag;go_wp2_with fail;go_roundw
    case rel=>exact ⟨k+1,o2,by omega,by go_num,by rw [ab.o],by unfold HzD;rw [iq];exact U.o⟩
    case measure=>simp [intOf];omega
   ·have gk:¬ (k:Int)<(a:Int):=by omega
    obtain rfl:k=a:=by omega
    have p:TrRoom wr o1 rm:=HD.o.room (by rw [bw];exact HT.o.g K0.o);have hD:=JD.o wr _ o1 HD.o p;have HI:=aa (tm k n V N j k);have X:=aa (yk k n V N j k);generalize inN k n V N j k=mem at *;go_wp2_with fail;refine hD.mono ?_;rintro e w3 ⟨v3,c3,rfl,zs,m3,o3,J,S,d3,hG⟩;have D3:=aa (HD.o.trans d3);obtain ⟨au,aq,ap,rfl,_,_,_,_,_⟩:=J.open;have ac:=aa J;have Y:=aa (S.b (aI K0.o.size HD.o.size));have HG:=aa hG;obtain ⟨q0,q1,q2⟩:=JM.o _ _ _ D3.o;clear hD d3 J S hG p;by_cases hall:jC k n V N j
    ·have v:mem=1:=HI.o.2 hall;subst v;by_cases hok:okMod ms K rs
     ·go_wp2_with fail;refine (JK.o w3 _ o3 true D3.o (by simp [hok])).mono ?_;rintro e w4 ⟨rfl,k4⟩;have z:=aa (Did.b K0.o (D3.o.g k4));have ad:=aa (ac.o.g k4);have Z:=aa (Y.o.g k4);clear k4;go_wp2_with fail;go_ret2;exact ⟨_,c3,rfl,zs,_,o3,ad.o,Z.o,z.o,fun _=>⟨(HG.o hok hall).1,by rw [(HG.o hok hall).2]⟩,fun h=>absurd ⟨hok,hall⟩ h⟩
     ·go_wp2_with fail;refine (JK.o w3 _ o3 false D3.o (by simp [hok])).mono ?_;rintro e w4 ⟨rfl,k4⟩;have z:=aa (Did.b K0.o (D3.o.g k4));clear k4;go_wp2_with fail;go_ret2;exact ⟨_,1,rfl,[],_,o3,Row.nil _ _,Lies.nil _ _ _,z.o,fun h=>absurd h.1 hok,fun _=>⟨rfl,rfl⟩⟩
    ·have v:mem=0:=by
      have h1:mem≠1:=fun h=>hall (HI.o.1 h)
      have h2:=X.o;omega
     subst v;have z:=aa (Did.b K0.o D3.o);go_wp2_with fail;go_ret2;exact ⟨_,1,rfl,[],_,o3,Row.nil _ _,Lies.nil _ _ _,z.o,fun h=>absurd h.2 hall,fun _=>⟨rfl,rfl⟩⟩
 ·have HP:HzD (¬ (okMod ms K rs/\jC a n V N j)):=fun h=>by
   refine hlen ⟨fun i hi=>(h.2 i hi).1,?_⟩;obtain ⟨_,_,_,e1,am,_,_,_,_⟩:=hr.1.open;cases e1
   have h2:=(pP (K:=K) B.o rfl E H hK).1 h.1;have h3:=h2.1;unfold rfn at h3;by_cases h4:130<n
   ·rw [cf] at h3;omega
   ·omega
  have hH:=Gm ao bo lo n l b g a r K A N C false (by simp only [mg,false_iff];exact hlen) W (hs W _ _ (Did.of_kept k0 x)) D F;clear hm hr E H hK hs q t G x ht B hV hW y hlen F k0;rw [I];delta ClZ;go_in;go_wp2_with (rw [<- HW.o]);refine hH.mono ?_;rintro e w1 ⟨rfl,k1⟩;go_wp2_with fail;go_ret2;exact ⟨_,1,rfl,[],[],o,Row.nil _ _,Lies.nil _ _ _,Did.of_kept (K0.o.trans k1) M.o,fun h=>absurd h HP.o,fun _=>⟨rfl,rfl⟩⟩

theorem Asked.b {W:World} {o:Tr} {P:Prop} {R:LN->Nat->Prop} {dE:List Ev} {v':Value} {c:Nat} (k:Kept af w W) (h:Asked W o u P R dE w' v' c):Asked w o u P R dE w' v' c:=by
 obtain ⟨zs,m,o',h1,h2,h3,h4⟩:=h;exact ⟨zs,m,o',h1,h2.b k.size,Did.b k h3,h4⟩

theorem I1 (o:Tr) (ao bo xo yo:OA) (n l K a b xc yc bT bM bA bB:Nat) (ms xs ys:LN) (w:World)
  (ht:TrRoom w o 2) (hm:RowT w o (.slice ao n a) ms) (hx:RowT w o (.slice xo n xc) xs) (hy:RowT w o (.slice yo n yc) ys) (f:Digs ms) (c:Digs xs) (d:Digs ys) (hn:n<=130)
  (hT:Box w bT (aP o) 57) (hM:w.heap[bM]? = some (.cells (mzA ao n a K bo l b) 71 (0,0))) (hA:Box w bA (.slice xo n xc) 23) (hB:Box w bB (.slice yo n yc) 23) :
  ClZ 164 #[.pointer (some ⟨bT,0,none⟩),.pointer (some ⟨bM,0,none⟩),.pointer (some ⟨bA,0,none⟩),.pointer (some ⟨bB,0,none⟩)] w fun e w'=>∃ v',e=.returned (.tuple #[v',.int .i64 0])/\lP w o (List.replicate 2 (1,(n:Int),0)) n (fun Y=>val xs<val ms->val ys<val ms->digs Y n=digs (ij (val xs) (val ys) (val ms)) n) w' v':=by
 obtain ⟨po,g⟩:=aM o;have hS:=Gl o ao bo xo yo n n a l b xc yc K xs ys ms w ht hx hy hm c d f (by omega) (leR _);have cT:=hT.cell;have cA:=hA.cell;have cB:=hB.cell;obtain ⟨p0,p1,p2⟩:=ax hM;rw [g] at hS cT;clear hm hx hy f c d hT hM hA hB ht g;generalize (fun Y=>val xs<val ms->val ys<val ms->digs Y n=digs (ij (val xs) (val ys) (val ms)) n)=G at *;delta ClZ;go_in;go_wp2_with fail;refine hS.mono ?_;rintro e w1 ⟨v1,rfl,h1⟩;clear hS cT cA cB p0 p1 p2;go_wp2_with fail;go_ret2;exact ⟨_,rfl,h1⟩

theorem LO (o:Tr) (ao bo xo yo:OA) (n l K a b N1 N2 xc yc:Nat) (ms rs xs ys:LN) (w:World)
  (ht:TrRoom w o 10) (hm:RowT w o (.slice ao n a) ms) (hr:RowT w o (.slice bo l b) rs) (hx:RowT w o (.slice xo N1 xc) xs) (hy:RowT w o (.slice yo N2 yc) ys) (C:Digs ms) (H:Digs rs) (A:Digs xs) (B:Digs ys) (hK:K<18446744073709551616) (L:n<=1000000) (E:N1<=1000000000) (F:N2<=1000000000) :
  ClZ 108 #[aP o,.agg (mzA ao n a K bo l b),.slice xo N1 xc,.slice yo N2 yc] w fun e w'=>∃ v' c,e=.returned (.tuple #[v',.int .i64 ((c:Nat):Int)])/\Asked w o true (okMod ms K rs/\(N1=n/\val xs<val ms)/\(N2=n/\val ys<val ms)) (fun zs c=>zs=digs (ij (val xs) (val ys) (val ms)) n/\c=0) (List.replicate 2 (1,(n:Int),0) ++ List.replicate 2 (1,(n:Int),0)) w' v' c:=by
 have he:∀ args w,(callFunc 164 args).run prog w=.ok (.enter 164 args) w:=fun _ _=>by simp [go_sem]
 obtain ⟨po,D⟩:=aM o;obtain ⟨W,hW⟩:=aj ((((w.alloc (.cells #[.pointer po] 57)).alloc (.cells (mzA ao n a K bo l b) 71)).alloc (.cells #[.slice xo N1 xc] 23)).alloc (.cells #[.slice yo N2 yc] 23))
 have k0:Kept af w W:=by rw [hW];exact ((((ah af w).alloc _).alloc _).alloc _).alloc _
 have z:Box W w.heap.size (.pointer po) 57:=by rw [hW];exact (((Box.new w _ _).alloc _).alloc _).alloc _
 have j:W.heap[w.heap.size+1]? = some (.cells (mzA ao n a K bo l b) 71 (0,0)):=by
  rw [hW];refine aw (aw ?_);have:=heap_alloc_new (w.alloc (.cells #[.pointer po] 57)) (.cells (mzA ao n a K bo l b) 71)
  rwa [show (w.alloc (.cells #[.pointer po] 57)).heap.size=w.heap.size+1 by simp] at this
 have x:Box W (w.heap.size+1+1) (.slice xo N1 xc) 23:=by
  rw [hW];refine Box.alloc ?_ _;have:=Box.new ((w.alloc (.cells #[.pointer po] 57)).alloc (.cells (mzA ao n a K bo l b) 71)) (.slice xo N1 xc) 23
  rwa [show ((w.alloc (.cells #[.pointer po] 57)).alloc (.cells (mzA ao n a K bo l b) 71)).heap.size=w.heap.size+1+1 by simp] at this
 have y:Box W (w.heap.size+1+1+1) (.slice yo N2 yc) 23:=by
  rw [hW];have:=Box.new (((w.alloc (.cells #[.pointer po] 57)).alloc (.cells (mzA ao n a K bo l b) 71)).alloc (.cells #[.slice xo N1 xc] 23)) (.slice yo N2 yc) 23
  rwa [show (((w.alloc (.cells #[.pointer po] 57)).alloc (.cells (mzA ao n a K bo l b) 71)).alloc (.cells #[.slice xo N1 xc] 23)).heap.size=w.heap.size+1+1+1 by simp] at this
 obtain ⟨Wl,s⟩:=aj (W.alloc (.cells #[.slice xo N1 xc,.slice yo N2 yc] 23))
 have kl:Kept af W Wl:=by rw [s];exact (ah af W).alloc _
 have t:Wl.heap[W.heap.size]? = some (.cells #[.slice xo N1 xc,.slice yo N2 yc] 23 (0,0)):=by rw [s];exact heap_alloc_new _ _
 have kk:=k0.trans kl;have g:=th o ao bo (some ⟨W.heap.size,0,none⟩) n l K a b 2 2 164 #[.pointer (some ⟨w.heap.size,0,none⟩),.pointer (some ⟨w.heap.size+1,0,none⟩),.pointer (some ⟨w.heap.size+1+1,0,none⟩),.pointer (some ⟨w.heap.size+1+1+1,0,none⟩)]
  (fun i=>if i=0 then xo else yo) (fun i=>if i=0 then N1 else N2) (fun i=>if i=0 then xc else yc) (fun i=>if i=0 then xs else ys) ms rs 8 (List.replicate 2 (1,(n:Int),0)) true (fun zs c=>zs=digs (ij (val xs) (val ys) (val ms)) n/\c=0) Wl
  (ht.g kk) (hm.g kk) (hr.g kk) C H hK (by omega) (by omega)
  (fun i hi=>by
   have k:i=0\/i=1:=by omega
   rcases k with rfl | rfl
   ·exact E
   ·exact F)
  (fun W' m o' d=>pf ((d.kept.block _ (lt_of_block t) (aH t (ht.g kk).1 (by decide) (by decide))).trans t))
  (fun i hi=>by
   have k:i=0\/i=1:=by omega
   rcases k with rfl | rfl
   ·exact hx.g kk
   ·exact hy.g kk)
  (fun i hi=>by
   have k:i=0\/i=1:=by omega
   rcases k with rfl | rfl
   ·exact A
   ·exact B)
  he
  (fun hn q W' m o' d r=>by
   have v:=(ht.g kk).1;have e1:N1=n:=q 0 (by omega);have e2:N2=n:=q 1 (by omega);subst e1;subst e2
   refine (I1 o' ao bo xo yo N2 l K a b xc yc w.heap.size (w.heap.size+1) (w.heap.size+1+1) (w.heap.size+1+1+1) ms xs ys W' (r.l (by omega)) ((hm.g kk).did d) ((hx.g kk).did d) ((hy.g kk).did d) C A B hn (by rw [d.ptr,D];exact (z.g kl).did d v) ((d.kept.block _ (lt_of_block ((kl.block _ (lt_of_block j) (fun f=>f)).trans j)) (aH ((kl.block _ (lt_of_block j) (fun f=>f)).trans j) v)).trans ((kl.block _ (lt_of_block j) (fun f=>f)).trans j)) ((x.g kl).did d v) ((y.g kl).did d v)).mono ?_;rintro e w' ⟨v',rfl,Y,o2,h1,h2,h3⟩
   refine ⟨v',0,rfl,_,_,o2,dz h1 (ag _ _ _),(fun _=>⟨Fresh.own h1 (leR _),U64s.own h1⟩),h3,fun M G=>⟨⟨h2 (G 0 (by omega)).2 (G 1 (by omega)).2,rfl⟩,rfl⟩⟩)
 have p:(okMod ms K rs/\jC 2 n (val ms) (fun i=>if i=0 then N1 else N2) (fun i=>if i=0 then xs else ys))↔(okMod ms K rs/\(N1=n/\val xs<val ms)/\(N2=n/\val ys<val ms)):=by
  refine and_congr_right fun _=>⟨fun h=>⟨h 0 (by omega),h 1 (by omega)⟩,fun h i hi=>?_⟩
  have k:i=0\/i=1:=by omega
  rcases k with rfl | rfl
  ·exact h.1
  ·exact h.2
 rw [p] at g;have HB:HzD (∀ w' v' c,Asked Wl o true (okMod ms K rs/\(N1=n/\val xs<val ms)/\(N2=n/\val ys<val ms)) (fun zs c=>zs=digs (ij (val xs) (val ys) (val ms)) n/\c=0) (List.replicate 2 (1,(n:Int),0) ++ List.replicate 2 (1,(n:Int),0)) w' v' c->Asked w o true (okMod ms K rs/\(N1=n/\val xs<val ms)/\(N2=n/\val ys<val ms)) (fun zs c=>zs=digs (ij (val xs) (val ys) (val ms)) n/\c=0) (List.replicate 2 (1,(n:Int),0) ++ List.replicate 2 (1,(n:Int),0)) w' v' c):=fun w' v' c h=>h.b kk
 have I:W.heap.size=w.heap.size+1+1+1+1:=by rw [hW];simp
 rw [I] at g;have HW:=aa hW;have J:=aa s;obtain ⟨c3,c4,c5⟩:=ax j;have c0:=z.cell;have c1:=x.cell;have c2:=y.cell;rw [D] at g ⊢;clear ht hm hr hx hy C H A B hK L D k0 z j x y hW s t kk kl he I p E F;generalize (okMod ms K rs/\(N1=n/\val xs<val ms)/\(N2=n/\val ys<val ms))=PP at *;generalize (fun zs c=>zs=digs (ij (val xs) (val ys) (val ms)) n/\c=0)=RR at *;generalize List.replicate 2 (1,(n:Int),0) ++ List.replicate 2 (1,(n:Int),0)=EE at *;delta ClZ;go_in;go_wp2_with fail;rw [<- HW.o,<- J.o];refine g.mono ?_;rintro e w1 ⟨v1,c,rfl,h1⟩;have H1:=aa (HB.o _ _ _ h1);clear g h1 c0 c1 c2 c3 c4 c5
 go_wp2_with fail;go_ret2;exact ⟨_,c,rfl,H1.o⟩

theorem IZ (o:Tr) (ao bo xo:OA) (n a rl b xc:Nat) (K:Nat) (xs ms:LN) (w:World) (ht:TrRoom w o 2) (hx:RowT w o (.slice xo n xc) xs) (hm:RowT w o (.slice ao n a) ms) (f:Digs xs) (c:Digs ms) (hn:n<=100000) :
  ClZ 165 #[aP o,.agg (mzA ao n a K bo rl b),.slice none 0 0,.slice xo n xc] w fun e w'=>∃ v',e=.returned v'/\lP w o (List.replicate 2 (1,(n:Int),0)) n (fun Y=>val xs<val ms->digs Y n=digs (ij 0 (val xs) (val ms)) n) w' v':=by
 refine (Gl o ao bo none xo n 0 a rl b 0 xc K [] xs ms w ht ⟨Row.nil _ _,fun h=>absurd rfl h⟩ hx hm (fun d hd=>by cases hd) f c hn (aQ _)).mono ?_;rintro e w' ⟨v',rfl,Y,o',h1,h2,h3⟩;exact ⟨v',rfl,Y,o',h1,fun h=>h2 (fF (aQ _) h) h,h3⟩

theorem IY (o:Tr) (ao bo xo:OA) (n l K a b xc bT bM bA:Nat) (ms xs:LN) (w:World)
  (ht:TrRoom w o 2) (hm:RowT w o (.slice ao n a) ms) (hx:RowT w o (.slice xo n xc) xs) (d:Digs ms) (c:Digs xs) (hn:n<=130)
  (hT:Box w bT (aP o) 57) (hM:w.heap[bM]? = some (.cells (mzA ao n a K bo l b) 71 (0,0))) (hA:Box w bA (.slice xo n xc) 23) :
  ClZ 224 #[.pointer (some ⟨bT,0,none⟩),.pointer (some ⟨bM,0,none⟩),.pointer (some ⟨bA,0,none⟩)] w fun e w'=>∃ v',e=.returned (.tuple #[v',.int .i64 0])/\lP w o (List.replicate 2 (1,(n:Int),0)) n (fun Y=>val xs<val ms->digs Y n=digs (ij 0 (val xs) (val ms)) n) w' v':=by
 obtain ⟨po,f⟩:=aM o;have hS:=IZ o ao bo xo n a l b xc K xs ms w ht hx hm c d (by omega);have cT:=hT.cell;have cA:=hA.cell;obtain ⟨p0,p1,p2⟩:=ax hM;rw [f] at hS cT;clear hm hx d c hT hM hA ht f;generalize (fun Y=>val xs<val ms->digs Y n=digs (ij 0 (val xs) (val ms)) n)=G at *;delta ClZ;go_in;go_wp2_with fail;refine hS.mono ?_;rintro e w1 ⟨v1,rfl,h1⟩;clear hS cT cA p0 p1 p2;go_wp2_with fail;go_ret2;exact ⟨_,rfl,h1⟩

theorem LL (o:Tr) (ao bo xo:OA) (n l K a b N1 xc:Nat) (ms rs xs:LN) (w:World)
  (ht:TrRoom w o 10) (hm:RowT w o (.slice ao n a) ms) (hr:RowT w o (.slice bo l b) rs) (hx:RowT w o (.slice xo N1 xc) xs) (y:Digs ms) (C:Digs rs) (x:Digs xs) (hK:K<18446744073709551616) (G:n<=1000000) (B:N1<=1000000000) :
  ClZ 177 #[aP o,.agg (mzA ao n a K bo l b),.slice xo N1 xc] w fun e w'=>∃ v' c,e=.returned (.tuple #[v',.int .i64 ((c:Nat):Int)])/\Asked w o true (okMod ms K rs/\(N1=n/\val xs<val ms)) (fun zs c=>zs=digs (ij 0 (val xs) (val ms)) n/\c=0) (List.replicate 1 (1,(n:Int),0) ++ List.replicate 2 (1,(n:Int),0)) w' v' c:=by
 have he:∀ args w,(callFunc 224 args).run prog w=.ok (.enter 224 args) w:=fun _ _=>by simp [go_sem]
 obtain ⟨po,z⟩:=aM o;obtain ⟨W,hW⟩:=aj (((w.alloc (.cells #[.pointer po] 57)).alloc (.cells (mzA ao n a K bo l b) 71)).alloc (.cells #[.slice xo N1 xc] 23))
 have k0:Kept af w W:=by rw [hW];exact (((ah af w).alloc _).alloc _).alloc _
 have t:Box W w.heap.size (.pointer po) 57:=by rw [hW];exact ((Box.new w _ _).alloc _).alloc _
 have j:W.heap[w.heap.size+1]? = some (.cells (mzA ao n a K bo l b) 71 (0,0)):=by
  rw [hW];refine aw ?_;have:=heap_alloc_new (w.alloc (.cells #[.pointer po] 57)) (.cells (mzA ao n a K bo l b) 71)
  rwa [show (w.alloc (.cells #[.pointer po] 57)).heap.size=w.heap.size+1 by simp] at this
 have s:Box W (w.heap.size+1+1) (.slice xo N1 xc) 23:=by
  rw [hW];have:=Box.new ((w.alloc (.cells #[.pointer po] 57)).alloc (.cells (mzA ao n a K bo l b) 71)) (.slice xo N1 xc) 23
  rwa [show ((w.alloc (.cells #[.pointer po] 57)).alloc (.cells (mzA ao n a K bo l b) 71)).heap.size=w.heap.size+1+1 by simp] at this
 obtain ⟨Wl,q⟩:=aj (W.alloc (.cells #[.slice xo N1 xc] 23))
 have kl:Kept af W Wl:=by rw [q];exact (ah af W).alloc _
 have r:Wl.heap[W.heap.size]? = some (.cells #[.slice xo N1 xc] 23 (0,0)):=by rw [q];exact heap_alloc_new _ _
 have kk:=k0.trans kl;have g:=th o ao bo (some ⟨W.heap.size,0,none⟩) n l K a b 1 1 224 #[.pointer (some ⟨w.heap.size,0,none⟩),.pointer (some ⟨w.heap.size+1,0,none⟩),.pointer (some ⟨w.heap.size+1+1,0,none⟩)]
  (fun _=>xo) (fun _=>N1) (fun _=>xc) (fun _=>xs) ms rs 9 (List.replicate 2 (1,(n:Int),0)) true (fun zs c=>zs=digs (ij 0 (val xs) (val ms)) n/\c=0) Wl
  (ht.g kk) (hm.g kk) (hr.g kk) y C hK (by omega) (by omega)
  (fun i hi=>B)
  (fun W' m o' d=>qZ ((d.kept.block _ (lt_of_block r) (aH r (ht.g kk).1 (by decide) (by decide))).trans r))
  (fun i hi=>hx.g kk)
  (fun i hi=>x)
  he
  (fun hn v W' m o' d p=>by
   have A:=(ht.g kk).1;have e1:N1=n:=v 0 (by omega);subst e1;refine (IY o' ao bo xo N1 l K a b xc w.heap.size (w.heap.size+1) (w.heap.size+1+1) ms xs W' (p.l (by omega)) ((hm.g kk).did d) ((hx.g kk).did d) y x hn (by rw [d.ptr,z];exact (t.g kl).did d A) ((d.kept.block _ (lt_of_block ((kl.block _ (lt_of_block j) (fun f=>f)).trans j)) (aH ((kl.block _ (lt_of_block j) (fun f=>f)).trans j) A)).trans ((kl.block _ (lt_of_block j) (fun f=>f)).trans j)) ((s.g kl).did d A)).mono ?_;rintro e w' ⟨v',rfl,Y,o2,h1,h2,h3⟩
   refine ⟨v',0,rfl,_,_,o2,dz h1 (ag _ _ _),(fun _=>⟨Fresh.own h1 (leR _),U64s.own h1⟩),h3,fun H F=>⟨⟨h2 (F 0 (by omega)).2,rfl⟩,rfl⟩⟩)
 have k:(okMod ms K rs/\jC 1 n (val ms) (fun _=>N1) (fun _=>xs))↔(okMod ms K rs/\(N1=n/\val xs<val ms)):=
  and_congr_right fun _=>⟨fun h=>h 0 (by omega),fun h i hi=>h⟩
 rw [k] at g;have HB:HzD (∀ w' v' c,Asked Wl o true (okMod ms K rs/\(N1=n/\val xs<val ms)) (fun zs c=>zs=digs (ij 0 (val xs) (val ms)) n/\c=0) (List.replicate 1 (1,(n:Int),0) ++ List.replicate 2 (1,(n:Int),0)) w' v' c->Asked w o true (okMod ms K rs/\(N1=n/\val xs<val ms)) (fun zs c=>zs=digs (ij 0 (val xs) (val ms)) n/\c=0) (List.replicate 1 (1,(n:Int),0) ++ List.replicate 2 (1,(n:Int),0)) w' v' c):=fun w' v' c h=>h.b kk
 have D:W.heap.size=w.heap.size+1+1+1:=by rw [hW];simp
 rw [D] at g;have HW:=aa hW;have E:=aa q;obtain ⟨c3,c4,c5⟩:=ax j;have c0:=t.cell;have c1:=s.cell;rw [z] at g ⊢;clear ht hm hr hx y C x hK G z k0 t j s hW q r kk kl he D k B;generalize (okMod ms K rs/\(N1=n/\val xs<val ms))=PP at *;generalize (fun zs c=>zs=digs (ij 0 (val xs) (val ms)) n/\c=0)=RR at *;generalize List.replicate 1 (1,(n:Int),0) ++ List.replicate 2 (1,(n:Int),0)=EE at *;delta ClZ;go_in;go_wp2_with fail;rw [<- HW.o,<- E.o];refine g.mono ?_;rintro e w1 ⟨v1,c,rfl,h1⟩;have H1:=aa (HB.o _ _ _ h1);clear g h1 c0 c1 c3 c4 c5;go_wp2_with fail;go_ret2;exact ⟨_,c,rfl,H1.o⟩

def j7 (V M n:Nat):Nat:=if 18446744073709551616^n<=V\/M<=V%18446744073709551616^n then 1 else 0

def su (V M n:Nat):Nat:=cZ (j7 V M n) (gV (V%18446744073709551616^n) M n) (V%18446744073709551616^n)

theorem rC (V M n:Nat):j7 V M n<=1:=by unfold j7;split <;> omega

theorem yZ (V M n:Nat) (hV:V<2*18446744073709551616^n):bits .or .u64 ((V/18446744073709551616^n:Nat):Int) (bits .xor .u64 ((dF (decide (V%18446744073709551616^n<M)):Nat):Int) 1)=(j7 V M n:Int):=by
 have hp:0<18446744073709551616^n:=aX;have hq:V/18446744073709551616^n<2:=by rw [cW hp];exact hV
 unfold j7 dF;generalize 18446744073709551616^n=P at *;have hc:V/P=0\/V/P=1:=by
  generalize V/P=d at *;omega
 have h1:P<=V↔V/P=1:=by
  constructor
  ·intro h;exact Nat.le_antisymm (Nat.le_of_lt_succ hq) (Nat.div_pos h hp)
  ·intro h;rcases gG V P with h2 | h2
   ·rw [bJ h2] at h;omega
   ·exact h2
 by_cases h2:V%P<M
 ·rcases hc with h3 | h3
  ·rw [h3,dV h2,ai rfl,ar (by rw [h1,h3];omega)]
   decide
  ·rw [h3,dV h2,ai rfl,ai (by rw [h1,h3];exact .inl rfl)]
   decide
 ·rcases hc with h3 | h3
  ·rw [h3,cI h2,ar (by decide),ai (.inr (by omega))]
   decide
  ·rw [h3,cI h2,ar (by decide),ai (.inr (by omega))]
   decide

theorem FM (hX:X<18446744073709551616^n):gV X Y n<18446744073709551616^n:=by
 unfold gV;rw [<- B64]
 split <;> omega

theorem De (o:Tr) (u v:Value) (xs ys:LN) (bit:Nat) (h:bit<18446744073709551616) (T:Nat) (w:World) (ht:TrRoom w o 3) (hu:RowT w o u xs) (hv:RowT w o v ys) (j:Digs xs) (t:Digs ys) (hl:xs.length=ys.length) (hL:ys.length<=100000)
  (hT:T=j7 (2*val xs+bit%2) (val ys) ys.length) :
  ClZ 237 #[aP o,u,v,.int .u64 (bit:Nat)] w fun e w'=>∃ v',e=.returned (.tuple #[v',.int .u64 (T:Nat)]) /\
   OwnN .u64 24 w' w.heap.size v' ys.length (digs (su (2*val xs+bit%2) (val ys) ys.length) ys.length)/\∃ o',Did w o [(1,(ys.length:Nat),0),(1,(ys.length:Nat),0),(1,(ys.length:Nat),0)] w' o':=by
 have hX:val xs<18446744073709551616^ys.length:=by rw [<- hl];exact aE (by omega) j
 obtain ⟨V,hV⟩:=aj (2*val xs+bit%2)
 have q:V<2*18446744073709551616^ys.length:=by omega
 have a:=Gs o u xs bit h w (ht.l (by omega)) hu j;rw [<- hV,hl] at a;rw [<- hV] at hT ⊢;have l:=yZ V (val ys) ys.length q;rw [<- hT] at l;have C:T<=1:=by rw [hT];exact rC _ _ _
 have c:su V (val ys) ys.length=cZ T (gV (V%18446744073709551616^ys.length) (val ys) ys.length) (V%18446744073709551616^ys.length):=by rw [hT];rfl
 have HV:=aa hv;have HT:=aa ht;have A:=aa t;have B:=aa c;obtain ⟨po,k⟩:∃ po,aP o=.pointer po:=by
  cases o with
  | none=>exact ⟨_,rfl⟩
  | some x=>exact ⟨_,rfl⟩
 have p:=aa k;rw [k] at a ⊢;obtain ⟨c1,r⟩:=aj (V/18446744073709551616^ys.length)
 rw [<- r] at a l;obtain ⟨c2,i⟩:=aj (dF (decide (V%18446744073709551616^ys.length<val ys)))
 rw [<- i] at l;have z:=aa i;obtain ⟨n,hn⟩:=aj ys.length
 have HN:=aa hn;rw [<- hn] at a ⊢;clear hu hv ht j t hl hV hX hT q c k r i hn;delta ClZ;go_in;go_wp2_with fail;refine a.mono ?_;rintro e w1 ⟨v1,rfl,D,o1,d1⟩;have r1:TrRoom w1 o1 2:=d1.room HT.o;have s:Digs (digs V n):=ak (by omega) _ _;have d:=ib D (ag _ _ _) r1.1;have F:=HV.o.did d1;have hSb:=Cz o1 _ _ _ _ w1 (r1.l (by omega)) d F s A.o (by rw [ag,HN.o];omega);rw [d1.ptr,p.o,ay,ag,<- HN.o,it] at hSb;rw [HN.o,<- z.o,<- HN.o] at hSb;clear a;go_wp2_with fail;refine hSb.mono ?_;rintro e w2 ⟨v2,rfl,E,o2,d2⟩;have r2:TrRoom w2 o2 1:=d2.room r1
 have m:=ib E (ag _ _ _) r2.1;have f:=d.did d2;have g:=oh o2 T (by omega) _ _ _ _ w2 r2 m f (ak (by omega) _ _) s (by rw [ag,HN.o];omega) (by rw [ag,HN.o];omega);rw [d2.ptr,d1.ptr,p.o,ay,ay,ag,ag,it,aB (FM (aY _ (aX)))] at g;have c:=B.o;rw [<- HN.o] at c;rw [<- c] at g;clear hSb;go_wp2_with fail;refine g.mono ?_;rintro e w3 ⟨v3,rfl,y,o3,d3⟩;go_wp2_with fail;go_ret2;refine ⟨_,rfl,dg y (fun b hb=>?_),o3,(d1.trans d2).trans d3⟩;have:=(y.lt b hb).1;have:=d1.size;have:=d2.size;omega

theorem uy {R bit:Nat} (hM:0<M) (hR:R<M) (hn:M<18446744073709551616^n) (hb:bit<=1:=by omega):j7 (2*R+bit) M n=(2*R+bit)/M/\su (2*R+bit) M n=(2*R+bit)%M:=by
 have hV:2*R+bit<M*2:=by omega
 generalize 2*R+bit=V at *;have hd:V/M=if M<=V then 1 else 0:=by
  split
  ·rename_i h
   have h1:V/M<2:=(cW hM).2 (by omega);have h2:0<V/M:=Nat.div_pos h hM;exact Nat.le_antisymm (Nat.le_of_lt_succ h1) h2
  ·exact bJ (by omega)
 have hm:V%M=if M<=V then V-M else V:=by
  split
  ·rename_i h
   rw [Nat.mod_eq_sub_mod h,dH]
  ·exact dH
 have ht:j7 V M n=if M<=V then 1 else 0:=by
  unfold j7;generalize 18446744073709551616^n=P at *;by_cases h:P<=V
  ·rw [ai (.inl h),cf]
  ·rw [aB (by omega:V<P)];by_cases h2:M<=V
   ·rw [ai (.inr h2),ai h2]
   ·rw [aK,ar h2]
 refine ⟨by rw [ht,hd],?_⟩;unfold su;rw [ht,hm];unfold cZ gV;rw [<- B64];generalize 18446744073709551616^n=P at *;by_cases h2:M<=V
 ·rw [ai h2,ai h2,ai (by decide)];by_cases h:P<=V
  ·have e:V%P=V-P:=by rw [Nat.mod_eq_sub_mod h,dH]
   rw [e,cf];omega
  ·rw [aB (by omega:V<P),aK]
 ·rw [ar h2,ar h2,ar (by decide),dH]

theorem xE {B:Nat}:∀ {zs:LN} {i:Nat} (z:Nat),i<zs.length->val (zs.set i z) B+B^i*zs.getD i 0=val zs B+B^i*z
 | [],_,_,h=>absurd h (by simp)
 | x :: r,0,z,_=>by simp [val];omega
 | x :: r,i+1,z,h=>by
  have ih:=xE (B:=B) (zs:=r) (i:=i) z (by simpa using h);simp only [lsS,val,List.getD_cons_succ];have e:B*(val (r.set i z) B+B^i*r.getD i 0)=B*(val r B+B^i*z):=by rw [ih]
  rw [aJ,aJ,<- bd,<- bd,<- lj] at e;simp only [Nat.succ_eq_add_one] at e;omega

theorem se {B:Nat} {zs:LN} (h:Digs zs B) {i z:Nat} (hz:z<B):Digs (zs.set i z) B:=fun d hd=>by
 rcases nC hd with h1 | h1
 ·exact h d h1
 ·omega

theorem vU {qs:LN} {T:Nat} (hM:0<M) (hd:Digs qs) (hi:p/64<qs.length) (hv:val qs=X/2^(p+1)/M*2^(p+1)) (hT:T=(2*(X/2^(p+1)%M)+X/2^p%2)/M) (a:T<=1) :
  val (qs.set (p/64) (qs.getD (p/64) 0 ||| T*2^(p%64)))=X/2^p/M*2^p:=by
 have hq:qs.getD (p/64) 0=2^(p%64+1)*(X/2^(p+1)/M%2^(63-p%64)):=by
  rw [<- dn (by omega) hd,hv,dig,B64,Nat.mul_div_assoc _ (Nat.pow_dvd_pow 2 (by omega)),Nat.pow_div (by omega) (by omega),show p+1-64*(p/64)=p%64+1 by omega,aD,show (18446744073709551616:Nat)=2^(p%64+1)*2^(63-p%64) by rw [<- aL,show p%64+1+(63-p%64)=64 by omega],pM]
 have c:qs.getD (p/64) 0 ||| T*2^(p%64)=qs.getD (p/64) 0+T*2^(p%64):=by
  rw [hq];have hlt:T*2^(p%64)<2^(p%64+1):=by
   rw [aG];have:T*2^(p%64)<=1*2^(p%64):=cF _ a;have:0<2^(p%64):=aX;omega
  exact (lr hlt _).symm
 have hs:=xE (B:=18446744073709551616) (zs:=qs) (i:=p/64) (qs.getD (p/64) 0 ||| T*2^(p%64)) hi;rw [c] at hs ⊢;rw [aJ] at hs;have e1:18446744073709551616^(p/64)*(T*2^(p%64))=T*2^p:=by
  rw [B64,iu,<- aL,show 64*(p/64)+p%64=p by omega]
 rw [e1,hv] at hs;have e2:X/2^p=2*(X/2^(p+1))+X/2^p%2:=by
  rw [aG,<- di];omega
 have e3:X/2^p/M=2*(X/2^(p+1)/M)+T:=by
  rw [e2,hT];have h1:=dD (X/2^(p+1)) M;generalize X/2^(p+1)=Z at *;generalize X/2^p%2=b at *;have h2:2*Z+b=M*(2*(Z/M))+(2*(Z%M)+b):=by
   have:M*(2*(Z/M))=2*(M*(Z/M)):=iu ..;omega
  rw [h2,gH hM]
 have e4:X/2^p/M*2^p=X/2^(p+1)/M*2^(p+1)+T*2^p:=by
  rw [e3];generalize X/2^(p+1)/M=Z;rw [dm,aG,aD 2 Z,bd,aD 2 (2^p)]
 rw [e4];omega

theorem xj:(2*(X/2^(p+1)%M)+X/2^p%2)%M=X/2^p%M:=by
 have e2:X/2^p=2*(X/2^(p+1))+X/2^p%2:=by
  rw [aG,<- di];omega
 generalize hb:X/2^p%2=b at *;rw [e2,ki,cH,ep,<- cH,<- ki]

theorem IW (k:Nat) (e:Ev):List.replicate (3*k) e ++ [e,e,e]=List.replicate (3*(k+1)) e:=by
 rw [show [e,e,e]=List.replicate 3 e from rfl,nD,aJ]

theorem vf (n:Nat):madeCells #[Value.int .u64 0] n=((List.replicate n 0).map fun z:Nat=>Value.int .u64 (z:Int)).toArray:=by
 have:=bD .u64 n;rw [bI] at this;rw [<- this];rfl

theorem oD (w:World) (A B:Nat) (CA CB:Array Value) (hA:CA=madeCells #[.int .u64 0] A) (hB:CB=madeCells #[.int .u64 0] B) (lA:A<=1000000) (lB:B<=1000000) :
  OwnN .u64 24 ((w.alloc (.cells CA 24)).alloc (.cells CB 24)).drew w.heap.size (.slice (some ⟨w.heap.size,0,none⟩) A A) A (List.replicate A 0)/\OwnN .u64 24 ((w.alloc (.cells CA 24)).alloc (.cells CB 24)).drew w.heap.size (.slice (some ⟨w.heap.size+1,0,none⟩) B B) B (List.replicate B 0)/\Kept af w ((w.alloc (.cells CA 24)).alloc (.cells CB 24)).drew:=by
 subst hA hB;rw [vf,vf];refine ⟨dZ (dj (aw (heap_alloc_new _ _))) (by simp) (by unfold maxLen;omega) (leR _),dZ (dj ?_) (by simp) (by unfold maxLen;omega),(((ah af w).alloc _).alloc _).drew⟩;have:=heap_alloc_new (w.alloc (.cells ((List.replicate A 0).map fun z:Nat=>Value.int .u64 (z:Int)).toArray 24)) (.cells ((List.replicate B 0).map fun z:Nat=>Value.int .u64 (z:Int)).toArray 24);simpa using this

theorem kt (n:Nat):val (List.replicate n 0)=0:=eY _ (fun _ hd=>(ff.1 hd).2)

theorem jT (n:Nat):Digs (List.replicate n 0):=fun _ hd=>by rw [(ff.1 hd).2];omega

theorem zV {q T s:Nat} (hq:q<18446744073709551616) (hT:T<=1) (hs:s<64:=by omega):bits .or .u64 (q:Int) (IntKind.u64.wrap ((T:Int)*2^s))=((q ||| T*2^s:Nat):Int)/\q ||| T*2^s<18446744073709551616:=by
 have h1:T*2^s<18446744073709551616:=by
  have h2:T*2^s<=1*2^s:=cF _ hT;have h3:2^s<2^64:=Nat.pow_lt_pow_right (by omega) hs;omega
 refine ⟨?_,Nat.or_lt_two_pow (n:=64) hq h1⟩;rw [show (T:Int)*2^s=((T*2^s:Nat):Int) by simp,IntKind.wrap_u64,show ((T*2^s:Nat):Int)%18446744073709551616=((T*2^s:Nat):Int) by omega];exact u64_or_nat _ _ (by omega) (by omega)

theorem JV (o:Tr) (ao bo:OA) (L M a6 a7:Nat) (xs ys:LN) (X Y:Nat) (hX:X=val xs) (hY:Y=val ys) (w:World) (ht:TrRoom w o (3*(64*L))) (hu:RowT w o (.slice ao L a6) xs) (hv:RowT w o (.slice bo M a7) ys) (aw:Digs xs) (aW:Digs ys) (hL:L<=100000) (hM:M<=100000) :
  ClZ 210 #[aP o,.slice ao L a6,.slice bo M a7] w fun e w'=>∃ v1 v2,e=.returned (.tuple #[v1,v2]) /\
   ∃ q,OwnN .u64 24 w' w.heap.size v1 L (digs q L)/\∃ r,OwnN .u64 24 w' w.heap.size v2 M (digs r M)/\(0<Y->q=X/Y/\r=X%Y)/\∃ o',Did w o (List.replicate (3*(64*L)) (1,(M:Nat),0)) w' o':=by
 obtain ⟨i0,a9,ba,bb,bc⟩:=info_parts Tryz.info24;obtain ⟨_,_,_,e1,a8,_,_,_,_⟩:=hu.1.open;cases e1
 obtain ⟨_,_,_,e1,aR,_,_,_,_⟩:=hv.1.open;cases e1
 have eM:=aa aR.o;have av:HzD (Y<18446744073709551616^M):=by unfold HzD;rw [hY,<- aR.o];exact aE (by omega) aW
 have aU:HzD (X<2^(64*L)):=by unfold HzD;rw [hX,<- B64,<- a8.o];exact aE (by omega) aw
 have m:HzD (∀ k,dig X k=xs.getD k 0):=fun k=>by rw [hX];exact dn (by omega) aw k
 have ax:HzD (∀ k,xs.getD k 0<18446744073709551616):=fun k=>aw.getD (by omega) _
 have HU:=aa hu;have HV:=aa hv;have HT:=aa ht;have a4:=aa aW;have HY:=aa hY;obtain ⟨tp,a2⟩:=aj (aP o)
 rw [<- a2];have a5:=aa a2;clear hu hv ht a8 aR aw aW a2 hX hY;obtain ⟨N,hN⟩:=aj (64*L)
 have gN:(64:Int)*(L:Int)=(N:Int):=by omega
 rw [<- hN] at aU HT ⊢;have bi:N<=6400000:=by omega
 have HN:=aa hN;clear hN;obtain ⟨CL,aM⟩:=aj (madeCells #[.int .u64 0] L)
 obtain ⟨CM,aN⟩:=aj (madeCells #[.int .u64 0] M)
 have Z:∀ W,(Instr.makeSlice 23 (.int .i64 (L:Int)) (.int .i64 (L:Int))).run prog W=.ok (.slice (some ⟨W.heap.size,0,none⟩) L L) (W.alloc (.cells CL 24)):=fun W=>by rw [aM];exact run_make_row (P:=prog) _ _ i0 _ underlying23 a9 ba bb rfl _ _ L (by rw [bc];omega) (by omega) W
 have ab:∀ W,(Instr.makeSlice 23 (.int .i64 (M:Int)) (.int .i64 (M:Int))).run prog W=.ok (.slice (some ⟨W.heap.size,0,none⟩) M M) (W.alloc (.cells CM 24)):=fun W=>by rw [aN];exact run_make_row (P:=prog) _ _ i0 _ underlying23 a9 ba bb rfl _ _ M (by rw [bc];omega) (by omega) W
 have ar:=aa aM;have au:=aa aN;clear aM aN;delta ClZ;go_in;go_wp2_with fail;go_region
 ·have a0:=oD w L M CL CM ar.o au.o (by omega) (by omega);generalize ((w.alloc (.cells CL 24)).alloc (.cells CM 24)).drew=W1 at *;obtain ⟨ac,ad,k1⟩:=a0;clear Z ab ar au;go_wp2_with fail;go_loopw [9,25] (fun rv i wr=>∃ (k:Nat) (o1:Tr) (rs qs:LN),k<=N/\i=.int .i64 (k:Int)/\HzD (Did w o (List.replicate (3*k) (1,(M:Int),0)) wr o1)/\HzD (rs.length=M/\Digs rs)/\HzD (qs.length=L/\Digs qs)/\OwnN .u64 24 wr w.heap.size rv M rs/\OwnN .u64 24 wr w.heap.size (.slice (some ⟨w.heap.size,0,none⟩) L L) L qs/\HzD (∀ b,rv.ownBlock=some b->b≠w.heap.size)/\HzD (0<Y->val rs=X/2^(N-k)%Y/\val qs=X/2^(N-k)/Y*2^(N-k))) (fun _ i _=>N-(intOf i).toNat)
  case atStart=>
   refine ⟨0,o,_,_,aQ _,rfl,Did.of_kept k1 HT.o.1,⟨by simp,jT M⟩,⟨by simp,jT L⟩,ad,ac,(fun b hb=>by simp [Value.ownBlock] at hb;omega),(fun hy=>?_)⟩;rw [kt,kt,et,bJ aU.o,iw,Nat.zero_div,i9];exact ⟨rfl,rfl⟩
  case round=>
   clear ac ad k1;obtain ⟨k,o1,rs,qs,hk,rfl,HD,f,d,J,A,aC,h⟩:=hrel;by_cases hkn:k<N
   ·have bh:(0:Int)<=(k:Int):=cN _;have aZ:(k:Int)<(N:Int):=by omega
    obtain ⟨p,hp⟩:=aj (N-1-k)
    have gp:(N:Int)-1-(k:Int)=(p:Int):=by omega
    have O:p/64<L:=by have:=HN.o;omega
    have aJ:(p:Int)/64<(L:Int):=by omega
    have aK:(0:Int)<=(p:Int)/64:=by omega
    have aL:((p:Int)/64).toNat=p/64:=by omega
    have a:TrRoom wr o1 3:=HD.o.room (by rw [bw];exact HT.o.l (by omega));have am:=HU.o.did HD.o;have an:=HV.o.did HD.o;obtain ⟨_,_,_,e2,_,_,_,_,y⟩:=am.1.open;cases e2
    obtain ⟨b2,a3,rfl,aV⟩:=y (p/64) O;have hx:=ax.o (p/64);obtain ⟨x,S⟩:=aj (xs.getD (p/64) 0)
    rw [<- S] at aV hx;obtain ⟨bt,E⟩:=aj (x/2^(p%64))
    have I:bt<18446744073709551616:=by rw [E];exact fF (em _ _) hx
    have be:(x:Int)/2^(p%64)=(bt:Int):=by rw [E];simp
    have l:bt%2=X/2^p%2:=by rw [E,S,<- m.o,oH]
    have g:=ib J f.o.1 a.1;obtain ⟨T,hT⟩:=aj (j7 (2*val rs+bt%2) Y M)
    have v:T<=1:=by rw [hT];exact rC _ _ _
    have D:=De o1 _ _ rs ys bt I T wr a g an f.o.2 a4.o (by rw [f.o.1,eM.o]) (by rw [eM.o];omega) (by rw [eM.o,<- HY.o];exact hT);rw [HD.o.ptr,<- a5.o,eM.o,<- HY.o] at D;obtain ⟨LF,G⟩:=aj (su (2*val rs+bt%2) Y M)
    rw [<- G] at D;have aD:HzD (0<Y->LF=X/2^p%Y/\T=(2*(X/2^(p+1)%Y)+X/2^p%2)/Y/\val qs=X/2^(p+1)/Y*2^(p+1)):=fun hy=>by
     obtain ⟨v1,v2⟩:=h.o hy;rw [show N-k=p+1 by omega] at v1 v2;obtain ⟨b1,b2⟩:=uy (R:=val rs) (M:=Y) (n:=M) (bit:=bt%2) hy (by rw [v1];exact aY _ hy) av.o;rw [v1,l] at b1 b2;rw [G,hT,v1,l];exact ⟨b2.trans xj,b1,v2⟩
    have ae:HzD (∀ j,qs.getD j 0<18446744073709551616):=fun j=>d.o.2.getD (by omega) _
    have a1:=ae.o (p/64);obtain ⟨ap,aq⟩:=zV (s:=p%64) a1 v;have HP:HzD (N-(k+1)=p):=by unfold HzD;omega
    clear E hT G S y am an g l h hp ae;go_wp2_with fail;refine D.mono ?_;rintro e w2 ⟨v2,rfl,F,o2,d2⟩;have c:=d2.kept.own A (fq A a.1);have az:=aa (HD.o.trans d2);have C:=(d2.room (k:=0) a).1;have aO:¬ dr o2 w.heap.size:=fq c C _ rfl;have t:HzD (∀ b,v2.ownBlock=some b->b≠w.heap.size):=fun b hb e=>by
     have h1:=(F.lt b hb).1;have h2:=fX A;omega
    have V:w2.cell? ⟨w.heap.size,p/64,none⟩=some (.int .u64 (qs.getD (p/64) 0:Nat)):=by
     rw [World.ownsRow.cellAt c (p/64) (by omega),bV,aA,aS (by rw [d.o.1];exact O)];rfl
    have aX:=World.ownsRow.frozenAt c (p/64);obtain ⟨z,hz⟩:=aj (qs.getD (p/64) 0 ||| T*2^(p%64))
    have HZ:=aa hz;rw [<- hz] at ap aq;have U:=aa (World.ownsRow.stored c (p/64) (.int .u64 (z:Int))).1;have aT:HzD (OwnN .u64 24 w2 w.heap.size v2 M (digs LF M)):=dg F (fun b hb=>by have h1:=(F.lt b hb).1;have h2:=HD.o.size;omega);obtain ⟨pi,B⟩:=aj (p/64)
    have gw:IntKind.i64.wrap ((p:Int)/64)=(pi:Int):=jN
    have bg:(pi:Int)<(L:Int):=by omega
    have aF:=aa B;obtain ⟨ps,Q⟩:=aj (p%64)
    have gt:((p:Int)).tmod 64=(ps:Int):=by rw [jO (by omega)];omega
    have bf:(ps:Int)<=64:=by omega
    have bd:=aa Q;rw [<- Q] at ap;rw [<- B] at V aX U;generalize hqz:qs.getD (p/64) 0=q at *;have aH:=aa hqz;rw [B,hqz,<- B] at V;clear D J A HD d2 F c C hz a f aC B Q hqz aJ aK aL;go_wp2_with fail;go_still_tail 10,(by kernel_rfl)
    change wpList _ _ _ _ _ w2.drew
    go_wp2_with fail;go_roundw
    case rel=>
     have k3:Kept (fun b=>b=w.heap.size) w2 (w2.setCell ⟨w.heap.size,pi,none⟩ (.int .u64 (z:Int))).drew:=((ah (fun b=>b=w.heap.size) w2).setCell ⟨w.heap.size,pi,none⟩ (fun _=>rfl) _).drew;have H:OwnN .u64 24 (w2.setCell ⟨w.heap.size,pi,none⟩ (.int .u64 (z:Int))).drew w.heap.size (.slice (some ⟨w.heap.size,0,none⟩) L L) L (qs.set pi z):=by
      unfold OwnN;rw [cG];exact U.o
     refine ⟨k+1,o2,digs LF M,qs.set pi z,by omega,by go_num,?_,⟨ag _ _ _,ak (by omega) _ _⟩,⟨by rw [mo];exact d.o.1,se d.o.2 aq⟩,k3.own aT.o (fun b hb=>t.o b hb),H,t,(fun hy=>?_)⟩
     ·unfold HzD;rw [<- IW];exact az.o.wroteNew k3 (by omega) aO
     ·obtain ⟨v1,v2,v3⟩:=aD.o hy;have ai:=vU (p:=p) hy d.o.2 (by rw [d.o.1];exact O) v3 v2 v;rw [aH.o,<- HZ.o,<- aF.o] at ai;rw [HP.o,ay,ai];exact ⟨by rw [v1,aB (bH (aY _ hy) av.o)],rfl⟩
    case measure=>simp [intOf];omega
   ·have aZ:¬ (k:Int)<(N:Int):=by omega
    obtain rfl:k=N:=by omega
    have af:digs (val qs) L=qs:=(cS (by omega) d.o.2 d.o.1 (by rw [aB];have:=aE (by omega) d.o.2;rwa [d.o.1] at this)).symm;have al:digs (val rs) M=rs:=(cS (by omega) f.o.2 f.o.1 (by rw [aB];have:=aE (by omega) f.o.2;rwa [f.o.1] at this)).symm;have aG:=aa af;have aI:=aa al;clear m ax af al;go_wp2_with fail;go_ret2;refine ⟨_,_,rfl,val qs,by rw [aG.o];exact A,val rs,by rw [aI.o];exact J,(fun hy=>?_),o1,HD.o⟩;obtain ⟨v1,v2⟩:=h.o hy;rw [cj,cP,fC] at v1 v2;exact ⟨by rw [v2,bI],v1⟩
 ·have a0:=oD w M L CM CL au.o ar.o (by omega) (by omega);generalize ((w.alloc (.cells CM 24)).alloc (.cells CL 24)).drew=W1 at *;obtain ⟨ad,ac,k1⟩:=a0;clear Z ab ar au;go_wp2_with fail;go_loopw [9,25] (fun rv i wr=>∃ (k:Nat) (o1:Tr) (rs qs:LN),k<=N/\i=.int .i64 (k:Int)/\HzD (Did w o (List.replicate (3*k) (1,(M:Int),0)) wr o1)/\HzD (rs.length=M/\Digs rs)/\HzD (qs.length=L/\Digs qs)/\OwnN .u64 24 wr w.heap.size rv M rs/\OwnN .u64 24 wr w.heap.size (.slice (some ⟨(w.heap.size+1),0,none⟩) L L) L qs/\HzD (∀ b,rv.ownBlock=some b->b≠(w.heap.size+1))/\HzD (0<Y->val rs=X/2^(N-k)%Y/\val qs=X/2^(N-k)/Y*2^(N-k))) (fun _ i _=>N-(intOf i).toNat)
  case atStart=>
   refine ⟨0,o,_,_,aQ _,rfl,Did.of_kept k1 HT.o.1,⟨by simp,jT M⟩,⟨by simp,jT L⟩,ad,ac,(fun b hb=>by simp [Value.ownBlock] at hb;omega),(fun hy=>?_)⟩;rw [kt,kt,et,bJ aU.o,iw,Nat.zero_div,i9];exact ⟨rfl,rfl⟩
  case round=>
   clear ac ad k1;obtain ⟨k,o1,rs,qs,hk,rfl,HD,f,d,J,A,aC,h⟩:=hrel;by_cases hkn:k<N
   ·have bh:(0:Int)<=(k:Int):=cN _;have aZ:(k:Int)<(N:Int):=by omega
    obtain ⟨p,hp⟩:=aj (N-1-k)
    have gp:(N:Int)-1-(k:Int)=(p:Int):=by omega
    have O:p/64<L:=by have:=HN.o;omega
    have aJ:(p:Int)/64<(L:Int):=by omega
    have aK:(0:Int)<=(p:Int)/64:=by omega
    have aL:((p:Int)/64).toNat=p/64:=by omega
    have a:TrRoom wr o1 3:=HD.o.room (by rw [bw];exact HT.o.l (by omega));have am:=HU.o.did HD.o;have an:=HV.o.did HD.o;obtain ⟨_,_,_,e2,_,_,_,_,y⟩:=am.1.open;cases e2
    obtain ⟨b2,a3,rfl,aV⟩:=y (p/64) O;have hx:=ax.o (p/64);obtain ⟨x,S⟩:=aj (xs.getD (p/64) 0)
    rw [<- S] at aV hx;obtain ⟨bt,E⟩:=aj (x/2^(p%64))
    have I:bt<18446744073709551616:=by rw [E];exact fF (em _ _) hx
    have be:(x:Int)/2^(p%64)=(bt:Int):=by rw [E];simp
    have l:bt%2=X/2^p%2:=by rw [E,S,<- m.o,oH]
    have g:=ib J f.o.1 a.1;obtain ⟨T,hT⟩:=aj (j7 (2*val rs+bt%2) Y M)
    have v:T<=1:=by rw [hT];exact rC _ _ _
    have D:=De o1 _ _ rs ys bt I T wr a g an f.o.2 a4.o (by rw [f.o.1,eM.o]) (by rw [eM.o];omega) (by rw [eM.o,<- HY.o];exact hT);rw [HD.o.ptr,<- a5.o,eM.o,<- HY.o] at D;obtain ⟨LF,G⟩:=aj (su (2*val rs+bt%2) Y M)
    rw [<- G] at D;have aD:HzD (0<Y->LF=X/2^p%Y/\T=(2*(X/2^(p+1)%Y)+X/2^p%2)/Y/\val qs=X/2^(p+1)/Y*2^(p+1)):=fun hy=>by
     obtain ⟨v1,v2⟩:=h.o hy;rw [show N-k=p+1 by omega] at v1 v2;obtain ⟨b1,b2⟩:=uy (R:=val rs) (M:=Y) (n:=M) (bit:=bt%2) hy (by rw [v1];exact aY _ hy) av.o;rw [v1,l] at b1 b2;rw [G,hT,v1,l];exact ⟨b2.trans xj,b1,v2⟩
    have ae:HzD (∀ j,qs.getD j 0<18446744073709551616):=fun j=>d.o.2.getD (by omega) _
    have a1:=ae.o (p/64);obtain ⟨ap,aq⟩:=zV (s:=p%64) a1 v;have HP:HzD (N-(k+1)=p):=by unfold HzD;omega
    clear E hT G S y am an g l h hp ae;go_wp2_with fail;refine D.mono ?_;rintro e w2 ⟨v2,rfl,F,o2,d2⟩;have c:=d2.kept.own A (fq A a.1);have az:=aa (HD.o.trans d2);have C:=(d2.room (k:=0) a).1;have aO:¬ dr o2 (w.heap.size+1):=fq c C _ rfl;have t:HzD (∀ b,v2.ownBlock=some b->b≠(w.heap.size+1)):=fun b hb e=>by
     have h1:=(F.lt b hb).1;have h2:=fX A;omega
    have V:w2.cell? ⟨(w.heap.size+1),p/64,none⟩=some (.int .u64 (qs.getD (p/64) 0:Nat)):=by
     rw [World.ownsRow.cellAt c (p/64) (by omega),bV,aA,aS (by rw [d.o.1];exact O)];rfl
    have aX:=World.ownsRow.frozenAt c (p/64);obtain ⟨z,hz⟩:=aj (qs.getD (p/64) 0 ||| T*2^(p%64))
    have HZ:=aa hz;rw [<- hz] at ap aq;have U:=aa (World.ownsRow.stored c (p/64) (.int .u64 (z:Int))).1;have aT:HzD (OwnN .u64 24 w2 w.heap.size v2 M (digs LF M)):=dg F (fun b hb=>by have h1:=(F.lt b hb).1;have h2:=HD.o.size;omega);obtain ⟨pi,B⟩:=aj (p/64)
    have gw:IntKind.i64.wrap ((p:Int)/64)=(pi:Int):=jN
    have bg:(pi:Int)<(L:Int):=by omega
    have aF:=aa B;obtain ⟨ps,Q⟩:=aj (p%64)
    have gt:((p:Int)).tmod 64=(ps:Int):=by rw [jO (by omega)];omega
    have bf:(ps:Int)<=64:=by omega
    have bd:=aa Q;rw [<- Q] at ap;rw [<- B] at V aX U;generalize hqz:qs.getD (p/64) 0=q at *;have aH:=aa hqz;rw [B,hqz,<- B] at V;clear D J A HD d2 F c C hz a f aC B Q hqz aJ aK aL;go_wp2_with fail;go_still_tail 10,(by kernel_rfl)
    change wpList _ _ _ _ _ w2.drew
    go_wp2_with fail;go_roundw
    case rel=>
     have k3:Kept (fun b=>b=(w.heap.size+1)) w2 (w2.setCell ⟨(w.heap.size+1),pi,none⟩ (.int .u64 (z:Int))).drew:=((ah (fun b=>b=(w.heap.size+1)) w2).setCell ⟨(w.heap.size+1),pi,none⟩ (fun _=>rfl) _).drew;have H:OwnN .u64 24 (w2.setCell ⟨(w.heap.size+1),pi,none⟩ (.int .u64 (z:Int))).drew w.heap.size (.slice (some ⟨(w.heap.size+1),0,none⟩) L L) L (qs.set pi z):=by
      unfold OwnN;rw [cG];exact U.o
     refine ⟨k+1,o2,digs LF M,qs.set pi z,by omega,by go_num,?_,⟨ag _ _ _,ak (by omega) _ _⟩,⟨by rw [mo];exact d.o.1,se d.o.2 aq⟩,k3.own aT.o (fun b hb=>t.o b hb),H,t,(fun hy=>?_)⟩
     ·unfold HzD;rw [<- IW];exact az.o.wroteNew k3 (by omega) aO
     ·obtain ⟨v1,v2,v3⟩:=aD.o hy;have ai:=vU (p:=p) hy d.o.2 (by rw [d.o.1];exact O) v3 v2 v;rw [aH.o,<- HZ.o,<- aF.o] at ai;rw [HP.o,ay,ai];exact ⟨by rw [v1,aB (bH (aY _ hy) av.o)],rfl⟩
    case measure=>simp [intOf];omega
   ·have aZ:¬ (k:Int)<(N:Int):=by omega
    obtain rfl:k=N:=by omega
    have af:digs (val qs) L=qs:=(cS (by omega) d.o.2 d.o.1 (by rw [aB];have:=aE (by omega) d.o.2;rwa [d.o.1] at this)).symm;have al:digs (val rs) M=rs:=(cS (by omega) f.o.2 f.o.1 (by rw [aB];have:=aE (by omega) f.o.2;rwa [f.o.1] at this)).symm;have aG:=aa af;have aI:=aa al;clear m ax af al;go_wp2_with fail;go_ret2;refine ⟨_,_,rfl,val qs,by rw [aG.o];exact A,val rs,by rw [aI.o];exact J,(fun hy=>?_),o1,HD.o⟩;obtain ⟨v1,v2⟩:=h.o hy;rw [cj,cP,fC] at v1 v2;exact ⟨by rw [v2,bI],v1⟩

def qq (L M:Nat):List Ev:=[(1,((M:Nat):Int),0)] ++ List.replicate (3*(64*L)) (1,((M:Nat):Int),0)

theorem lC (L M:Nat):(qq L M).length=1+3*(64*L):=by unfold qq;rw [bk,bw];rfl

theorem Df (o:Tr) (ao bo:OA) (L M i j:Nat) (xs ys:LN) (X Y:Nat) (hX:X=val xs) (hY:Y=val ys) (bT bA bB bQ bR:Nat) (w:World) (ht:TrRoom w o 60000) (hu:RowT w o (.slice ao L i) xs) (hv:RowT w o (.slice bo M j) ys) (C:Digs xs) (n:Digs ys)
  (hT:Box w bT (aP o) 57) (hA:Box w bA (.slice ao L i) 23) (hB:Box w bB (.slice bo M j) 23) (hQ:Box w bQ (.slice none 0 0) 23) (hR:Box w bR (.slice none 0 0) 23) (D:bQ≠bR) :
  ClZ 208 #[.pointer (some ⟨bA,0,none⟩),.pointer (some ⟨bB,0,none⟩),.pointer (some ⟨bT,0,none⟩),.pointer (some ⟨bQ,0,none⟩),.pointer (some ⟨bR,0,none⟩)] w fun e w'=>
   (¬ (L<=300/\M<=300)/\e=.panicked [refusal 2]/\w'=w)\/((L<=300/\M<=300)/\Y=0/\e=.panicked [refusal 1]/\∃ o',Did w o (qq L M) w' o') \/
   ((L<=300/\M<=300)/\Y≠0/\e=.returned (.tuple #[])/\∃ v1 v2 w1 o',OwnN .u64 24 w' w.heap.size v1 L (digs (X/Y) L)/\OwnN .u64 24 w' w.heap.size v2 M (digs (X%Y) M)/\Did w o (qq L M) w1 o'/\Kept (fun b=>b=bQ\/b=bR) w1 w'/\Box w' bQ v1 23/\Box w' bR v2 23):=by
 obtain ⟨_,_,_,e1,ab,_,_,_,_⟩:=hu.1.open;cases e1
 obtain ⟨_,_,_,e1,A,_,_,_,_⟩:=hv.1.open;cases e1
 have eM:=aa A.o;have hP:=fun W=>zX ao bo L M i j W
 obtain ⟨po,s⟩:=aM o;have hZ:=fun (l:M<=300)=>Gt o _ ys w (ht.l (by omega)) hv n (by have:=eM.o;omega)
 rw [<- hY,eM.o] at hZ;rw [s] at hZ hT;have cT:=hT.cell;have cA:=hA.cell;have cB:=hB.cell;have HT:=aa ht;have HU:=aa hu;have HV:=aa hv;have E:=aa hA;have F:=aa hB;have I:=aa hT;have G:=aa hQ;have H:=aa hR;have J:=aa C;have N:=aa n;have HX:=aa hX;have HY:=aa hY;have R:=aa s;clear hu hv C n ab A s hT hA hB hQ hR ht hX hY;delta ClZ;go_in;go_wp2_with fail;refine (hP _).mono ?_;rintro e w1 ⟨⟨l1,l2,rfl⟩ | ⟨l1,rfl⟩,rfl⟩
 ·go_wp2_with fail;refine (hZ l2).mono ?_;rintro e w2 ⟨rfl,o2,d2⟩;have g:=HT.o.1;have U:=(E.o.did d2 g).cell;have V:=(F.o.did d2 g).cell;have Z:=(I.o.did d2 g).cell;have t:=G.o.did d2 g;have v:=H.o.did d2 g;have r2:TrRoom w2 o2 59999:=d2.room (HT.o.l (by simp));have hD:=JV o2 ao bo L M i j xs ys X Y HX.o HY.o w2 (r2.l (by omega)) (HU.o.did d2) (HV.o.did d2) J.o N.o (by omega) (by omega);rw [d2.ptr,R.o] at hD;obtain ⟨nz,p⟩:=aj (dF (decide (Y=0)))
  rw [<- p];have x:=aa p;clear hZ hP cA cB cT p;go_wp2_with fail;refine hD.mono ?_;rintro e w3 ⟨v1,v2,rfl,q,d,r,f,h,o3,d3⟩;have a:=t.did d3 r2.1;have c:=v.did d3 r2.1;have HD:=aa (d2.trans d3);clear hD;by_cases h0:Y=0
  ·have en:nz=1:=by rw [x.o,dV h0];rfl
   have m:=nh 1 w3;go_wp2_with fail;refine m.mono ?_;rintro e w4 ⟨rfl,rfl⟩;exact ⟨rfl,.inr (.inl ⟨⟨l1,l2⟩,h0,rfl,o3,HD.o⟩)⟩
  ·have en:nz=0:=by rw [x.o,cI h0];rfl
   have B:=oV 1 w3;obtain ⟨xo,xc,rfl⟩:=dK d;obtain ⟨yo,yc,rfl⟩:=dK f;have cQ:=a.cell;have fQ:=a.free;have cR:=c.cell;have fR:=c.free;obtain ⟨y,z⟩:=h (by omega);rw [y] at d;rw [z] at f;have ac:=t.lt;have ad:=v.lt;have ae:=d2.size;have kb:Kept (fun b=>b=bQ\/b=bR) w3 (w3.setCell ⟨bQ,0,none⟩ (.slice xo L xc)):=(aF w3 bQ (.slice xo L xc)).mono (fun _ _ e=>.inl e);have k:=kb.next (aF _ bR (.slice yo M yc)) (fun _ _ e=>.inr e)
   have P:=aa (dg (base':=w1.heap.size) (k.own d (fun b hb e=>by have:=(d.lt b hb).1;omega)) (fun b hb=>by have:=(d.lt b hb).1;omega));have Q:=aa (dg (base':=w1.heap.size) (k.own f (fun b hb e=>by have:=(f.lt b hb).1;omega)) (fun b hb=>by have:=(f.lt b hb).1;omega));have S:=aa ((a.set (.slice xo L xc)).other ⟨bR,0,none⟩ D (.slice yo M yc));have T:=aa ((c.other ⟨bQ,0,none⟩ (fun e=>D e.symm) (.slice xo L xc)).set (.slice yo M yc));have O:=aa k;clear d f h a c kb k d2 d3 y z t v U V Z;go_wp2_with fail;refine B.mono ?_;rintro e w4 ⟨rfl,rfl⟩;clear B;go_wp2_with fail;go_end0
   exact .inr (.inr ⟨⟨l1,l2⟩,h0,rfl,_,_,w4,o3,P.o,Q.o,HD.o,O.o,S.o,T.o⟩)
 ·exact ⟨rfl,.inl ⟨l1,rfl,rfl⟩⟩

def pt (L M:Nat):Bool:=decide (L<=300/\M<=300)

def jY (Y L M:Nat):Nat:=if pt L M=true then (if Y=0 then 1 else 0) else 2

def pF (X Y L M:Nat):LN:=if jY Y L M=0 then digs (X/Y) L else []

def lF (X Y L M:Nat):LN:=if jY Y L M=0 then digs (X%Y) M else []

def fj (L M:Nat):List Ev:=if L<=300/\M<=300 then qq L M else []

theorem uG (h:¬ (L<=300/\M<=300)):jY Y L M=2/\pF X Y L M=[]/\lF X Y L M=[]:=by
 have e:jY Y L M=2:=by unfold jY pt;rw [ar (by simpa using h)]
 refine ⟨e,?_,?_⟩
 ·unfold pF;rw [e,aK]
 ·unfold lF;rw [e,aK]

theorem div_zero (h:L<=300/\M<=300) (h0:Y=0):jY Y L M=1/\pF X Y L M=[]/\lF X Y L M=[]:=by
 have e:jY Y L M=1:=by unfold jY pt;rw [ai (by simpa using h),ai h0]
 refine ⟨e,?_,?_⟩
 ·unfold pF;rw [e,aK]
 ·unfold lF;rw [e,aK]

theorem iz (h:L<=300/\M<=300) (h0:Y≠0:=by omega):jY Y L M=0/\pF X Y L M=digs (X/Y) L/\lF X Y L M=digs (X%Y) M:=by
 have e:jY Y L M=0:=by unfold jY pt;rw [ai (by simpa using h),ar h0]
 refine ⟨e,?_,?_⟩
 ·unfold pF;rw [ai e]
 ·unfold lF;rw [ai e]

theorem Dg (o:Tr) (ao bo:OA) (L M f g:Nat) (xs ys:LN) (E:Nat) (hE:E=jY (val ys) L M) (w:World) (ht:TrRoom w o 60000) (hu:RowT w o (.slice ao L f) xs) (hv:RowT w o (.slice bo M g) ys) (P:Digs xs) (Q:Digs ys) :
  ClZ 160 #[aP o,.slice ao L f,.slice bo M g] w fun e w'=>∃ v1 v2,e=.returned (.tuple #[v1,v2,.int .i64 (E:Nat)]) /\
   Row .u64 w' v1 (pF (val xs) (val ys) L M)/\Row .u64 w' v2 (lF (val xs) (val ys) L M)/\((∀ b,v2.ownBlock=some b->w.heap.size<=b)/\U64s w' v2)/\∃ o',Did w o (fj L M) w' o':=by
 have R:=Hp;obtain ⟨po,C⟩:=aM o;have O:=BY w (.pointer po) (.slice ao L f) (.slice bo M g) (.slice none 0 0) (.slice none 0 0) 57 23 23 23 23;have he:∀ args w,(callFunc 208 args).run prog w=.ok (.enter 208 args) w:=fun _ _=>by simp [go_sem]
 obtain ⟨X,hX⟩:=aj (val xs)
 obtain ⟨Y,hY⟩:=aj (val ys)
 rw [C];rw [<- hY] at hE;rw [<- hX,<- hY];have HE:=aa hE;have HX:=aa hX;have HY:=aa hY;clear hE hX hY;delta ClZ;go_in;go_wp2_with fail;generalize ((((w.alloc (.cells #[.pointer po] 57)).alloc (.cells #[.slice ao L f] 23)).alloc (.cells #[.slice bo M g] 23)).alloc (.cells #[.slice none 0 0] 23)).alloc (.cells #[.slice none 0 0] 23)=W at *;obtain ⟨k0,x1,x2,x3,x4,x5,hs⟩:=O;have k1:=k0.alloc (.cells #[.int .i64 0] 35);have xe:=Box.new W (.int .i64 0) 35
 have h1:=Df o ao bo L M f g xs ys X Y HX.o HY.o _ _ _ _ _ _ (ht.g k1) (hu.g k1) (hv.g k1) P Q (by rw [C];exact x1.alloc _) (x2.alloc _) (x3.alloc _) (x4.alloc (.cells #[.int .i64 0] 35)) (x5.alloc _) (by omega);have G:(W.alloc (.cells #[.int .i64 0] 35)).heap.size=W.heap.size+1:=by simp
 refine (oo 208 _ W (fun n W'=>n=(E:Int)/\∃ ro rc ln so sc lm o',Box W' (w.heap.size+1+1+1) (.slice ro ln rc) 23/\Box W' (w.heap.size+1+1+1+1) (.slice so lm sc) 23/\Row .u64 W' (.slice ro ln rc) (pF X Y L M)/\Row .u64 W' (.slice so lm sc) (lF X Y L M)/\(∀ b,(Value.slice ro ln rc).ownBlock=some b->W.heap.size+1<=b)/\((∀ b,(Value.slice so lm sc).ownBlock=some b->W.heap.size+1<=b)/\U64s W' (.slice so lm sc))/\Did w o (fj L M) W' o'/\TrIn W' o') he (h1.mono ?_)).mono ?_
 ·rintro e w' (⟨hl,rfl,rfl⟩ | ⟨hl,h0,rfl,o',hd⟩ | ⟨hl,h0,rfl,v1,v2,w1,o',q,m,hd,hk,h,i⟩)
  ·obtain ⟨e1,e2,e3⟩:=uG (X:=X) (Y:=Y) hl;refine ⟨xe,.inr ⟨2,rfl,by rw [HE.o,e1];rfl,none,0,0,none,0,0,o,x4.alloc _,x5.alloc _,by rw [e2];exact Row.nil _ _,by rw [e3];exact Row.nil _ _,(fun b hb=>by cases hb),⟨(fun b hb=>by cases hb),U64s.nil _⟩,?_,(ht.g k1).1⟩⟩;unfold fj;rw [ar hl];exact Did.of_kept k1 ht.1
  ·obtain ⟨e1,e2,e3⟩:=div_zero (X:=X) hl h0;have d:=(hd.room (k:=0) ((ht.g k1).l (by rw [lC];omega))).1;have s:=(x4.alloc (.cells #[.int .i64 0] 35)).did hd (ht.g k1).1 (by decide) (by decide);have t:=(x5.alloc (.cells #[.int .i64 0] 35)).did hd (ht.g k1).1 (by decide) (by decide);have r:=xe.did hd (ht.g k1).1 (by decide) (by decide);refine ⟨r,.inr ⟨1,rfl,by rw [HE.o,e1];rfl,none,0,0,none,0,0,o',s,t,by rw [e2];exact Row.nil _ _,by rw [e3];exact Row.nil _ _,(fun b hb=>by cases hb),⟨(fun b hb=>by cases hb),U64s.nil _⟩,?_,d⟩⟩;unfold fj;rw [ai hl];exact Did.b k1 hd
  ·obtain ⟨e1,e2,e3⟩:=iz (X:=X) hl h0;rw [G] at q m;have d:=(hd.room (k:=0) ((ht.g k1).l (by rw [lC];omega))).1;have s:=(x4.alloc (.cells #[.int .i64 0] 35)).did hd (ht.g k1).1 (by decide) (by decide);have t:=(x5.alloc (.cells #[.int .i64 0] 35)).did hd (ht.g k1).1 (by decide) (by decide);have r:=(xe.did hd (ht.g k1).1 (by decide) (by decide)).kept hk (by omega);have z:=(Did.b k1 hd).wroteSome hk (fun b hb=>by
    rcases hb with rfl | rfl
    ·exact ⟨by omega,s.apart d⟩
    ·exact ⟨by omega,t.apart d⟩)
   obtain ⟨xo,xc,rfl⟩:=dK q;obtain ⟨yo,yc,rfl⟩:=dK m;refine ⟨r,.inl ⟨rfl,by rw [HE.o,e1];rfl,xo,xc,L,yo,yc,M,o',h,i,by rw [e2];exact dz q (ag _ _ _),by rw [e3];exact dz m (ag _ _ _),(fun b hb=>(q.lt b hb).1),⟨(fun b hb=>(m.lt b hb).1),U64s.own m⟩,?_,(z.room (k:=0) (ht.l (by rw [lC];omega))).1⟩⟩;unfold fj;rw [ai hl];exact z
 ·rintro e w' ⟨n,w1,rfl,⟨⟨rfl,ro,rc,ln,so,sc,lm,o',h,i,D,F,A,l,hd,d⟩,y⟩,rfl⟩;have j:Box w1 W.heap.size (.int .i64 0) 35:=y;have a:=h.other ⟨W.heap.size,0,none⟩ (by show _≠W.heap.size;omega) (.int .i64 (E:Int));have c:=i.other ⟨W.heap.size,0,none⟩ (by show _≠W.heap.size;omega) (.int .i64 (E:Int));have c1:=a.cell;have f1:=a.free;have c2:=c.cell;have f2:=c.free;have B:w.heap.size+1+1+1≠w.heap.size+1+1+1+1:=by omega
  have c3:=((a.set (.slice ro ln rc)).other ⟨w.heap.size+1+1+1+1,0,none⟩ B (.slice so lm sc)).cell;have c4:=((c.other ⟨w.heap.size+1+1+1,0,none⟩ B.symm (.slice ro ln rc)).set (.slice so lm sc)).cell;have H:Kept (fun b=>b=W.heap.size\/b=w.heap.size+1+1+1\/b=w.heap.size+1+1+1+1) w1 (w1.setCell ⟨W.heap.size,0,none⟩ (.int .i64 (E:Int))):=(aF w1 W.heap.size _).mono (fun _ _ e=>.inl e);have I:=H.next (aF _ (w.heap.size+1+1+1) (.slice ro ln rc)) (fun _ _ e=>.inr (.inl e))
  have p:=I.next (aF _ (w.heap.size+1+1+1+1) (.slice so lm sc)) (fun _ _ e=>.inr (.inr e))
  have HD:=aa (hd.wroteSome p (fun b hb=>by
   rcases hb with rfl | rfl | rfl
   ·exact ⟨by omega,j.apart d⟩
   ·exact ⟨by omega,h.apart d⟩
   ·exact ⟨by omega,i.apart d⟩))
  have J:=aa (D.kept p (fun b hb e=>by have:=A b hb;omega));have N:=aa (F.kept p (fun b hb e=>by have:=l.1 b hb;omega));have x:HzD ((∀ b,(Value.slice so lm sc).ownBlock=some b->w.heap.size<=b)/\U64s _ (Value.slice so lm sc)):=⟨fun b hb=>by have:=l.1 b hb;omega,l.2.kept p (fun b hb e=>by have:=l.1 b hb;omega)⟩
  generalize w1.setCell ⟨W.heap.size,0,none⟩ (.int .i64 (E:Int))=W2 at *;clear h1 h i a c D F A l H I p hd d y j hu hv ht x1 x2 x3 x4 x5 xe k0 k1 G he R;go_wp2_with fail;go_region
  all_goals
   go_wp2;refine bodyPost_ret (v:=.tuple #[.slice ro ln rc,.slice so lm sc,.int .i64 (E:Nat)]) (by simp [results,results160,go_sem,c3,c4]) rfl ?_;exact ⟨_,_,rfl,J.o.g (ah _ _).drew,N.o.g (ah _ _).drew,⟨x.o.1,x.o.2.g (ah _ _).drew⟩,o',HD.o.g (ah _ _).drew⟩

def lI (n:Nat):List Ev:=(List.replicate 1 (1,(n:Int),0) ++ de n) ++ (List.replicate 2 (1,(n:Int),0) ++ de n)

theorem CQ {Yx:Nat} (a:V%2=1) (h1:mV n V X Yx) (h2:rK n V Yx Z Y):Y=X*Z%V:=by
 unfold mV at h1;obtain ⟨h2,h3⟩:=h2;have b:Nat.Coprime (2^(64*n)) V:=(ia a).symm;rw [<- aB h2];apply jf b;rw [h3,h1,cH,ep,<- cH,bd]

theorem zF (P:Prop):∃ E:Nat,(E=0↔P)/\E<=1:=by
 by_cases h:P
 ·exact ⟨0,by simp [h],by omega⟩
 ·exact ⟨1,by simp [h],by omega⟩

theorem tS (n:Nat):(de n).length=n+(n+2):=by unfold de;simp

theorem IX (o:Tr) (ao bo xo yo:OA) (n l K a f xc yc bT bM bA bB:Nat) (ms rs xs ys:LN) (w:World)
  (ht:TrRoom w o 4900) (hm:RowT w o (.slice ao n a) ms) (hr:RowT w o (.slice bo l f) rs) (hx:RowT w o (.slice xo n xc) xs) (hy:RowT w o (.slice yo n yc) ys) (i:Digs ms) (k:Digs rs) (z:Digs xs) (A:Digs ys) (hK:K<18446744073709551616) (hn:n<=130)
  (hT:Box w bT (aP o) 57) (hM:w.heap[bM]? = some (.cells (mzA ao n a K bo l f) 71 (0,0))) (hA:Box w bA (.slice xo n xc) 23) (hB:Box w bB (.slice yo n yc) 23) :
  ClZ 104 #[.pointer (some ⟨bT,0,none⟩),.pointer (some ⟨bM,0,none⟩),.pointer (some ⟨bA,0,none⟩),.pointer (some ⟨bB,0,none⟩)] w fun e w'=>∃ v' c,e=.returned (.tuple #[v',.int .i64 ((c:Nat):Int)])/\∃ zs m' o2,Row .u64 w' v' zs/\Lies true w w' v'/\Did w o m' w' o2 /\
   (okMod ms K rs->val xs<val ms->val ys<val ms->(zs=digs (val xs*val ys%val ms) n/\c=0)/\m'=lI n):=by
 obtain ⟨_,_,_,e1,t,_,_,_,_⟩:=hm.1.open;cases e1
 obtain ⟨_,_,_,e1,v,_,_,_,_⟩:=hr.1.open;cases e1
 obtain ⟨po,j⟩:=aM o;have h:=ht.1;obtain ⟨E,hE,D⟩:=zF (okMod ms K rs/\(n=n/\val xs<val ms));have g:=qR o ao bo xo n l K a f n xc E ms rs xs w (ht.l (by omega)) hm hr hx i k z hK (by omega) hE D;have JM:HzD (∀ (W:World) (o1:Tr) (m1:List Ev) (v1:Value) (Yx:Nat),Did w o m1 W o1->m1.length<=2900->Row .u64 W v1 (if E=0 then digs Yx n else [])->U64s W v1->(E=0->mV n (val ms) (val xs) Yx)->m1=List.replicate 1 (1,(n:Int),0) ++ de n ->
   ClZ 105 #[.pointer po,.agg (mzA ao n a K bo l f),v1,.slice yo n yc] W fun e w'=>∃ v' c,e=.returned (.tuple #[v',.int .i64 ((c:Nat):Int)])/\∃ zs m' o2,Row .u64 w' v' zs/\Lies true w w' v'/\Did w o m' w' o2/\(okMod ms K rs->val xs<val ms->val ys<val ms->(zs=digs (val xs*val ys%val ms) n/\c=0)/\m'=lI n)):=fun W o1 m1 v1 Yx d hl B H hG G=>by
  obtain ⟨x1,n1,c1,rfl,s,_,_,_,_⟩:=B.open;have C:TrRoom W o1 2000:=d.room (ht.l (by omega));have F:Digs (if E=0 then digs Yx n else []):=by
   split
   ·exact ak (by omega) _ _
   ·intro d hd;cases hd
  obtain ⟨E2,p,q⟩:=zF (okMod ms K rs/\(n1=n/\val (if E=0 then digs Yx n else [])<val ms)/\(n=n/\val ys<val ms));have:=Hn o1 ao bo x1 yo n l K a f n1 n c1 yc E2 ms rs _ ys W C (hm.did d) (hr.did d) (H.rowT B C.1) (hy.did d) i k F A hK (by omega) p q;rw [d.ptr,j] at this;refine this.mono ?_;rintro e w' ⟨v',rfl,⟨Y,h1,h2⟩,h3,o2,h4⟩;rw [ai hn] at h4;refine ⟨v',E2,rfl,_,_,o2,h1,(fun _=>⟨(fun b hb=>aI d.size (h3.1 b hb)),h3.2⟩),d.trans h4,fun r hx hz=>?_⟩;obtain ⟨f1,f2,f3,f4,f5,f6,f7⟩:=r.a t.o v.o i k hK;obtain rfl:E=0:=hE.2 ⟨r,rfl,hx⟩;have y:Yx<val ms:=by rw [hG rfl];exact bu
  rw [ai rfl,ag] at s;rw [ai rfl,ay,aB (bH y f6)] at p h2;obtain rfl:E2=0:=p.2 ⟨r,⟨s.o.symm,y⟩,rfl,hz⟩;refine ⟨⟨?_,rfl⟩,by rw [G];rfl⟩;rw [ai rfl,CQ f5 (hG rfl) (h2 rfl)]
 have JC:HzD (∀ W m o',Did w o m W o'->W.cell? ⟨bT,0,none⟩=some (.pointer po)/\W.cell? ⟨bB,0,none⟩=some (.slice yo n yc)/\W.cell? ⟨bM,0,none⟩=some (.slice ao n a)/\W.cell? ⟨bM,1,none⟩=some (.int .u64 (K:Nat))/\W.cell? ⟨bM,2,none⟩=some (.slice bo l f)):=fun W m o' d=>by
  rw [<- j];exact ⟨(hT.did d h).cell,(hB.did d h).cell,ax ((d.kept.block _ (lt_of_block hM) (aH hM h)).trans hM)⟩
 have cA:=hA.cell;obtain ⟨cT,cB,p0,p1,p2⟩:=JC.o _ _ _ (Did.of_kept (ah af w) h);rw [j] at g;unfold Answered at g;rw [ai hn] at g;clear hm hr hx hy i k z A hK hT hM hA hB j h ht t v hE;generalize mV n (val ms) (val xs)=G1 at *;delta ClZ;go_in;go_wp2_with fail;refine g.mono ?_;rintro e w1 ⟨v1,rfl,⟨Yx,h1,h2⟩,h3,o1,d1⟩;obtain ⟨cT,cB,p0,p1,p2⟩:=JC.o _ _ _ d1;have x:=JM.o w1 o1 _ v1 Yx d1 (by rw [bk,bw,tS];omega) h1 h3.2 h2 rfl;clear g cA h1 h2 h3;go_wp2_with fail;refine x.mono ?_;rintro e w2 ⟨v2,c2,rfl,h4⟩;clear x;go_wp2_with fail;go_ret2;exact ⟨_,c2,rfl,h4⟩

theorem LK (o:Tr) (ao bo xo yo:OA) (n l K a b N1 N2 xc yc:Nat) (ms rs xs ys:LN) (w:World)
  (ht:TrRoom w o 5000) (hm:RowT w o (.slice ao n a) ms) (hr:RowT w o (.slice bo l b) rs) (hx:RowT w o (.slice xo N1 xc) xs) (hy:RowT w o (.slice yo N2 yc) ys) (C:Digs ms) (E:Digs rs) (A:Digs xs) (B:Digs ys) (hK:K<18446744073709551616) (L:n<=1000000) (F:N1<=1000000000) (G:N2<=1000000000) :
  ClZ 62 #[aP o,.agg (mzA ao n a K bo l b),.slice xo N1 xc,.slice yo N2 yc] w fun e w'=>∃ v' c,e=.returned (.tuple #[v',.int .i64 ((c:Nat):Int)])/\Asked w o true (okMod ms K rs/\(N1=n/\val xs<val ms)/\(N2=n/\val ys<val ms)) (fun zs c=>zs=digs (val xs*val ys%val ms) n/\c=0) (List.replicate 2 (1,(n:Int),0) ++ lI n) w' v' c:=by
 have he:∀ args w,(callFunc 104 args).run prog w=.ok (.enter 104 args) w:=fun _ _=>by simp [go_sem]
 obtain ⟨po,D⟩:=aM o;obtain ⟨W,hW⟩:=aj ((((w.alloc (.cells #[.pointer po] 57)).alloc (.cells (mzA ao n a K bo l b) 71)).alloc (.cells #[.slice xo N1 xc] 23)).alloc (.cells #[.slice yo N2 yc] 23))
 have k0:Kept af w W:=by rw [hW];exact ((((ah af w).alloc _).alloc _).alloc _).alloc _
 have z:Box W w.heap.size (.pointer po) 57:=by rw [hW];exact (((Box.new w _ _).alloc _).alloc _).alloc _
 have j:W.heap[w.heap.size+1]? = some (.cells (mzA ao n a K bo l b) 71 (0,0)):=by
  rw [hW];refine aw (aw ?_);have:=heap_alloc_new (w.alloc (.cells #[.pointer po] 57)) (.cells (mzA ao n a K bo l b) 71)
  rwa [show (w.alloc (.cells #[.pointer po] 57)).heap.size=w.heap.size+1 by simp] at this
 have x:Box W (w.heap.size+1+1) (.slice xo N1 xc) 23:=by
  rw [hW];refine Box.alloc ?_ _;have:=Box.new ((w.alloc (.cells #[.pointer po] 57)).alloc (.cells (mzA ao n a K bo l b) 71)) (.slice xo N1 xc) 23
  rwa [show ((w.alloc (.cells #[.pointer po] 57)).alloc (.cells (mzA ao n a K bo l b) 71)).heap.size=w.heap.size+1+1 by simp] at this
 have y:Box W (w.heap.size+1+1+1) (.slice yo N2 yc) 23:=by
  rw [hW];have:=Box.new (((w.alloc (.cells #[.pointer po] 57)).alloc (.cells (mzA ao n a K bo l b) 71)).alloc (.cells #[.slice xo N1 xc] 23)) (.slice yo N2 yc) 23
  rwa [show (((w.alloc (.cells #[.pointer po] 57)).alloc (.cells (mzA ao n a K bo l b) 71)).alloc (.cells #[.slice xo N1 xc] 23)).heap.size=w.heap.size+1+1+1 by simp] at this
 obtain ⟨Wl,s⟩:=aj (W.alloc (.cells #[.slice xo N1 xc,.slice yo N2 yc] 23))
 have kl:Kept af W Wl:=by rw [s];exact (ah af W).alloc _
 have t:Wl.heap[W.heap.size]? = some (.cells #[.slice xo N1 xc,.slice yo N2 yc] 23 (0,0)):=by rw [s];exact heap_alloc_new _ _
 have kk:=k0.trans kl;have g:=th o ao bo (some ⟨W.heap.size,0,none⟩) n l K a b 2 2 104 #[.pointer (some ⟨w.heap.size,0,none⟩),.pointer (some ⟨w.heap.size+1,0,none⟩),.pointer (some ⟨w.heap.size+1+1,0,none⟩),.pointer (some ⟨w.heap.size+1+1+1,0,none⟩)]
  (fun i=>if i=0 then xo else yo) (fun i=>if i=0 then N1 else N2) (fun i=>if i=0 then xc else yc) (fun i=>if i=0 then xs else ys) ms rs 4998 (lI n) true (fun zs c=>zs=digs (val xs*val ys%val ms) n/\c=0) Wl
  (ht.g kk) (hm.g kk) (hr.g kk) C E hK (by omega) (by omega)
  (fun i hi=>by
   have k:i=0\/i=1:=by omega
   rcases k with rfl | rfl
   ·exact F
   ·exact G)
  (fun W' m o' d=>pf ((d.kept.block _ (lt_of_block t) (aH t (ht.g kk).1 (by decide) (by decide))).trans t))
  (fun i hi=>by
   have k:i=0\/i=1:=by omega
   rcases k with rfl | rfl
   ·exact hx.g kk
   ·exact hy.g kk)
  (fun i hi=>by
   have k:i=0\/i=1:=by omega
   rcases k with rfl | rfl
   ·exact A
   ·exact B)
  he
  (fun hn q W' m o' d r=>by
   have v:=(ht.g kk).1;have e1:N1=n:=q 0 (by omega);have e2:N2=n:=q 1 (by omega);subst e1;subst e2
   refine (IX o' ao bo xo yo N2 l K a b xc yc w.heap.size (w.heap.size+1) (w.heap.size+1+1) (w.heap.size+1+1+1) ms rs xs ys W' (r.l (by omega)) ((hm.g kk).did d) ((hr.g kk).did d) ((hx.g kk).did d) ((hy.g kk).did d) C E A B hK hn (by rw [d.ptr,D];exact (z.g kl).did d v) ((d.kept.block _ (lt_of_block ((kl.block _ (lt_of_block j) (fun f=>f)).trans j)) (aH ((kl.block _ (lt_of_block j) (fun f=>f)).trans j) v)).trans ((kl.block _ (lt_of_block j) (fun f=>f)).trans j)) ((x.g kl).did d v) ((y.g kl).did d v)).mono ?_
   rintro e w' ⟨v',c,rfl,zs,m',o2,h1,h2,h3,h4⟩;exact ⟨v',c,rfl,zs,m',o2,h1,h2,h3,fun M H=>h4 M (H 0 (by omega)).2 (H 1 (by omega)).2⟩)
 have p:(okMod ms K rs/\jC 2 n (val ms) (fun i=>if i=0 then N1 else N2) (fun i=>if i=0 then xs else ys))↔(okMod ms K rs/\(N1=n/\val xs<val ms)/\(N2=n/\val ys<val ms)):=by
  refine and_congr_right fun _=>⟨fun h=>⟨h 0 (by omega),h 1 (by omega)⟩,fun h i hi=>?_⟩
  have k:i=0\/i=1:=by omega
  rcases k with rfl | rfl
  ·exact h.1
  ·exact h.2
 rw [p] at g;have HB:HzD (∀ w' v' c,Asked Wl o true (okMod ms K rs/\(N1=n/\val xs<val ms)/\(N2=n/\val ys<val ms)) (fun zs c=>zs=digs (val xs*val ys%val ms) n/\c=0) (List.replicate 2 (1,(n:Int),0) ++ lI n) w' v' c->Asked w o true (okMod ms K rs/\(N1=n/\val xs<val ms)/\(N2=n/\val ys<val ms)) (fun zs c=>zs=digs (val xs*val ys%val ms) n/\c=0) (List.replicate 2 (1,(n:Int),0) ++ lI n) w' v' c):=fun w' v' c h=>h.b kk
 have I:W.heap.size=w.heap.size+1+1+1+1:=by rw [hW];simp
 rw [I] at g;have HW:=aa hW;have J:=aa s;obtain ⟨c3,c4,c5⟩:=ax j;have c0:=z.cell;have c1:=x.cell;have c2:=y.cell;rw [D] at g ⊢;clear ht hm hr hx hy C E A B hK L D k0 z j x y hW s t kk kl he I p F G;generalize (okMod ms K rs/\(N1=n/\val xs<val ms)/\(N2=n/\val ys<val ms))=PP at *;generalize (fun zs c=>zs=digs (val xs*val ys%val ms) n/\c=0)=RR at *;generalize List.replicate 2 (1,(n:Int),0) ++ lI n=EE at *;delta ClZ;go_in;go_wp2_with fail;rw [<- HW.o,<- J.o];refine g.mono ?_;rintro e w1 ⟨v1,c,rfl,h1⟩;have H1:=aa (HB.o _ _ _ h1);clear g h1 c0 c1 c2 c3 c4 c5;go_wp2_with fail;go_ret2
 exact ⟨_,c,rfl,H1.o⟩

theorem I0 (o:Tr) (ao bo xo:OA) (n l K a b N1 xc bT bM bA:Nat) (ms xs:LN) (w:World)
  (ht:TrRoom w o 60000) (hm:RowT w o (.slice ao n a) ms) (hx:RowT w o (.slice xo N1 xc) xs) (f:Digs ms) (d:Digs xs)
  (hT:Box w bT (aP o) 57) (hM:w.heap[bM]? = some (.cells (mzA ao n a K bo l b) 71 (0,0))) (hA:Box w bA (.slice xo N1 xc) 23) :
  ClZ 159 #[.pointer (some ⟨bT,0,none⟩),.pointer (some ⟨bA,0,none⟩),.pointer (some ⟨bM,0,none⟩)] w fun e w'=>∃ v' c,e=.returned (.tuple #[v',.int .i64 ((c:Nat):Int)])/\∃ zs m' o2,Row .u64 w' v' zs/\Lies true w w' v'/\Did w o m' w' o2 /\
   ((zs=lF (val xs) (val ms) N1 n/\c=jY (val ms) N1 n)/\m'=fj N1 n):=by
 obtain ⟨po,g⟩:=aM o;obtain ⟨E,hE⟩:=aj (jY (val ms) N1 n)
 have hD:=Dg o xo ao N1 n xc a xs ms E hE w ht hx hm d f;rw [<- hE];have cT:=hT.cell;have cA:=hA.cell;obtain ⟨p0,p1,p2⟩:=ax hM;rw [g] at hD cT;clear hm hx f d hT hM hA g ht hE;generalize lF (val xs) (val ms) N1 n=RL at *;generalize fj N1 n=DS at *;delta ClZ;go_in;go_wp2_with fail;refine hD.mono ?_;rintro e w1 ⟨v1,v2,rfl,_,h2,h3,o1,h4⟩;clear hD cT cA p0 p1 p2;go_wp2_with fail;go_ret2;exact ⟨_,E,rfl,_,_,o1,h2,fun _=>h3,h4,⟨rfl,rfl⟩,rfl⟩

theorem LM (o:Tr) (ao bo xo:OA) (n l K a b N1 xc:Nat) (ms rs xs:LN) (w:World)
  (ht:TrRoom w o 60000) (hm:RowT w o (.slice ao n a) ms) (hr:RowT w o (.slice bo l b) rs) (hx:RowT w o (.slice xo N1 xc) xs) (q:Digs ms) (x:Digs rs) (v:Digs xs) (hK:K<18446744073709551616) (z:n<=1000000) :
  ClZ 102 #[aP o,.agg (mzA ao n a K bo l b),.slice xo N1 xc] w fun e w'=>∃ v' c,e=.returned (.tuple #[v',.int .i64 ((c:Nat):Int)])/\Asked w o true (okMod ms K rs) (fun zs c=>zs=lF (val xs) (val ms) N1 n/\c=jY (val ms) N1 n) (List.replicate 0 (1,(n:Int),0) ++ fj N1 n) w' v' c:=by
 have he:∀ args w,(callFunc 159 args).run prog w=.ok (.enter 159 args) w:=fun _ _=>by simp [go_sem]
 obtain ⟨po,r⟩:=aM o;obtain ⟨W,hW⟩:=aj (((w.alloc (.cells #[.pointer po] 57)).alloc (.cells (mzA ao n a K bo l b) 71)).alloc (.cells #[.slice xo N1 xc] 23))
 have k0:Kept af w W:=by rw [hW];exact (((ah af w).alloc _).alloc _).alloc _
 have p:Box W w.heap.size (.pointer po) 57:=by rw [hW];exact ((Box.new w _ _).alloc _).alloc _
 have g:W.heap[w.heap.size+1]? = some (.cells (mzA ao n a K bo l b) 71 (0,0)):=by
  rw [hW];refine aw ?_;have:=heap_alloc_new (w.alloc (.cells #[.pointer po] 57)) (.cells (mzA ao n a K bo l b) 71)
  rwa [show (w.alloc (.cells #[.pointer po] 57)).heap.size=w.heap.size+1 by simp] at this
 have t:Box W (w.heap.size+1+1) (.slice xo N1 xc) 23:=by
  rw [hW];have:=Box.new ((w.alloc (.cells #[.pointer po] 57)).alloc (.cells (mzA ao n a K bo l b) 71)) (.slice xo N1 xc) 23
  rwa [show ((w.alloc (.cells #[.pointer po] 57)).alloc (.cells (mzA ao n a K bo l b) 71)).heap.size=w.heap.size+1+1 by simp] at this
 have f:=th o ao bo none n l K a b 0 0 159 #[.pointer (some ⟨w.heap.size,0,none⟩),.pointer (some ⟨w.heap.size+1+1,0,none⟩),.pointer (some ⟨w.heap.size+1,0,none⟩)]
  (fun _=>none) (fun _=>0) (fun _=>0) (fun _=>[]) ms rs 60000 (fj N1 n) true (fun zs c=>zs=lF (val xs) (val ms) N1 n/\c=jY (val ms) N1 n) W
  ((ht.g k0).l (by omega)) (hm.g k0) (hr.g k0) q x hK (by omega) (by omega)
  (fun i hi=>absurd hi (by omega)) (fun W' m o' d i hi=>absurd hi (by omega)) (fun i hi=>absurd hi (by omega)) (fun i hi=>absurd hi (by omega))
  he
  (fun hn y W' m o' d k=>by
   have s:=(ht.g k0).1;refine (I0 o' ao bo xo n l K a b N1 xc w.heap.size (w.heap.size+1) (w.heap.size+1+1) ms xs W' k ((hm.g k0).did d) ((hx.g k0).did d) q v (by rw [d.ptr,r];exact p.did d s) ((d.kept.block _ (lt_of_block g) (aH g s)).trans g) (t.did d s)).mono ?_;rintro e w' ⟨v',c,rfl,zs,m',o2,h1,h2,h3,h4⟩;exact ⟨v',c,rfl,zs,m',o2,h1,h2,h3,fun _ _=>h4⟩)
 have j:(okMod ms K rs/\jC 0 n (val ms) (fun _=>0) (fun _=>[]))↔okMod ms K rs:=⟨fun h=>h.1,fun h=>⟨h,fun i hi=>absurd hi (by omega)⟩⟩
 rw [j] at f;have HB:HzD (∀ w' v' c,Asked W o true (okMod ms K rs) (fun zs c=>zs=lF (val xs) (val ms) N1 n/\c=jY (val ms) N1 n) (List.replicate 0 (1,(n:Int),0) ++ fj N1 n) w' v' c->Asked w o true (okMod ms K rs) (fun zs c=>zs=lF (val xs) (val ms) N1 n/\c=jY (val ms) N1 n) (List.replicate 0 (1,(n:Int),0) ++ fj N1 n) w' v' c):=fun w' v' c h=>h.b k0
 have HW:=aa hW;obtain ⟨c3,c4,c5⟩:=ax g;have c0:=p.cell;rw [r] at f ⊢;clear ht hm hr hx q x v hK z r k0 p g t hW he j;generalize (okMod ms K rs)=PP at *;generalize (fun zs c=>zs=lF (val xs) (val ms) N1 n/\c=jY (val ms) N1 n)=RR at *;generalize List.replicate 0 (1,(n:Int),0) ++ fj N1 n=EE at *;delta ClZ;go_in;go_wp2_with fail;rw [<- HW.o];refine f.mono ?_;rintro e w1 ⟨v1,c,rfl,h1⟩;have H1:=aa (HB.o _ _ _ h1);clear f h1 c0 c3 c4 c5;go_wp2_with fail;go_ret2;exact ⟨_,c,rfl,H1.o⟩

theorem me {K:Nat} (h:eS V=0) (hK:rM V K):okMod (jF V) K (j4 V)/\(jF V).length=am V/\(j4 V).length=am V/\val (jF V)=V/\Digs (jF V)/\Digs (j4 V):=by
 have hM:jF V=digs V (am V):=by unfold jF;rw [ai h]
 have hR:j4 V=digs (2^(128*am V)%V) (am V):=by unfold j4;rw [ai h]
 have hv:val (jF V)=V:=by rw [hM,ay,aB ((aC V _).1 (leR _))]
 refine ⟨?_,by rw [hM,ag],by rw [hR,ag],hv,by rw [hM];exact ak (by omega) _ _,by rw [hR];exact ak (by omega) _ _⟩;unfold okMod;rw [hv];exact ⟨h,rfl,hK,rfl⟩

end Go.Proofs.YtpkmoamgpjcdeaaGreatDoor
